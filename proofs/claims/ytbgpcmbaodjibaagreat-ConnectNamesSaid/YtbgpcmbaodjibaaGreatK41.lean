/-
  The regions of ConnectBack that read a body that is cut: by the final frame, with a ghost: what Read's packet's addresses are, where it is stored. Condition: none.
-/
import Derived.Test.YtbgpcmbaodjibaaGreatK02
import Derived.Test.YtbgpcmbaodjibaaGreatK21
namespace Go.Proofs.YtbgpcmbaodjibaaGreat
open Go.RowKit

/-- What hangs on the world: Read's addresses, the packet's block, the byte's slice. -/
structure RdG where
  a : Option Ad
  b : Option Nat
  s : Option Nat
/-- What Read hands back, once it has. -/
def rdVal (R : Pk × Nat) : Option Ad → Value
  | some a => .tuple #[.agg (pkC R.1 a), .int .i64 (R.2 : Nat)]
  | none => undef
def rdPk (R : Pk × Nat) : Option Ad → Value
  | some a => .agg (pkC R.1 a)
  | none => undef
def ptrAt : Option Nat → Value
  | some g => .pointer (some ⟨g, 0, none⟩)
  | none => undef
section
variable {a : Act} {w : World} {d : Option Tmp} {p : String} {af : Array Edge} {gd : Option (Nat × Bool)} {x y z : Tmp} {r : TypeId}
theorem cl_a0 {g : Nat} (hx : a.eval (.tmp x) = .pointer (some ⟨g, 0, none⟩)) :
    (execOp a.eval { dst := d, op := .fieldAddr 32 (.tmp x) 0, type := r, pos := p, after := af, guard := gd }).run Tryz.prog w = .ok (.value (.pointer (some ⟨g, 0, none⟩))) w := by
  generalize a.eval = f at *
  go_simp
theorem cl_l0 {g : Nat} {k : Int} (hx : a.eval (.tmp x) = .pointer (some ⟨g, 0, none⟩)) (hc : w.cell? ⟨g, 0, none⟩ = some (.int .i64 k)) :
    (execOp a.eval { dst := d, op := .load 3 (.tmp x), type := 3, pos := p, after := af, guard := gd }).run Tryz.prog w = .ok (.value (.int .i64 k)) w := by
  generalize a.eval = f at *
  go_simp
theorem cl_len {s : ByteArray} (hx : a.eval (.tmp x) = .string s) :
    (execOp a.eval { dst := d, op := .call { callee := .builtin .len, args := #[.tmp x], argTypes := #[9] }, type := r, pos := p, after := af, guard := gd }).run Tryz.prog w = .ok (.value (.int .i64 (s.size : Nat))) w := by
  generalize a.eval = f at *
  go_simp
theorem cl_cut {s : ByteArray} {m : Int} (hx : a.eval (.tmp x) = .string s) (hy : a.eval (.tmp y) = .int .i64 m) (h0 : 0 ≤ m) (h1 : m ≤ (s.size : Int)) :
    (execOp a.eval { dst := d, op := .slice 9 (.tmp x) none (some (.tmp y)) none, type := r, pos := p, after := af, guard := gd }).run Tryz.prog w = .ok (.value (.string (s.extract 0 m.toNat))) w := by
  obtain ⟨n, rfl⟩ := Int.eq_ofNat_of_zero_le h0
  generalize a.eval = f at *
  go_simp
theorem cl_alloc  (hz : (zeroValue 32).run Tryz.prog w = .ok (.agg pkZ) w) :
    (execOp a.eval { dst := d, op := .alloc 32, type := r, pos := p, after := af, guard := gd }).run Tryz.prog w = .ok (.value (.pointer (some ⟨w.heap.size, 0, none⟩))) (w.alloc (.cells pkZ 32)) := by
  have hne : ¬ pkZ = #[] := by intro h; have := pkZ_size; rw [h] at this; cases this
  generalize a.eval = f at *
  go_simp
theorem cl_store {g : Nat} {D old : Array Value} (hx : a.eval (.tmp x) = .pointer (some ⟨g, 0, none⟩)) (hy : a.eval (.tmp y) = .agg D) (hD : D.size = 25) (h1 : D.all (·.oneCell') = true) (hg : w.heap[g]? = some (.cells old 32 (0, 0))) (ho : old.size = 25) :
    (execOp a.eval { dst := d, op := .store 32 (.tmp x) (.tmp y), type := r, pos := p, after := af, guard := gd }).run Tryz.prog w = .ok .skip (w.setRow g D) := by
  unfold execOp
  simp only [hx, hy, Instr.storeAt, Instr.sureAddr, Sem.run_bind, Sem.run_pure, Result.andThen_ok, run_storeVar_row w g 32 32 old D hg (by rw [hD]; exact info_pk) (by rw [ho, hD]) h1]
theorem cl_ex0 {u v : Value} (hx : a.eval (.tmp x) = .tuple #[u, v]) :
    (execOp a.eval { dst := d, op := .extract (.tmp x) 0, type := r, pos := p, after := af, guard := gd }).run Tryz.prog w = .ok (.value u) w := by
  generalize a.eval = f at *
  go_simp
theorem cl_ex1 {u v : Value} (hx : a.eval (.tmp x) = .tuple #[u, v]) :
    (execOp a.eval { dst := d, op := .extract (.tmp x) 1, type := r, pos := p, after := af, guard := gd }).run Tryz.prog w = .ok (.value v) w := by
  generalize a.eval = f at *
  go_simp
theorem re_polyglotkit_Pick {ts : Array TypeId} {u v : Value} (hx : a.eval (.tmp x) = u) (hy : a.eval (.tmp y) = v) :
    (execOp a.eval { dst := d, op := .call { callee := .value (.func 20), args := #[.tmp x, .tmp y], argTypes := ts }, type := r, pos := p, after := af, guard := gd }).run Tryz.prog w = .ok (.enter 20 #[u, v]) w := by
  have hf : a.eval (.func 20) = .func (.func 20) #[] #[] := rfl
  generalize a.eval = f at *
  go_simp
theorem re_connect_Read {ts : Array TypeId} {u v u3 : Value} (hx : a.eval (.tmp x) = u) (hy : a.eval (.tmp y) = v) (hz : a.eval (.tmp z) = u3) :
    (execOp a.eval { dst := d, op := .call { callee := .value (.func 10), args := #[.tmp x, .tmp y, .tmp z], argTypes := ts }, type := r, pos := p, after := af, guard := gd }).run Tryz.prog w = .ok (.enter 10 #[u, v, u3]) w := by
  have hf : a.eval (.func 10) = .func (.func 10) #[] #[] := rfl
  generalize a.eval = f at *
  go_simp
end
set_option maxRecDepth 100000 in
set_option maxHeartbeats 4000000 in
theorem back_cut {Q : Exit → Act → World → Prop} {S : RdG → World → Prop} {W : World} {R : Pk × Nat} {B : Nat} {v k c m : Int} {A : ByteArray} {x1 x2 x3 x5 x7 x8 x9 x10 x12 x13 x14 x15 x16 x17 x18 x19 x20 x21 x22 x23 x24 x25 x26 x27 x28 x29 x30 x31 x32 x33 x34 x35 x36 x37 x38 x39 x40 x41 x42 x43 x44 x45 x46 x47 x48 x49 x50 x51 x52 x53 x54 x55 x56 x57 x58 x59 x60 x61 x62 x63 x64 x65 x66 x67 x68 x69 x70 x71 x72 x73 x74 x75 x76 x77 x78 x79 x80 x81 x82 x83 x84 x85 x86 x87 x88 x89 x90 x91 x92 x93 x94 x95 x96 x97 x98 x99 x100 x101 x102 x103 x104 x105 x106 : Value}
    (hS : S ⟨none, none, none⟩ W.drew) (K0 : ∀ x w, S x w → w.cell? ⟨B, 0, none⟩ = some (.int .i64 k)) (hm0 : 0 ≤ m) (hm1 : m ≤ (A.size : Int))
    (H68 : ∀ (x : RdG) (w : World), S x w → Calls Tryz.prog 20 #[.int .i64 c, .int .i64 (A.size : Nat)] w fun e w' => e = .returned (.int .i64 m) ∧ S x w')
    (RD : ∀ (x : RdG) (w : World), S x w → Calls Tryz.prog 10 #[.int .i64 v, .int .i64 k, .string (A.extract 0 m.toNat)] w fun e w' => ∃ a, e = .returned (.tuple #[.agg (pkC R.1 a), .int .i64 (R.2 : Nat)]) ∧ S { x with a := some a } w')
    (AL : ∀ (x : RdG) (w : World), S x w → S { x with b := some w.heap.size } (w.alloc (.cells pkZ 32)))
    (SO : ∀ (x : RdG) (w : World), S x w → ∀ g, x.b = some g → ∃ old, w.heap[g]? = some (.cells old 32 (0, 0)) ∧ old.size = 25)
    (ST : ∀ (x : RdG) (w : World), S x w → ∀ a g, x.a = some a → x.b = some g → S x (w.setRow g (pkC R.1 a)))
    (fin : ∀ (x : RdG) (xa : Option Ad) (xb : Value) w, S x w → Q .normal ⟨#[(.int .i64 v), x1, x2, x3, (.int .i64 c), x5, (.pointer (some ⟨B, 0, none⟩)), x7, x8, x9, x10, (.string A), x12, x13, x14, xb, (.int .i64 (R.2 : Nat)), x17, x18, x19, x20, x21, x22, x23, x24, x25, x26, x27, x28, x29, x30, x31, x32, x33, x34, x35, x36, x37, x38, x39, x40, x41, x42, x43, x44, x45, x46, x47, x48, x49, x50, x51, x52, x53, x54, x55, x56, x57, x58, x59, (rdVal R xa), (.int .i64 v), (.pointer (some ⟨B, 0, none⟩)), (.int .i64 k), (.string A), (.int .i64 c), (.string A), (.int .i64 (A.size : Nat)), (.int .i64 m), (.string (A.extract 0 m.toNat)), (rdVal R xa), (rdPk R xa), (.int .i64 (R.2 : Nat)), x73, x74, x75, x76, x77, x78, x79, x80, x81, x82, x83, x84, x85, x86, x87, x88, x89, x90, x91, x92, x93, x94, x95, x96, x97, x98, x99, x100, x101, x102, x103, x104, x105, x106], []⟩ w) :
    (Code.region 12 (RegEnv.opsAt 12 Tryz.f5.body) true).wp Tryz.prog Q ⟨#[(.int .i64 v), x1, x2, x3, (.int .i64 c), x5, (.pointer (some ⟨B, 0, none⟩)), x7, x8, x9, x10, (.string A), x12, x13, x14, x15, x16, x17, x18, x19, x20, x21, x22, x23, x24, x25, x26, x27, x28, x29, x30, x31, x32, x33, x34, x35, x36, x37, x38, x39, x40, x41, x42, x43, x44, x45, x46, x47, x48, x49, x50, x51, x52, x53, x54, x55, x56, x57, x58, x59, x60, x61, x62, x63, x64, x65, x66, x67, x68, x69, x70, x71, x72, x73, x74, x75, x76, x77, x78, x79, x80, x81, x82, x83, x84, x85, x86, x87, x88, x89, x90, x91, x92, x93, x94, x95, x96, x97, x98, x99, x100, x101, x102, x103, x104, x105, x106], []⟩ W := by
  refine RegGhost.wp (x := (⟨none, none, none⟩ : RdG)) (S := S) (made := fun i x => (i = 9 → x.a.isSome = true) ∧ (i = 13 → x.b.isSome = true)) (war := []) (ds := [61, 62, 63, 64, 65, 66, 67, 68, 69, 70, 60, 71, 72, 15, 16]) (A := [(.int .i64 v), x1, x2, x3, (.int .i64 c), x5, (.pointer (some ⟨B, 0, none⟩)), x7, x8, x9, x10, (.string A), x12, x13, x14, x15, x16, x17, x18, x19, x20, x21, x22, x23, x24, x25, x26, x27, x28, x29, x30, x31, x32, x33, x34, x35, x36, x37, x38, x39, x40, x41, x42, x43, x44, x45, x46, x47, x48, x49, x50, x51, x52, x53, x54, x55, x56, x57, x58, x59, x60, x61, x62, x63, x64, x65, x66, x67, x68, x69, x70, x71, x72, x73, x74, x75, x76, x77, x78, x79, x80, x81, x82, x83, x84, x85, x86, x87, x88, x89, x90, x91, x92, x93, x94, x95, x96, x97, x98, x99, x100, x101, x102, x103, x104, x105, x106]) (B := fun x => [(.int .i64 v), x1, x2, x3, (.int .i64 c), x5, (.pointer (some ⟨B, 0, none⟩)), x7, x8, x9, x10, (.string A), x12, x13, x14, (ptrAt x.b), (.int .i64 (R.2 : Nat)), x17, x18, x19, x20, x21, x22, x23, x24, x25, x26, x27, x28, x29, x30, x31, x32, x33, x34, x35, x36, x37, x38, x39, x40, x41, x42, x43, x44, x45, x46, x47, x48, x49, x50, x51, x52, x53, x54, x55, x56, x57, x58, x59, (rdVal R x.a), (.int .i64 v), (.pointer (some ⟨B, 0, none⟩)), (.int .i64 k), (.string A), (.int .i64 c), (.string A), (.int .i64 (A.size : Nat)), (.int .i64 m), (.string (A.extract 0 m.toNat)), (rdVal R x.a), (rdPk R x.a), (.int .i64 (R.2 : Nat)), x73, x74, x75, x76, x77, x78, x79, x80, x81, x82, x83, x84, x85, x86, x87, x88, x89, x90, x91, x92, x93, x94, x95, x96, x97, x98, x99, x100, x101, x102, x103, x104, x105, x106]) (D := []) (by kernel_rfl) (by kernel_rfl) (by kernel_rfl) ?_ hS ?_ (fun x w hm hS => fin x x.a (ptrAt x.b) w hS)
  · exact fun x => ⟨.inr rfl, ⟨.inr rfl, ⟨.inr rfl, ⟨.inr rfl, ⟨.inr rfl, ⟨.inr rfl, ⟨.inr rfl, ⟨.inr rfl, ⟨.inr rfl, ⟨.inr rfl, ⟨.inr rfl, ⟨.inr rfl, ⟨.inr rfl, ⟨.inr rfl, ⟨.inr rfl, ⟨.inl rfl, ⟨.inl rfl, ⟨.inr rfl, ⟨.inr rfl, ⟨.inr rfl, ⟨.inr rfl, ⟨.inr rfl, ⟨.inr rfl, ⟨.inr rfl, ⟨.inr rfl, ⟨.inr rfl, ⟨.inr rfl, ⟨.inr rfl, ⟨.inr rfl, ⟨.inr rfl, ⟨.inr rfl, ⟨.inr rfl, ⟨.inr rfl, ⟨.inr rfl, ⟨.inr rfl, ⟨.inr rfl, ⟨.inr rfl, ⟨.inr rfl, ⟨.inr rfl, ⟨.inr rfl, ⟨.inr rfl, ⟨.inr rfl, ⟨.inr rfl, ⟨.inr rfl, ⟨.inr rfl, ⟨.inr rfl, ⟨.inr rfl, ⟨.inr rfl, ⟨.inr rfl, ⟨.inr rfl, ⟨.inr rfl, ⟨.inr rfl, ⟨.inr rfl, ⟨.inr rfl, ⟨.inr rfl, ⟨.inr rfl, ⟨.inr rfl, ⟨.inr rfl, ⟨.inr rfl, ⟨.inr rfl, ⟨.inl rfl, ⟨.inl rfl, ⟨.inl rfl, ⟨.inl rfl, ⟨.inl rfl, ⟨.inl rfl, ⟨.inl rfl, ⟨.inl rfl, ⟨.inl rfl, ⟨.inl rfl, ⟨.inl rfl, ⟨.inl rfl, ⟨.inl rfl, ⟨.inr rfl, ⟨.inr rfl, ⟨.inr rfl, ⟨.inr rfl, ⟨.inr rfl, ⟨.inr rfl, ⟨.inr rfl, ⟨.inr rfl, ⟨.inr rfl, ⟨.inr rfl, ⟨.inr rfl, ⟨.inr rfl, ⟨.inr rfl, ⟨.inr rfl, ⟨.inr rfl, ⟨.inr rfl, ⟨.inr rfl, ⟨.inr rfl, ⟨.inr rfl, ⟨.inr rfl, ⟨.inr rfl, ⟨.inr rfl, ⟨.inr rfl, ⟨.inr rfl, ⟨.inr rfl, ⟨.inr rfl, ⟨.inr rfl, ⟨.inr rfl, ⟨.inr rfl, ⟨.inr rfl, ⟨.inr rfl, ⟨.inr rfl, ⟨.inr rfl, ⟨.inr rfl, trivial⟩⟩⟩⟩⟩⟩⟩⟩⟩⟩⟩⟩⟩⟩⟩⟩⟩⟩⟩⟩⟩⟩⟩⟩⟩⟩⟩⟩⟩⟩⟩⟩⟩⟩⟩⟩⟩⟩⟩⟩⟩⟩⟩⟩⟩⟩⟩⟩⟩⟩⟩⟩⟩⟩⟩⟩⟩⟩⟩⟩⟩⟩⟩⟩⟩⟩⟩⟩⟩⟩⟩⟩⟩⟩⟩⟩⟩⟩⟩⟩⟩⟩⟩⟩⟩⟩⟩⟩⟩⟩⟩⟩⟩⟩⟩⟩⟩⟩⟩⟩⟩⟩⟩⟩⟩⟩⟩
  refine RegGhost.All.step rfl (RegGhost.Does.pure (val := fun x => (.int .i64 v)) rfl (fun _ => ⟨fun h => absurd h (by decide), fun h => absurd h (by decide)⟩) (fun x w hm hS => ⟨rfl, rfl, rfl⟩)) ?_
  refine RegGhost.All.step rfl (RegGhost.Does.pure (val := fun x => (.pointer (some ⟨B, 0, none⟩))) rfl (fun _ => ⟨fun h => absurd h (by decide), fun h => absurd h (by decide)⟩) (fun x w hm hS => ⟨rfl, rfl, cl_a0 rfl⟩)) ?_
  refine RegGhost.All.step rfl (RegGhost.Does.pure (val := fun x => (.int .i64 k)) rfl (fun _ => ⟨fun h => absurd h (by decide), fun h => absurd h (by decide)⟩) (fun x w hm hS => ⟨rfl, rfl, cl_l0 rfl (K0 x w hS)⟩)) ?_
  refine RegGhost.All.step rfl (RegGhost.Does.pure (val := fun x => (.string A)) rfl (fun _ => ⟨fun h => absurd h (by decide), fun h => absurd h (by decide)⟩) (fun x w hm hS => ⟨rfl, rfl, rfl⟩)) ?_
  refine RegGhost.All.step rfl (RegGhost.Does.pure (val := fun x => (.int .i64 c)) rfl (fun _ => ⟨fun h => absurd h (by decide), fun h => absurd h (by decide)⟩) (fun x w hm hS => ⟨rfl, rfl, rfl⟩)) ?_
  refine RegGhost.All.step rfl (RegGhost.Does.pure (val := fun x => (.string A)) rfl (fun _ => ⟨fun h => absurd h (by decide), fun h => absurd h (by decide)⟩) (fun x w hm hS => ⟨rfl, rfl, rfl⟩)) ?_
  refine RegGhost.All.step rfl (RegGhost.Does.pure (val := fun x => (.int .i64 (A.size : Nat))) rfl (fun _ => ⟨fun h => absurd h (by decide), fun h => absurd h (by decide)⟩) (fun x w hm hS => ⟨rfl, rfl, cl_len rfl⟩)) ?_
  refine RegGhost.All.step rfl (RegGhost.Does.call (args := fun x => #[.int .i64 c, .int .i64 (A.size : Nat)]) (val := fun x => (.int .i64 m)) rfl (fun _ => ⟨fun h => absurd h (by decide), fun h => absurd h (by decide)⟩) (fun x w hm hS => ⟨rfl, rfl, re_polyglotkit_Pick rfl rfl, H68 x w hS⟩)) ?_
  refine RegGhost.All.step rfl (RegGhost.Does.pure (val := fun x => (.string (A.extract 0 m.toNat))) rfl (fun _ => ⟨fun h => absurd h (by decide), fun h => absurd h (by decide)⟩) (fun x w hm hS => ⟨rfl, rfl, cl_cut rfl rfl hm0 hm1⟩)) ?_
  refine RegGhost.All.step rfl ((fun x w hm hS => .inl ⟨rfl, .call _ _ (re_connect_Read rfl rfl rfl) ((RD x w hS).mono fun e w' ⟨aa, he, hk⟩ => ⟨rdVal R (some aa), { x with a := some aa }, he, fun d hd => by cases hd; rfl, hk, ⟨fun _ => rfl, fun h => absurd h (by decide)⟩, fun i h => ⟨fun _ => rfl, h.2⟩, [60, 70, 71], by kernel_rfl, ⟨.inr rfl, ⟨.inr rfl, ⟨.inr rfl, ⟨.inr rfl, ⟨.inr rfl, ⟨.inr rfl, ⟨.inr rfl, ⟨.inr rfl, ⟨.inr rfl, ⟨.inr rfl, ⟨.inr rfl, ⟨.inr rfl, ⟨.inr rfl, ⟨.inr rfl, ⟨.inr rfl, ⟨.inr rfl, ⟨.inr rfl, ⟨.inr rfl, ⟨.inr rfl, ⟨.inr rfl, ⟨.inr rfl, ⟨.inr rfl, ⟨.inr rfl, ⟨.inr rfl, ⟨.inr rfl, ⟨.inr rfl, ⟨.inr rfl, ⟨.inr rfl, ⟨.inr rfl, ⟨.inr rfl, ⟨.inr rfl, ⟨.inr rfl, ⟨.inr rfl, ⟨.inr rfl, ⟨.inr rfl, ⟨.inr rfl, ⟨.inr rfl, ⟨.inr rfl, ⟨.inr rfl, ⟨.inr rfl, ⟨.inr rfl, ⟨.inr rfl, ⟨.inr rfl, ⟨.inr rfl, ⟨.inr rfl, ⟨.inr rfl, ⟨.inr rfl, ⟨.inr rfl, ⟨.inr rfl, ⟨.inr rfl, ⟨.inr rfl, ⟨.inr rfl, ⟨.inr rfl, ⟨.inr rfl, ⟨.inr rfl, ⟨.inr rfl, ⟨.inr rfl, ⟨.inr rfl, ⟨.inr rfl, ⟨.inr rfl, ⟨.inl rfl, ⟨.inr rfl, ⟨.inr rfl, ⟨.inr rfl, ⟨.inr rfl, ⟨.inr rfl, ⟨.inr rfl, ⟨.inr rfl, ⟨.inr rfl, ⟨.inr rfl, ⟨.inl rfl, ⟨.inl rfl, ⟨.inr rfl, ⟨.inr rfl, ⟨.inr rfl, ⟨.inr rfl, ⟨.inr rfl, ⟨.inr rfl, ⟨.inr rfl, ⟨.inr rfl, ⟨.inr rfl, ⟨.inr rfl, ⟨.inr rfl, ⟨.inr rfl, ⟨.inr rfl, ⟨.inr rfl, ⟨.inr rfl, ⟨.inr rfl, ⟨.inr rfl, ⟨.inr rfl, ⟨.inr rfl, ⟨.inr rfl, ⟨.inr rfl, ⟨.inr rfl, ⟨.inr rfl, ⟨.inr rfl, ⟨.inr rfl, ⟨.inr rfl, ⟨.inr rfl, ⟨.inr rfl, ⟨.inr rfl, ⟨.inr rfl, ⟨.inr rfl, ⟨.inr rfl, ⟨.inr rfl, ⟨.inr rfl, ⟨.inr rfl, trivial⟩⟩⟩⟩⟩⟩⟩⟩⟩⟩⟩⟩⟩⟩⟩⟩⟩⟩⟩⟩⟩⟩⟩⟩⟩⟩⟩⟩⟩⟩⟩⟩⟩⟩⟩⟩⟩⟩⟩⟩⟩⟩⟩⟩⟩⟩⟩⟩⟩⟩⟩⟩⟩⟩⟩⟩⟩⟩⟩⟩⟩⟩⟩⟩⟩⟩⟩⟩⟩⟩⟩⟩⟩⟩⟩⟩⟩⟩⟩⟩⟩⟩⟩⟩⟩⟩⟩⟩⟩⟩⟩⟩⟩⟩⟩⟩⟩⟩⟩⟩⟩⟩⟩⟩⟩⟩⟩⟩)⟩)) ?_
  refine RegGhost.All.step rfl (RegGhost.Does.pure (val := fun x => (rdVal R x.a)) rfl (fun _ => ⟨fun h => absurd h (by decide), fun h => absurd h (by decide)⟩) (fun x w hm hS => ⟨rfl, rfl, rfl⟩)) ?_
  refine RegGhost.All.step rfl (RegGhost.Does.pure (val := fun x => (rdPk R x.a)) rfl (fun _ => ⟨fun h => absurd h (by decide), fun h => absurd h (by decide)⟩) (fun x w hm hS => ⟨rfl, rfl, by obtain ⟨aa, ha⟩ := Option.isSome_iff_exists.1 ((hm 9 (by kernel_rfl) (by decide)).1 rfl); show _ = Result.ok (Next.value (rdPk R x.a)) w; rw [show rdPk R x.a = .agg (pkC R.1 aa) by rw [ha]; rfl]; exact cl_ex0 (v := .int .i64 (R.2 : Nat)) (show rdVal R x.a = _ by rw [ha]; rfl)⟩)) ?_
  refine RegGhost.All.step rfl (RegGhost.Does.pure (val := fun x => (.int .i64 (R.2 : Nat))) rfl (fun _ => ⟨fun h => absurd h (by decide), fun h => absurd h (by decide)⟩) (fun x w hm hS => ⟨rfl, rfl, by obtain ⟨aa, ha⟩ := Option.isSome_iff_exists.1 ((hm 9 (by kernel_rfl) (by decide)).1 rfl); exact cl_ex1 (u := .agg (pkC R.1 aa)) (show rdVal R x.a = _ by rw [ha]; rfl)⟩)) ?_
  refine RegGhost.All.step rfl ((fun x w hm hS => .inl ⟨rfl, .value (.pointer (some ⟨w.heap.size, 0, none⟩)) { x with b := some w.heap.size } _ (cl_alloc (zero_pk w)) ⟨fun d hd => by cases hd; rfl, AL x w hS, ⟨fun h => absurd h (by decide), fun _ => rfl⟩, fun i h => ⟨h.1, fun _ => rfl⟩, [15], by kernel_rfl, ⟨.inr rfl, ⟨.inr rfl, ⟨.inr rfl, ⟨.inr rfl, ⟨.inr rfl, ⟨.inr rfl, ⟨.inr rfl, ⟨.inr rfl, ⟨.inr rfl, ⟨.inr rfl, ⟨.inr rfl, ⟨.inr rfl, ⟨.inr rfl, ⟨.inr rfl, ⟨.inr rfl, ⟨.inl rfl, ⟨.inr rfl, ⟨.inr rfl, ⟨.inr rfl, ⟨.inr rfl, ⟨.inr rfl, ⟨.inr rfl, ⟨.inr rfl, ⟨.inr rfl, ⟨.inr rfl, ⟨.inr rfl, ⟨.inr rfl, ⟨.inr rfl, ⟨.inr rfl, ⟨.inr rfl, ⟨.inr rfl, ⟨.inr rfl, ⟨.inr rfl, ⟨.inr rfl, ⟨.inr rfl, ⟨.inr rfl, ⟨.inr rfl, ⟨.inr rfl, ⟨.inr rfl, ⟨.inr rfl, ⟨.inr rfl, ⟨.inr rfl, ⟨.inr rfl, ⟨.inr rfl, ⟨.inr rfl, ⟨.inr rfl, ⟨.inr rfl, ⟨.inr rfl, ⟨.inr rfl, ⟨.inr rfl, ⟨.inr rfl, ⟨.inr rfl, ⟨.inr rfl, ⟨.inr rfl, ⟨.inr rfl, ⟨.inr rfl, ⟨.inr rfl, ⟨.inr rfl, ⟨.inr rfl, ⟨.inr rfl, ⟨.inr rfl, ⟨.inr rfl, ⟨.inr rfl, ⟨.inr rfl, ⟨.inr rfl, ⟨.inr rfl, ⟨.inr rfl, ⟨.inr rfl, ⟨.inr rfl, ⟨.inr rfl, ⟨.inr rfl, ⟨.inr rfl, ⟨.inr rfl, ⟨.inr rfl, ⟨.inr rfl, ⟨.inr rfl, ⟨.inr rfl, ⟨.inr rfl, ⟨.inr rfl, ⟨.inr rfl, ⟨.inr rfl, ⟨.inr rfl, ⟨.inr rfl, ⟨.inr rfl, ⟨.inr rfl, ⟨.inr rfl, ⟨.inr rfl, ⟨.inr rfl, ⟨.inr rfl, ⟨.inr rfl, ⟨.inr rfl, ⟨.inr rfl, ⟨.inr rfl, ⟨.inr rfl, ⟨.inr rfl, ⟨.inr rfl, ⟨.inr rfl, ⟨.inr rfl, ⟨.inr rfl, ⟨.inr rfl, ⟨.inr rfl, ⟨.inr rfl, ⟨.inr rfl, ⟨.inr rfl, ⟨.inr rfl, ⟨.inr rfl, ⟨.inr rfl, trivial⟩⟩⟩⟩⟩⟩⟩⟩⟩⟩⟩⟩⟩⟩⟩⟩⟩⟩⟩⟩⟩⟩⟩⟩⟩⟩⟩⟩⟩⟩⟩⟩⟩⟩⟩⟩⟩⟩⟩⟩⟩⟩⟩⟩⟩⟩⟩⟩⟩⟩⟩⟩⟩⟩⟩⟩⟩⟩⟩⟩⟩⟩⟩⟩⟩⟩⟩⟩⟩⟩⟩⟩⟩⟩⟩⟩⟩⟩⟩⟩⟩⟩⟩⟩⟩⟩⟩⟩⟩⟩⟩⟩⟩⟩⟩⟩⟩⟩⟩⟩⟩⟩⟩⟩⟩⟩⟩⟩⟩)) ?_
  refine RegGhost.All.step rfl ((fun x w hm hS => .inl ⟨rfl, by
      obtain ⟨aa, ha⟩ := Option.isSome_iff_exists.1 ((hm 9 (by kernel_rfl) (by decide)).1 rfl)
      obtain ⟨g, hg⟩ := Option.isSome_iff_exists.1 ((hm 13 (by kernel_rfl) (by decide)).2 rfl)
      obtain ⟨old, hold, hos⟩ := SO x w hS g hg
      exact .skip x _ (cl_store (show ptrAt x.b = _ by rw [hg]; rfl) (show rdPk R x.a = _ by rw [ha]; rfl) (pkC_size _ _) (pkC_one _ _) hold hos) ⟨fun d hd => (by cases hd), ST x w hS aa g ha hg, ⟨fun h => absurd h (by decide), fun h => absurd h (by decide)⟩, fun i h => h, [], rfl, RegGhost.off_refl 0 _⟩⟩)) ?_
  refine RegGhost.All.step rfl (RegGhost.Does.pure (val := fun x => (.int .i64 (R.2 : Nat))) rfl (fun _ => ⟨fun h => absurd h (by decide), fun h => absurd h (by decide)⟩) (fun x w hm hS => ⟨rfl, rfl, rfl⟩)) ?_
  exact RegGhost.All.fin rfl
end Go.Proofs.YtbgpcmbaodjibaaGreat
