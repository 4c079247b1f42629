/-
  The regions of connect's reader that draw their order: calls that write the cursor in a forced order. Condition: none.
  The last region of PublishCalls. Condition: none.
-/
import Derived.Test.YtaahhbjnflimnaaGreatK02
import Derived.Test.YtaahhbjnflimnaaGreatK12
namespace Go.Proofs.YtaahhbjnflimnaaGreat
open Go.RowKit

section
variable {a : Act} {w : World} {d : Option Tmp} {p : String} {af : Array Edge} {gd : Option (Nat × Bool)} {x y z : Tmp} {r : TypeId}
theorem cr_row {g : Nat} {C : Array Value} (hx : a.eval (.tmp x) = .pointer (some ⟨g, 0, none⟩)) (hs : C.size = 25) (hg : w.heap[g]? = some (.cells C 28 (0, 0))) :
    (execOp a.eval { dst := d, op := .load 28 (.tmp x), type := 28, pos := p, after := af, guard := gd }).run Tryz.prog w = .ok (.value (.agg C)) w := by
  unfold execOp
  simp only [hx, Instr.loadAt, Instr.sureAddr, Sem.run_bind, Sem.run_pure, Result.andThen_ok, run_loadVar_row w g 28 28 C (0, 0) _ hg Tryz.underlying28 rfl (by rw [hs]; exact info_pk)]
end
end Go.Proofs.YtaahhbjnflimnaaGreat
namespace Go.Proofs.YtaahhbjnflimnaaGreat
open Go.RowKit

section
variable {a : Act} {w : World} {d : Option Tmp} {p : String} {af : Array Edge} {gd : Option (Nat × Bool)} {x y z : Tmp} {r : TypeId}
theorem re_polyglotkit_SamePacket {ts : Array TypeId} {u v : Value} (hx : a.eval (.tmp x) = u) (hy : a.eval (.tmp y) = v) :
    (execOp a.eval { dst := d, op := .call { callee := .value (.func 15), args := #[.tmp x, .tmp y], argTypes := ts }, type := r, pos := p, after := af, guard := gd }).run Tryz.prog w = .ok (.enter 15 #[u, v]) w := by
  have hf : a.eval (.func 15) = .func (.func 15) #[] #[] := rfl
  generalize a.eval = f at *
  go_simp
theorem re_publish_Valid {ts : Array TypeId} {u v : Value} (hx : a.eval (.tmp x) = u) (hy : a.eval (.tmp y) = v) :
    (execOp a.eval { dst := d, op := .call { callee := .value (.func 25), args := #[.tmp x, .tmp y], argTypes := ts }, type := r, pos := p, after := af, guard := gd }).run Tryz.prog w = .ok (.enter 25 #[u, v]) w := by
  have hf : a.eval (.func 25) = .func (.func 25) #[] #[] := rfl
  generalize a.eval = f at *
  go_simp
theorem re_polyglotref09_Valid {ts : Array TypeId} {u v : Value} (hx : a.eval (.tmp x) = u) (hy : a.eval (.tmp y) = v) :
    (execOp a.eval { dst := d, op := .call { callee := .value (.func 29), args := #[.tmp x, .tmp y], argTypes := ts }, type := r, pos := p, after := af, guard := gd }).run Tryz.prog w = .ok (.enter 29 #[u, v]) w := by
  have hf : a.eval (.func 29) = .func (.func 29) #[] #[] := rfl
  generalize a.eval = f at *
  go_simp
theorem cq_str {v : ByteArray} (hx : a.eval (.tmp x) = .string v) (hy : a.eval (.tmp y) = .string v) :
    (execOp a.eval { dst := d, op := .binOp .eql 9 (.tmp x) (.tmp y) 9, type := r, pos := p, after := af, guard := gd }).run Tryz.prog w = .ok (.value (.bool true)) w := by
  generalize a.eval = f at *
  go_simp
theorem cq_err {v : Int} (hx : a.eval (.tmp x) = .int .i64 v) (hy : a.eval (.tmp y) = .int .i64 v) :
    (execOp a.eval { dst := d, op := .binOp .eql 31 (.tmp x) (.tmp y) 31, type := r, pos := p, after := af, guard := gd }).run Tryz.prog w = .ok (.value (.bool true)) w := by
  generalize a.eval = f at *
  go_simp
theorem cq_int {v : Int} (hx : a.eval (.tmp x) = .int .i64 v) (hy : a.eval (.tmp y) = .int .i64 v) :
    (execOp a.eval { dst := d, op := .binOp .eql 3 (.tmp x) (.tmp y) 3, type := r, pos := p, after := af, guard := gd }).run Tryz.prog w = .ok (.value (.bool true)) w := by
  generalize a.eval = f at *
  go_simp
theorem cq_bool {v : Bool} (hx : a.eval (.tmp x) = .bool v) (hy : a.eval (.tmp y) = .bool v) :
    (execOp a.eval { dst := d, op := .binOp .eql 4 (.tmp x) (.tmp y) 4, type := r, pos := p, after := af, guard := gd }).run Tryz.prog w = .ok (.value (.bool true)) w := by
  generalize a.eval = f at *
  cases v <;> go_simp
end
set_option maxRecDepth 100000 in
set_option maxHeartbeats 4000000 in
theorem pb_last {Q : Exit → Act → World → Prop} {S : World → Prop} {W : World} {b b1 b2 : Nat} {v x y z u : Int} {t : Bool} {A : ByteArray} {C D E : Array Value} {x1 x2 x3 x4 x6 x7 x8 x21 x22 x23 x24 x25 x26 x27 x28 x29 x30 x31 x32 x33 x34 x35 x36 x37 x38 x39 x40 x41 x42 x43 x44 x45 x46 x47 x48 x49 x50 x51 x52 x53 x54 x55 x56 x57 x58 x59 x60 x61 x62 x63 x64 x65 x66 x67 x68 x69 x70 x71 x72 x73 x74 x75 x76 x77 x78 x79 x80 x81 x82 x83 x84 x85 x86 x87 x88 x89 x90 x91 x92 x93 x94 x95 x96 x97 x98 x99 x100 x101 x102 x103 x104 : Value}
    (hS : S W.drew) (hC : C.size = 25) (hD : D.size = 25) (hE : E.size = 25) (KC : ∀ w, S w → w.heap[b1]? = some (.cells C 28 (0, 0))) (KD : ∀ w, S w → w.heap[b2]? = some (.cells D 28 (0, 0))) (KE : ∀ w, S w → w.heap[b]? = some (.cells E 28 (0, 0)))
    (H0 : ∀ w, S w → Calls Tryz.prog 15 #[(.agg C), (.agg D)] w fun e w' => e = .returned (.bool true) ∧ S w')
    (H1 : ∀ w, S w → Calls Tryz.prog 25 #[(.int .i64 v), (.agg E)] w fun e w' => e = .returned (.int .i64 z) ∧ S w')
    (H2 : ∀ w, S w → Calls Tryz.prog 29 #[(.int .i64 v), (.agg E)] w fun e w' => e = .returned (.int .i64 z) ∧ S w')
    (fin : ∀ w, S w → Q .normal ⟨#[(.int .i64 v), x1, x2, x3, x4, (.pointer (some ⟨b, 0, none⟩)), x6, x7, (.bool true), (.string A), (.int .i64 x), (.string A), (.int .i64 x), (.pointer (some ⟨b1, 0, none⟩)), (.int .i64 y), (.pointer (some ⟨b2, 0, none⟩)), (.int .i64 y), (.int .i64 u), (.bool t), (.int .i64 u), (.bool t), x21, x22, x23, x24, x25, x26, x27, x28, x29, x30, x31, x32, x33, x34, x35, x36, x37, x38, x39, x40, x41, x42, x43, x44, x45, x46, x47, x48, x49, x50, x51, x52, x53, x54, x55, x56, x57, x58, x59, x60, x61, x62, x63, x64, x65, x66, x67, (.string A), (.string A), (.bool true), (.bool true), (.int .i64 x), (.int .i64 x), (.bool true), (.bool true), (.bool true), (.agg C), (.agg D), (.bool true), (.bool true), (.bool true), (.int .i64 y), (.int .i64 y), (.bool true), (.bool true), (.bool true), (.int .i64 u), (.int .i64 u), (.bool true), (.bool true), (.bool true), (.bool t), (.bool t), (.bool true), (.bool true), (.bool true), (.int .i64 v), (.agg E), (.int .i64 z), (.int .i64 v), (.agg E), (.int .i64 z), (.bool true), (.bool true)], []⟩ w) :
    (Code.region 11 (RegEnv.opsAt 11 Tryz.f5.body) true).wp Tryz.prog Q ⟨#[(.int .i64 v), x1, x2, x3, x4, (.pointer (some ⟨b, 0, none⟩)), x6, x7, x8, (.string A), (.int .i64 x), (.string A), (.int .i64 x), (.pointer (some ⟨b1, 0, none⟩)), (.int .i64 y), (.pointer (some ⟨b2, 0, none⟩)), (.int .i64 y), (.int .i64 u), (.bool t), (.int .i64 u), (.bool t), x21, x22, x23, x24, x25, x26, x27, x28, x29, x30, x31, x32, x33, x34, x35, x36, x37, x38, x39, x40, x41, x42, x43, x44, x45, x46, x47, x48, x49, x50, x51, x52, x53, x54, x55, x56, x57, x58, x59, x60, x61, x62, x63, x64, x65, x66, x67, x68, x69, x70, x71, x72, x73, x74, x75, x76, x77, x78, x79, x80, x81, x82, x83, x84, x85, x86, x87, x88, x89, x90, x91, x92, x93, x94, x95, x96, x97, x98, x99, x100, x101, x102, x103, x104], []⟩ W := by
  refine RegEnv.wp_in (ds := [68, 69, 70, 71, 72, 73, 74, 75, 76, 77, 78, 79, 80, 81, 82, 83, 84, 85, 86, 87, 88, 89, 90, 91, 92, 93, 94, 95, 96, 97, 98, 99, 100, 101, 102, 103, 104, 8]) (A := [(.int .i64 v), x1, x2, x3, x4, (.pointer (some ⟨b, 0, none⟩)), x6, x7, x8, (.string A), (.int .i64 x), (.string A), (.int .i64 x), (.pointer (some ⟨b1, 0, none⟩)), (.int .i64 y), (.pointer (some ⟨b2, 0, none⟩)), (.int .i64 y), (.int .i64 u), (.bool t), (.int .i64 u), (.bool t), x21, x22, x23, x24, x25, x26, x27, x28, x29, x30, x31, x32, x33, x34, x35, x36, x37, x38, x39, x40, x41, x42, x43, x44, x45, x46, x47, x48, x49, x50, x51, x52, x53, x54, x55, x56, x57, x58, x59, x60, x61, x62, x63, x64, x65, x66, x67, x68, x69, x70, x71, x72, x73, x74, x75, x76, x77, x78, x79, x80, x81, x82, x83, x84, x85, x86, x87, x88, x89, x90, x91, x92, x93, x94, x95, x96, x97, x98, x99, x100, x101, x102, x103, x104]) (B := [(.int .i64 v), x1, x2, x3, x4, (.pointer (some ⟨b, 0, none⟩)), x6, x7, (.bool true), (.string A), (.int .i64 x), (.string A), (.int .i64 x), (.pointer (some ⟨b1, 0, none⟩)), (.int .i64 y), (.pointer (some ⟨b2, 0, none⟩)), (.int .i64 y), (.int .i64 u), (.bool t), (.int .i64 u), (.bool t), x21, x22, x23, x24, x25, x26, x27, x28, x29, x30, x31, x32, x33, x34, x35, x36, x37, x38, x39, x40, x41, x42, x43, x44, x45, x46, x47, x48, x49, x50, x51, x52, x53, x54, x55, x56, x57, x58, x59, x60, x61, x62, x63, x64, x65, x66, x67, (.string A), (.string A), (.bool true), (.bool true), (.int .i64 x), (.int .i64 x), (.bool true), (.bool true), (.bool true), (.agg C), (.agg D), (.bool true), (.bool true), (.bool true), (.int .i64 y), (.int .i64 y), (.bool true), (.bool true), (.bool true), (.int .i64 u), (.int .i64 u), (.bool true), (.bool true), (.bool true), (.bool t), (.bool t), (.bool true), (.bool true), (.bool true), (.int .i64 v), (.agg E), (.int .i64 z), (.int .i64 v), (.agg E), (.int .i64 z), (.bool true), (.bool true)]) (D := []) (by kernel_rfl) (by kernel_rfl) (by kernel_rfl) ?_ hS ?_ (fun w hS => fin w hS)
  · exact (by repeat (first | exact trivial | refine ⟨.inr rfl, ?_⟩ | refine ⟨.inl rfl, ?_⟩))
  refine RegEnv.All.step rfl (RegEnv.Does.pure rfl rfl rfl (fun w hS => rfl)) ?_
  refine RegEnv.All.step rfl (RegEnv.Does.pure rfl rfl rfl (fun w hS => rfl)) ?_
  refine RegEnv.All.step rfl (RegEnv.Does.pure rfl rfl rfl (fun w hS => cq_str rfl rfl)) ?_
  refine RegEnv.All.step rfl (RegEnv.Does.pure rfl rfl rfl (fun w hS => rfl)) ?_
  refine RegEnv.All.step rfl (RegEnv.Does.pure rfl rfl rfl (fun w hS => rfl)) ?_
  refine RegEnv.All.step rfl (RegEnv.Does.pure rfl rfl rfl (fun w hS => rfl)) ?_
  refine RegEnv.All.step rfl (RegEnv.Does.pure rfl rfl rfl (fun w hS => cq_err rfl rfl)) ?_
  refine RegEnv.All.step rfl (RegEnv.Does.pure rfl rfl rfl (fun w hS => rfl)) ?_
  refine RegEnv.All.step rfl (RegEnv.Does.pure rfl rfl rfl (fun w hS => rfl)) ?_
  refine RegEnv.All.step rfl (RegEnv.Does.pure rfl rfl rfl (fun w hS => cr_row rfl hC (KC w hS))) ?_
  refine RegEnv.All.step rfl (RegEnv.Does.pure rfl rfl rfl (fun w hS => cr_row rfl hD (KD w hS))) ?_
  refine RegEnv.All.step rfl (RegEnv.Does.call rfl rfl rfl (fun w => re_polyglotkit_SamePacket rfl rfl) H0) ?_
  refine RegEnv.All.step rfl (RegEnv.Does.pure rfl rfl rfl (fun w hS => rfl)) ?_
  refine RegEnv.All.step rfl (RegEnv.Does.pure rfl rfl rfl (fun w hS => rfl)) ?_
  refine RegEnv.All.step rfl (RegEnv.Does.pure rfl rfl rfl (fun w hS => rfl)) ?_
  refine RegEnv.All.step rfl (RegEnv.Does.pure rfl rfl rfl (fun w hS => rfl)) ?_
  refine RegEnv.All.step rfl (RegEnv.Does.pure rfl rfl rfl (fun w hS => cq_err rfl rfl)) ?_
  refine RegEnv.All.step rfl (RegEnv.Does.pure rfl rfl rfl (fun w hS => rfl)) ?_
  refine RegEnv.All.step rfl (RegEnv.Does.pure rfl rfl rfl (fun w hS => rfl)) ?_
  refine RegEnv.All.step rfl (RegEnv.Does.pure rfl rfl rfl (fun w hS => rfl)) ?_
  refine RegEnv.All.step rfl (RegEnv.Does.pure rfl rfl rfl (fun w hS => rfl)) ?_
  refine RegEnv.All.step rfl (RegEnv.Does.pure rfl rfl rfl (fun w hS => cq_int rfl rfl)) ?_
  refine RegEnv.All.step rfl (RegEnv.Does.pure rfl rfl rfl (fun w hS => rfl)) ?_
  refine RegEnv.All.step rfl (RegEnv.Does.pure rfl rfl rfl (fun w hS => rfl)) ?_
  refine RegEnv.All.step rfl (RegEnv.Does.pure rfl rfl rfl (fun w hS => rfl)) ?_
  refine RegEnv.All.step rfl (RegEnv.Does.pure rfl rfl rfl (fun w hS => rfl)) ?_
  refine RegEnv.All.step rfl (RegEnv.Does.pure rfl rfl rfl (fun w hS => cq_bool rfl rfl)) ?_
  refine RegEnv.All.step rfl (RegEnv.Does.pure rfl rfl rfl (fun w hS => rfl)) ?_
  refine RegEnv.All.step rfl (RegEnv.Does.pure rfl rfl rfl (fun w hS => rfl)) ?_
  refine RegEnv.All.step rfl (RegEnv.Does.pure rfl rfl rfl (fun w hS => rfl)) ?_
  refine RegEnv.All.step rfl (RegEnv.Does.pure rfl rfl rfl (fun w hS => cr_row rfl hE (KE w hS))) ?_
  refine RegEnv.All.step rfl (RegEnv.Does.call rfl rfl rfl (fun w => re_publish_Valid rfl rfl) H1) ?_
  refine RegEnv.All.step rfl (RegEnv.Does.pure rfl rfl rfl (fun w hS => rfl)) ?_
  refine RegEnv.All.step rfl (RegEnv.Does.pure rfl rfl rfl (fun w hS => cr_row rfl hE (KE w hS))) ?_
  refine RegEnv.All.step rfl (RegEnv.Does.call rfl rfl rfl (fun w => re_polyglotref09_Valid rfl rfl) H2) ?_
  refine RegEnv.All.step rfl (RegEnv.Does.pure rfl rfl rfl (fun w hS => cq_err rfl rfl)) ?_
  refine RegEnv.All.step rfl (RegEnv.Does.pure rfl rfl rfl (fun w hS => rfl)) ?_
  refine RegEnv.All.step rfl (RegEnv.Does.pure rfl rfl rfl (fun w hS => rfl)) ?_
  exact RegEnv.All.fin rfl
end Go.Proofs.YtaahhbjnflimnaaGreat
