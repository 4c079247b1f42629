/-
  The contract of connect.fits: do a packet's fields go with its version, its kind and one another? Condition: at most 70,000 elements a list.
-/
import Derived.Test.YtbgpcmbaodjibaaGreatK02
import Derived.Test.YtbgpcmbaodjibaaGreatK21
import Derived.Test.YtbgpcmbaodjibaaGreatK28
import Derived.Test.YtbgpcmbaodjibaaGreatK07
namespace Go.Proofs.YtbgpcmbaodjibaaGreat
open Go.RowKit

section
variable {a : Act} {w : World} {d : Option Tmp} {p : String} {af : Array Edge} {gd : Option (Nat × Bool)} {x y z : Tmp} {r : TypeId}
theorem cf_row {g : Nat} {C : Array Value} (hx : a.eval (.tmp x) = .pointer (some ⟨g, 0, none⟩)) (hs : C.size = 25) (hg : w.heap[g]? = some (.cells C 32 (0, 0))) :
    (execOp a.eval { dst := d, op := .load 32 (.tmp x), type := 32, pos := p, after := af, guard := gd }).run Tryz.prog w = .ok (.value (.agg C)) w := by
  unfold execOp
  simp only [hx, Instr.loadAt, Instr.sureAddr, Sem.run_bind, Sem.run_pure, Result.andThen_ok, run_loadVar_row w g 32 32 C (0, 0) _ hg Tryz.underlying32 rfl (by rw [hs]; exact info_pk)]
theorem cf_a0 {g : Nat} (hx : a.eval (.tmp x) = .pointer (some ⟨g, 0, none⟩)) :
    (execOp a.eval { dst := d, op := .fieldAddr 32 (.tmp x) 0, type := r, pos := p, after := af, guard := gd }).run Tryz.prog w = .ok (.value (.pointer (some ⟨g, 0, none⟩))) w := by
  generalize a.eval = f at *
  go_simp
theorem cf_l0 {g : Nat} {k : Int} (hx : a.eval (.tmp x) = .pointer (some ⟨g, 0, none⟩)) (hc : w.cell? ⟨g, 0, none⟩ = some (.int .i64 k)) :
    (execOp a.eval { dst := d, op := .load 3 (.tmp x), type := 3, pos := p, after := af, guard := gd }).run Tryz.prog w = .ok (.value (.int .i64 k)) w := by
  generalize a.eval = f at *
  go_simp
theorem cf_not {b c : Bool} (hx : a.eval (.tmp x) = .bool b) (hc : (!b) = c) :
    (execOp a.eval { dst := d, op := .unOp .not 4 (.tmp x), type := r, pos := p, after := af, guard := gd }).run Tryz.prog w = .ok (.value (.bool c)) w := by
  subst hc
  generalize a.eval = f at *
  go_simp
theorem re_connect_known {ts : Array TypeId} {u v : Value} (hx : a.eval (.tmp x) = u) (hy : a.eval (.tmp y) = v) :
    (execOp a.eval { dst := d, op := .call { callee := .value (.func 30), args := #[.tmp x, .tmp y], argTypes := ts }, type := r, pos := p, after := af, guard := gd }).run Tryz.prog w = .ok (.enter 30 #[u, v]) w := by
  have hf : a.eval (.func 30) = .func (.func 30) #[] #[] := rfl
  generalize a.eval = f at *
  go_simp
theorem re_connect_used {ts : Array TypeId} {u v : Value} (hx : a.eval (.tmp x) = u) (hy : a.eval (.tmp y) = v) :
    (execOp a.eval { dst := d, op := .call { callee := .value (.func 72), args := #[.tmp x, .tmp y], argTypes := ts }, type := r, pos := p, after := af, guard := gd }).run Tryz.prog w = .ok (.enter 72 #[u, v]) w := by
  have hf : a.eval (.func 72) = .func (.func 72) #[] #[] := rfl
  generalize a.eval = f at *
  go_simp
theorem re_head_Same {ts : Array TypeId} {u v : Value} (hx : a.eval (.tmp x) = u) (hy : a.eval (.tmp y) = v) :
    (execOp a.eval { dst := d, op := .call { callee := .value (.func 71), args := #[.tmp x, .tmp y], argTypes := ts }, type := r, pos := p, after := af, guard := gd }).run Tryz.prog w = .ok (.enter 71 #[u, v]) w := by
  have hf : a.eval (.func 71) = .func (.func 71) #[] #[] := rfl
  generalize a.eval = f at *
  go_simp
end
set_option maxRecDepth 100000 in
set_option maxHeartbeats 4000000 in
theorem fits_way1 {Q : Exit → Act → World → Prop} {S : World → Prop} {W : World} {v k : Int} {C U : Array Value} {m : Bool} {B : Nat} {x5 x6 x7 x8 x9 x10 x11 x12 x13 x14 x15 x16 x17 x18 x19 x20 x21 x22 x23 x24 x25 x26 x27 x28 x29 x30 x31 x32 x33 x34 x35 x36 x37 x38 x39 x40 x41 x42 x43 x44 x45 x46 x47 x48 x49 x50 x51 x52 x53 x54 x55 x56 x57 x58 x59 x60 x61 x62 : Value}
    (hS : S W.drew) (hC : C.size = 25) (hS0 : ∀ w, S w → w.cell? ⟨B, 0, none⟩ = some (.int .i64 k)) (hS1 : ∀ w, S w → w.heap[B]? = some (.cells C 32 (0, 0)))
    (KN : ∀ w, S w → Calls Tryz.prog 30 #[.int .i64 v, .int .i64 k] w fun e w' => e = .returned (.bool true) ∧ S w')
    (US : ∀ w, S w → Calls Tryz.prog 72 #[.int .i64 v, .agg C] w fun e w' => e = .returned (.agg U) ∧ S w')
    (SM : ∀ w, S w → Calls Tryz.prog 71 #[.agg C, .agg U] w fun e w' => e = .returned (.bool m) ∧ S w')
    (fin : ∀ w, S w → Q .normal ⟨#[(.int .i64 v), (.agg C), undef, (.pointer (some ⟨B, 0, none⟩)), (.bool false), x5, (.int .i64 v), (.pointer (some ⟨B, 0, none⟩)), (.int .i64 k), (.bool true), (.bool false), (.bool false), (.agg C), (.int .i64 v), (.agg C), (.agg U), (.bool m), (.bool (!m)), (.bool (!m)), x19, x20, x21, x22, x23, x24, x25, x26, x27, x28, x29, x30, x31, x32, x33, x34, x35, x36, x37, x38, x39, x40, x41, x42, x43, x44, x45, x46, x47, x48, x49, x50, x51, x52, x53, x54, x55, x56, x57, x58, x59, x60, x61, x62], []⟩ w) :
    (Code.region 1 (RegEnv.opsAt 1 Tryz.f40.body) true).wp Tryz.prog Q ⟨#[(.int .i64 v), (.agg C), undef, (.pointer (some ⟨B, 0, none⟩)), (.bool false), x5, x6, x7, x8, x9, x10, x11, x12, x13, x14, x15, x16, x17, x18, x19, x20, x21, x22, x23, x24, x25, x26, x27, x28, x29, x30, x31, x32, x33, x34, x35, x36, x37, x38, x39, x40, x41, x42, x43, x44, x45, x46, x47, x48, x49, x50, x51, x52, x53, x54, x55, x56, x57, x58, x59, x60, x61, x62], []⟩ W := by
  refine RegEnv.wp_in (ds := [6, 7, 8, 9, 10, 11, 12, 13, 14, 15, 16, 17, 18]) (A := [(.int .i64 v), (.agg C), undef, (.pointer (some ⟨B, 0, none⟩)), (.bool false), x5, x6, x7, x8, x9, x10, x11, x12, x13, x14, x15, x16, x17, x18, x19, x20, x21, x22, x23, x24, x25, x26, x27, x28, x29, x30, x31, x32, x33, x34, x35, x36, x37, x38, x39, x40, x41, x42, x43, x44, x45, x46, x47, x48, x49, x50, x51, x52, x53, x54, x55, x56, x57, x58, x59, x60, x61, x62]) (B := [(.int .i64 v), (.agg C), undef, (.pointer (some ⟨B, 0, none⟩)), (.bool false), x5, (.int .i64 v), (.pointer (some ⟨B, 0, none⟩)), (.int .i64 k), (.bool true), (.bool false), (.bool false), (.agg C), (.int .i64 v), (.agg C), (.agg U), (.bool m), (.bool (!m)), (.bool (!m)), x19, x20, x21, x22, x23, x24, x25, x26, x27, x28, x29, x30, x31, x32, x33, x34, x35, x36, x37, x38, x39, x40, x41, x42, x43, x44, x45, x46, x47, x48, x49, x50, x51, x52, x53, x54, x55, x56, x57, x58, x59, x60, x61, x62]) (D := []) (by kernel_rfl) (by kernel_rfl) (by kernel_rfl) ?_ hS ?_ fin
  · exact ⟨.inr rfl, ⟨.inr rfl, ⟨.inr rfl, ⟨.inr rfl, ⟨.inr rfl, ⟨.inr rfl, ⟨.inl rfl, ⟨.inl rfl, ⟨.inl rfl, ⟨.inl rfl, ⟨.inl rfl, ⟨.inl rfl, ⟨.inl rfl, ⟨.inl rfl, ⟨.inl rfl, ⟨.inl rfl, ⟨.inl rfl, ⟨.inl rfl, ⟨.inl rfl, ⟨.inr rfl, ⟨.inr rfl, ⟨.inr rfl, ⟨.inr rfl, ⟨.inr rfl, ⟨.inr rfl, ⟨.inr rfl, ⟨.inr rfl, ⟨.inr rfl, ⟨.inr rfl, ⟨.inr rfl, ⟨.inr rfl, ⟨.inr rfl, ⟨.inr rfl, ⟨.inr rfl, ⟨.inr rfl, ⟨.inr rfl, ⟨.inr rfl, ⟨.inr rfl, ⟨.inr rfl, ⟨.inr rfl, ⟨.inr rfl, ⟨.inr rfl, ⟨.inr rfl, ⟨.inr rfl, ⟨.inr rfl, ⟨.inr rfl, ⟨.inr rfl, ⟨.inr rfl, ⟨.inr rfl, ⟨.inr rfl, ⟨.inr rfl, ⟨.inr rfl, ⟨.inr rfl, ⟨.inr rfl, ⟨.inr rfl, ⟨.inr rfl, ⟨.inr rfl, ⟨.inr rfl, ⟨.inr rfl, ⟨.inr rfl, ⟨.inr rfl, ⟨.inr rfl, ⟨.inr rfl, trivial⟩⟩⟩⟩⟩⟩⟩⟩⟩⟩⟩⟩⟩⟩⟩⟩⟩⟩⟩⟩⟩⟩⟩⟩⟩⟩⟩⟩⟩⟩⟩⟩⟩⟩⟩⟩⟩⟩⟩⟩⟩⟩⟩⟩⟩⟩⟩⟩⟩⟩⟩⟩⟩⟩⟩⟩⟩⟩⟩⟩⟩⟩⟩
  refine RegEnv.All.step rfl (RegEnv.Does.pure rfl rfl rfl (fun w hS => rfl)) ?_
  refine RegEnv.All.step rfl (RegEnv.Does.pure rfl rfl rfl (fun w hS => cf_a0 rfl)) ?_
  refine RegEnv.All.step rfl (RegEnv.Does.pure rfl rfl rfl (fun w hS => cf_l0 rfl (hS0 w hS))) ?_
  refine RegEnv.All.step rfl (RegEnv.Does.call rfl rfl rfl (fun w => re_connect_known rfl rfl) KN) ?_
  refine RegEnv.All.step rfl (RegEnv.Does.pure rfl rfl rfl (fun w hS => cf_not rfl rfl)) ?_
  refine RegEnv.All.step rfl (RegEnv.Does.pure rfl rfl rfl (fun w hS => rfl)) ?_
  refine RegEnv.All.step rfl (RegEnv.Does.pure rfl rfl rfl (fun w hS => cf_row rfl hC (hS1 w hS))) ?_
  refine RegEnv.All.step rfl (RegEnv.Does.pure rfl rfl rfl (fun w hS => rfl)) ?_
  refine RegEnv.All.step rfl (RegEnv.Does.pure rfl rfl rfl (fun w hS => cf_row rfl hC (hS1 w hS))) ?_
  refine RegEnv.All.step rfl (RegEnv.Does.call rfl rfl rfl (fun w => re_connect_used rfl rfl) US) ?_
  refine RegEnv.All.step rfl (RegEnv.Does.call rfl rfl rfl (fun w => re_head_Same rfl rfl) SM) ?_
  refine RegEnv.All.step rfl (RegEnv.Does.pure rfl rfl rfl (fun w hS => cf_not rfl rfl)) ?_
  refine RegEnv.All.step rfl (RegEnv.Does.pure rfl rfl rfl (fun w hS => rfl)) ?_
  exact RegEnv.All.fin rfl
set_option maxRecDepth 100000 in
set_option maxHeartbeats 4000000 in
theorem fits_way0 {Q : Exit → Act → World → Prop} {S : World → Prop} {W : World} {v k : Int} {C : Array Value} {B : Nat} {x5 x6 x7 x8 x9 x10 x11 x12 x13 x14 x15 x16 x17 x18 x19 x20 x21 x22 x23 x24 x25 x26 x27 x28 x29 x30 x31 x32 x33 x34 x35 x36 x37 x38 x39 x40 x41 x42 x43 x44 x45 x46 x47 x48 x49 x50 x51 x52 x53 x54 x55 x56 x57 x58 x59 x60 x61 x62 : Value}
    (hS : S W.drew) (hS0 : ∀ w, S w → w.cell? ⟨B, 0, none⟩ = some (.int .i64 k))
    (KN : ∀ w, S w → Calls Tryz.prog 30 #[.int .i64 v, .int .i64 k] w fun e w' => e = .returned (.bool false) ∧ S w')
    (fin : ∀ w, S w → Q .normal ⟨#[(.int .i64 v), (.agg C), undef, (.pointer (some ⟨B, 0, none⟩)), (.bool false), x5, (.int .i64 v), (.pointer (some ⟨B, 0, none⟩)), (.int .i64 k), (.bool false), (.bool true), (.bool true), undef, undef, undef, undef, undef, undef, (.bool true), x19, x20, x21, x22, x23, x24, x25, x26, x27, x28, x29, x30, x31, x32, x33, x34, x35, x36, x37, x38, x39, x40, x41, x42, x43, x44, x45, x46, x47, x48, x49, x50, x51, x52, x53, x54, x55, x56, x57, x58, x59, x60, x61, x62], []⟩ w) :
    (Code.region 1 (RegEnv.opsAt 1 Tryz.f40.body) true).wp Tryz.prog Q ⟨#[(.int .i64 v), (.agg C), undef, (.pointer (some ⟨B, 0, none⟩)), (.bool false), x5, x6, x7, x8, x9, x10, x11, x12, x13, x14, x15, x16, x17, x18, x19, x20, x21, x22, x23, x24, x25, x26, x27, x28, x29, x30, x31, x32, x33, x34, x35, x36, x37, x38, x39, x40, x41, x42, x43, x44, x45, x46, x47, x48, x49, x50, x51, x52, x53, x54, x55, x56, x57, x58, x59, x60, x61, x62], []⟩ W := by
  refine RegEnv.wp_in (ds := [6, 7, 8, 9, 10, 11, 12, 13, 14, 15, 16, 17, 18]) (A := [(.int .i64 v), (.agg C), undef, (.pointer (some ⟨B, 0, none⟩)), (.bool false), x5, x6, x7, x8, x9, x10, x11, x12, x13, x14, x15, x16, x17, x18, x19, x20, x21, x22, x23, x24, x25, x26, x27, x28, x29, x30, x31, x32, x33, x34, x35, x36, x37, x38, x39, x40, x41, x42, x43, x44, x45, x46, x47, x48, x49, x50, x51, x52, x53, x54, x55, x56, x57, x58, x59, x60, x61, x62]) (B := [(.int .i64 v), (.agg C), undef, (.pointer (some ⟨B, 0, none⟩)), (.bool false), x5, (.int .i64 v), (.pointer (some ⟨B, 0, none⟩)), (.int .i64 k), (.bool false), (.bool true), (.bool true), undef, undef, undef, undef, undef, undef, (.bool true), x19, x20, x21, x22, x23, x24, x25, x26, x27, x28, x29, x30, x31, x32, x33, x34, x35, x36, x37, x38, x39, x40, x41, x42, x43, x44, x45, x46, x47, x48, x49, x50, x51, x52, x53, x54, x55, x56, x57, x58, x59, x60, x61, x62]) (D := []) (by kernel_rfl) (by kernel_rfl) (by kernel_rfl) ?_ hS ?_ fin
  · exact ⟨.inr rfl, ⟨.inr rfl, ⟨.inr rfl, ⟨.inr rfl, ⟨.inr rfl, ⟨.inr rfl, ⟨.inl rfl, ⟨.inl rfl, ⟨.inl rfl, ⟨.inl rfl, ⟨.inl rfl, ⟨.inl rfl, ⟨.inl rfl, ⟨.inl rfl, ⟨.inl rfl, ⟨.inl rfl, ⟨.inl rfl, ⟨.inl rfl, ⟨.inl rfl, ⟨.inr rfl, ⟨.inr rfl, ⟨.inr rfl, ⟨.inr rfl, ⟨.inr rfl, ⟨.inr rfl, ⟨.inr rfl, ⟨.inr rfl, ⟨.inr rfl, ⟨.inr rfl, ⟨.inr rfl, ⟨.inr rfl, ⟨.inr rfl, ⟨.inr rfl, ⟨.inr rfl, ⟨.inr rfl, ⟨.inr rfl, ⟨.inr rfl, ⟨.inr rfl, ⟨.inr rfl, ⟨.inr rfl, ⟨.inr rfl, ⟨.inr rfl, ⟨.inr rfl, ⟨.inr rfl, ⟨.inr rfl, ⟨.inr rfl, ⟨.inr rfl, ⟨.inr rfl, ⟨.inr rfl, ⟨.inr rfl, ⟨.inr rfl, ⟨.inr rfl, ⟨.inr rfl, ⟨.inr rfl, ⟨.inr rfl, ⟨.inr rfl, ⟨.inr rfl, ⟨.inr rfl, ⟨.inr rfl, ⟨.inr rfl, ⟨.inr rfl, ⟨.inr rfl, ⟨.inr rfl, trivial⟩⟩⟩⟩⟩⟩⟩⟩⟩⟩⟩⟩⟩⟩⟩⟩⟩⟩⟩⟩⟩⟩⟩⟩⟩⟩⟩⟩⟩⟩⟩⟩⟩⟩⟩⟩⟩⟩⟩⟩⟩⟩⟩⟩⟩⟩⟩⟩⟩⟩⟩⟩⟩⟩⟩⟩⟩⟩⟩⟩⟩⟩⟩
  refine RegEnv.All.step rfl (RegEnv.Does.pure rfl rfl rfl (fun w hS => rfl)) ?_
  refine RegEnv.All.step rfl (RegEnv.Does.pure rfl rfl rfl (fun w hS => cf_a0 rfl)) ?_
  refine RegEnv.All.step rfl (RegEnv.Does.pure rfl rfl rfl (fun w hS => cf_l0 rfl (hS0 w hS))) ?_
  refine RegEnv.All.step rfl (RegEnv.Does.call rfl rfl rfl (fun w => re_connect_known rfl rfl) KN) ?_
  refine RegEnv.All.step rfl (RegEnv.Does.pure rfl rfl rfl (fun w hS => cf_not rfl rfl)) ?_
  refine RegEnv.All.step rfl (RegEnv.Does.pure rfl rfl rfl (fun w hS => rfl)) ?_
  refine RegEnv.All.step rfl (RegEnv.Does.skip rfl rfl rfl) ?_
  refine RegEnv.All.step rfl (RegEnv.Does.skip rfl rfl rfl) ?_
  refine RegEnv.All.step rfl (RegEnv.Does.skip rfl rfl rfl) ?_
  refine RegEnv.All.step rfl (RegEnv.Does.skip rfl rfl rfl) ?_
  refine RegEnv.All.step rfl (RegEnv.Does.skip rfl rfl rfl) ?_
  refine RegEnv.All.step rfl (RegEnv.Does.skip rfl rfl rfl) ?_
  refine RegEnv.All.step rfl (RegEnv.Does.pure rfl rfl rfl (fun w hS => rfl)) ?_
  exact RegEnv.All.fin rfl
theorem used_five (p : Pk) (hk : p.kind = 1 ∨ p.kind = 2) : usedP 5 p = usedC p := by
  unfold usedP usedC
  rcases hk with hk | hk
  · have h2 : ¬ p.kind = 2 := by omega
    rw [if_neg h2, if_neg h2]
    unfold us6 us5 us4 us3 us1
    cases p.hasWill <;> simp
  · rw [if_pos hk, if_pos hk]
    unfold us2 us1
    simp
theorem used_four (p : Pk) (hk : p.kind = 1 ∨ p.kind = 2) : usedP 4 p = { usedC p with props := [], wProps := [] } := by
  unfold usedP usedC
  rcases hk with hk | hk
  · have h2 : ¬ p.kind = 2 := by omega
    rw [if_neg h2, if_neg h2]
    unfold us6 us5 us4 us3 us1
    cases p.hasWill <;> simp
  · rw [if_pos hk, if_pos hk]
    unfold us2 us1
    simp [Pk.zero]
theorem used_eq (v : Int) (p : Pk) (hv : v = 4 ∨ v = 5) (hk : p.kind = 1 ∨ p.kind = 2) : decide (p = usedP v p) = (decide (p = usedC p) && !(v == 4 && !(p.props.isEmpty && p.wProps.isEmpty))) := by
  rcases hv with rfl | rfl
  · rw [used_four p hk, Bool.eq_iff_iff]
    simp only [decide_eq_true_eq, Bool.and_eq_true, beq_self_eq_true, Bool.true_and, Bool.not_not, List.isEmpty_iff]
    constructor
    · intro h
      have h1 : p.props = [] := by rw [h]
      have h2 : p.wProps = [] := by rw [h]
      refine ⟨?_, h1, h2⟩
      have h3 : (usedC p).props = [] := by unfold usedC; split <;> simp [h1]
      have h4 : (usedC p).wProps = [] := by unfold usedC; split <;> simp [h2, Pk.zero]
      conv => lhs; rw [h]
      generalize usedC p = q at h3 h4
      obtain ⟨⟩ := q
      simp only at h3 h4
      subst h3 h4
      rfl
    · rintro ⟨h, h1, h2⟩
      have h3 : (usedC p).props = [] := by rw [← h]; exact h1
      have h4 : (usedC p).wProps = [] := by rw [← h]; exact h2
      conv => lhs; rw [h]
      generalize usedC p = q at h3 h4
      obtain ⟨⟩ := q
      simp only at h3 h4
      subst h3 h4
      rfl
  · rw [used_five p hk]
    simp
/-- What okC asks behind the rest. -/
def restC (v : Int) (p : Pk) : Bool :=
  if p.kind = 2 then (if v = 4 then returnR p.code else mayR 2 p.code) && (!p.session || p.code == 0)
  else !(v == 4 && (p.client.isEmpty && !p.clean || p.hasPass && !p.hasUser)) && decide (0 ≤ p.keep ∧ p.keep ≤ 65535) && decide (0 ≤ p.wQos ∧ p.wQos ≤ 2)
theorem okC_eq (v : Int) (p : Pk) : okC v p = (versC v && (p.kind == 1 || p.kind == 2) && (decide (p = usedC p) && !(v == 4 && !(p.props.isEmpty && p.wProps.isEmpty))) && restC v p) := by
  unfold okC restC
  simp only [Bool.and_assoc]
theorem used_at {w : World} {v : Int} {p : Pk} {a : Ad} (h : PkAt w p a) : PkAt w (usedP v p) (usedAd v p a) := by
  unfold usedP usedAd
  split
  · refine ⟨fun e => absurd rfl e, fun e => absurd rfl e, fun e => absurd rfl e, ?_⟩
    show PL w (if v = 5 then a.ps else none) (if v = 5 then p.props else [])
    split
    · exact h.ps
    · exact fun e => absurd rfl e
  · refine ⟨?_, fun e => absurd rfl e, fun e => absurd rfl e, ?_⟩
    · show PL w (if p.hasWill then (if v = 5 then a.w else none) else none) (if p.hasWill then (if v = 5 then p.wProps else []) else [])
      split
      · split
        · exact h.w
        · exact fun e => absurd rfl e
      · exact fun e => absurd rfl e
    · show PL w (if v = 5 then a.ps else none) (if v = 5 then p.props else [])
      split
      · exact h.ps
      · exact fun e => absurd rfl e
theorem used_short {v : Int} {p : Pk} (h : Short p) : Short (usedP v p) := by
  obtain ⟨_, _, h3, h4⟩ := h
  unfold usedP
  split
  · refine ⟨Nat.zero_le _, Nat.zero_le _, ?_, Nat.zero_le _⟩
    show (if v = 5 then p.props else []).length ≤ 70000
    split
    · exact h3
    · exact Nat.zero_le _
  · refine ⟨Nat.zero_le _, Nat.zero_le _, ?_, ?_⟩
    · show (if v = 5 then p.props else []).length ≤ 70000
      split
      · exact h3
      · exact Nat.zero_le _
    · show (if p.hasWill then (if v = 5 then p.wProps else []) else []).length ≤ 70000
      split
      · split
        · exact h4
        · exact Nat.zero_le _
      · exact Nat.zero_le _
/-- What stands while connect.fits, connect.Valid run: the packet, in its box. -/
structure BxS (w : World) (p : Pk) (a : Ad) (W : World) : Prop where
  low : Below w.heap.size w W
  box : W.heap[w.heap.size]? = some (.cells (pkC p a) 32 (0, 0))
theorem BxS.made (w : World) (p : Pk) (a : Ad) : BxS w p a (w.alloc (.cells (pkC p a) 32)) := ⟨below_box _, heap_alloc_new _ _⟩
theorem BxS.call {w W W' : World} {p : Pk} {a : Ad} (h : BxS w p a W) (hb : Below W.heap.size W W') : BxS w p a W' := ⟨below_then h.low hb, (hb.block _ (lt_of_block h.box)).trans h.box⟩
theorem BxS.draw {w W : World} {p : Pk} {a : Ad} (h : BxS w p a W) : BxS w p a W.drew := ⟨h.low.drew, h.box⟩
theorem BxS.cell {w W : World} {p : Pk} {a : Ad} (h : BxS w p a W) (j : Nat) : W.cell? ⟨w.heap.size, j, none⟩ = (pkC p a)[j]? := cell_of_row _ _ j _ _ _ h.box
set_option maxHeartbeats 2000000 in
set_option maxRecDepth 100000 in
theorem con_fits (v : Int) (p : Pk) (a : Ad) (w : World) (hp : PkAt w p a) (sp : Short p) :
    Calls Tryz.prog 40 #[.int .i64 v, pkV p a] w fun e w' => e = .returned (.bool (okC v p)) ∧ Below w.heap.size w w' := by
  have S0 := BxS.made w p a
  have KN : ∀ W, BxS w p a W → Calls Tryz.prog 30 #[.int .i64 v, .int .i64 p.kind] W fun e w' => e = .returned (.bool (versC v && (p.kind == 1 || p.kind == 2))) ∧ BxS w p a w' := fun W h => (con_known v p.kind W).mono fun e w' ⟨he, hw⟩ => ⟨he, hw ▸ h⟩
  have US : ∀ W, BxS w p a W → Calls Tryz.prog 72 #[.int .i64 v, .agg (pkC p a)] W fun e w' => e = .returned (.agg (pkC (usedP v p) (usedAd v p a))) ∧ BxS w p a w' := fun W h => (con_used v p a W).mono fun e w' ⟨he, hb⟩ => ⟨he, h.call hb⟩
  have SM : ∀ W, BxS w p a W → Calls Tryz.prog 71 #[.agg (pkC p a), .agg (pkC (usedP v p) (usedAd v p a))] W fun e w' => e = .returned (.bool (decide (p = usedP v p))) ∧ BxS w p a w' := fun W h => (hd_same p (usedP v p) a (usedAd v p a) W (hp.below h.low) (used_at (hp.below h.low)) sp (used_short sp)).mono fun e w' ⟨he, hb⟩ => ⟨he, h.call hb⟩
  have C1 := pkC_size p a
  have P0 : ∀ W, BxS w p a W → W.cell? ⟨w.heap.size, 0, none⟩ = some (.int .i64 p.kind) := fun W h => h.cell 0
  have P1 : ∀ W, BxS w p a W → W.heap[w.heap.size]? = some (.cells (pkC p a) 32 (0, 0)) := fun W h => h.box
  have HS0 := Lib.hid S0.draw
  have hC1 := Lib.hid C1
  have hP0 := Lib.hid P0
  have hP1 := Lib.hid P1
  rw [okC_eq]
  by_cases hkn : (versC v && (p.kind == 1 || p.kind == 2)) = true
  · have hv : v = 4 ∨ v = 5 := by simp only [versC, Bool.and_eq_true, Bool.or_eq_true, beq_iff_eq] at hkn; exact hkn.1
    have hk : p.kind = 1 ∨ p.kind = 2 := by simp only [Bool.and_eq_true, Bool.or_eq_true, beq_iff_eq] at hkn; exact hkn.2
    rw [hkn] at KN ⊢
    rw [← used_eq v p hv hk, Bool.true_and]
    have hKN := Lib.hid KN
    have hUS := Lib.hid US
    by_cases he : p = usedP v p
    · rw [decide_eq_true he] at SM ⊢
      have hSM := Lib.hid SM
      rw [Bool.true_and]
      obtain ⟨r, hr⟩ : ∃ r, restC v p = r := ⟨_, rfl⟩
      rw [hr]
      have HR := Lib.hid hr
      have HV := Lib.hid hv
      have HK := Lib.hid hk
      have HE := Lib.hid he
      unfold pkV
      clear S0 KN US SM C1 P0 P1 hkn hv hk he hr
      go_enter Tryz.func40, Tryz.ntmps40
      go_upto_region 1 with fail
      refine fits_way1 (S := BxS w p a) (B := w.heap.size) HS0.out hC1.out hP0.out hP1.out hKN.out hUS.out hSM.out ?_
      intro W hW
      have HW := Lib.hid hW
      clear hW HS0
      have k0 := HW.out.cell 0
      change _ = some (Value.int .i64 p.kind) at k0
      by_cases h2 : p.kind = 2
      · rw [h2] at k0
        have hr := HR.out
        rw [restC, if_pos h2] at hr
        have k17 : W.cell? ⟨w.heap.size, 21, none⟩ = some (.int .i64 p.code) := HW.out.cell 21
        have CC := con_code v p.code
        generalize (if v = 4 then returnR p.code else mayR 2 p.code) = cf at hr CC
        have CC := Lib.hid CC
        clear h2 HR HE HK
        cases cf with
        | false =>
          have HR := Lib.hid hr
          clear hr
          go_wp2_with fail
          refine (CC.out _).mono ?_
          rintro e W2 ⟨rfl, hb⟩
          have B2 := Lib.hid (HW.out.call hb).low
          clear hb
          go_wp2_with fail
          go_ret
          exact ⟨congrArg (fun b => Ending.returned (Value.bool b)) HR.out, B2.out⟩
        | true =>
          by_cases hc : p.code = 0
          · have HR := Lib.hid (show true = r by rw [← hr, hc]; simp)
            have HC := Lib.hid hc
            rw [hc] at k17 CC
            clear hr hc
            have CC := Lib.hid CC.out
            go_wp2_with fail
            refine (CC.out _).mono ?_
            rintro e W2 ⟨rfl, hb⟩
            have B2 := Lib.hid (HW.out.call hb).low
            have k17 : W2.cell? ⟨w.heap.size, 21, none⟩ = some (.int .i64 p.code) := (HW.out.call hb).cell 21
            rw [HC.out] at k17
            clear hb
            go_wp2_with fail
            go_ret
            exact ⟨congrArg (fun b => Ending.returned (Value.bool b)) HR.out, B2.out⟩
          · have hc' : (p.code == 0) = false := beq_eq_false_iff_ne.2 hc
            have HR := Lib.hid (show (!p.session) = r by rw [← hr, hc']; simp)
            clear hr hc
            go_wp2_with fail
            refine (CC.out _).mono ?_
            rintro e W2 ⟨rfl, hb⟩
            have B2 := Lib.hid (HW.out.call hb).low
            have k17 : W2.cell? ⟨w.heap.size, 21, none⟩ = some (.int .i64 p.code) := (HW.out.call hb).cell 21
            have k16 : W2.cell? ⟨w.heap.size, 20, none⟩ = some (.bool p.session) := (HW.out.call hb).cell 20
            clear hb
            go_wp2_with fail
            go_ret
            exact ⟨congrArg (fun b => Ending.returned (Value.bool b)) HR.out, B2.out⟩
      · have h2' : (p.kind == 2) = false := beq_eq_false_iff_ne.2 h2
        obtain ⟨nm, hnm⟩ : ∃ x, (v != 4 || (!p.client.isEmpty || p.clean)) = x := ⟨_, rfl⟩
        have hr := HR.out
        have hf : (p.hasWill || (p.wQos == 0 && !p.wRetain)) = true := by
          cases hw : p.hasWill with
          | true => rfl
          | false =>
            have h := HE.out
            rw [usedP, if_neg h2] at h
            have h1 : p.wQos = 0 := by rw [h]; unfold us6 us5 us4; simp [hw]
            have h3 : p.wRetain = false := by rw [h]; unfold us6 us5 us4; simp [hw]
            rw [h1, h3]; rfl
        have hr2 : r = (nm && (decide (0 ≤ p.keep) && (decide (p.keep ≤ 65535) && fitC v p.hasWill p.hasPass p.hasUser p.wRetain p.wQos))) := by
          rw [← hr, restC, if_neg h2, fitC, hf, ← hnm]
          have hq : decide (0 ≤ p.wQos ∧ p.wQos ≤ 2) = (decide (0 ≤ p.wQos) && decide (p.wQos ≤ 2)) := by rw [Bool.decide_and]
          have hk : decide (0 ≤ p.keep ∧ p.keep ≤ 65535) = (decide (0 ≤ p.keep) && decide (p.keep ≤ 65535)) := by rw [Bool.decide_and]
          rw [hq, hk, show (v != 4) = !(v == 4) from rfl]
          generalize (v == 4) = b1
          generalize p.client.isEmpty = b2
          generalize decide (0 ≤ p.wQos) = b3
          generalize decide (p.wQos ≤ 2) = b4
          generalize decide (0 ≤ p.keep) = b5
          generalize decide (p.keep ≤ 65535) = b6
          generalize p.clean = b7
          generalize p.hasPass = b8
          generalize p.hasUser = b9
          revert b1 b2 b3 b4 b5 b6 b7 b8 b9
          decide
        have FF := Lib.hid (fun W => con_flags_fit v (c := pkC p a) W (show (pkC p a)[10]? = some (.bool p.hasUser) from rfl) (show (pkC p a)[12]? = some (.bool p.hasPass) from rfl) (show (pkC p a)[14]? = some (.bool p.hasWill) from rfl) (show (pkC p a)[17]? = some (.int .i64 p.wQos) from rfl) (show (pkC p a)[18]? = some (.bool p.wRetain) from rfl))
        generalize fitC v p.hasWill p.hasPass p.hasUser p.wRetain p.wQos = ft at hr2 FF
        have HR2 := Lib.hid hr2
        have k9 : W.cell? ⟨w.heap.size, 9, none⟩ = some (.string (bs p.client)) := HW.out.cell 9
        have k7 : W.cell? ⟨w.heap.size, 7, none⟩ = some (.bool p.clean) := HW.out.cell 7
        clear h2 hr hr2 hf HR HE HK
        go_upto_region 5 with fail
        go_cut [5] (fun s5 wx => s5 = .bool nm ∧ wx = W)
        case first =>
          by_cases h4 : v = 4
          · subst h4
            have hE : (bs p.client).toList.isEmpty = p.client.isEmpty := by rw [bs_toList]
            generalize bs p.client = C at k9 hE
            cases hc : p.client.isEmpty with
            | true =>
              rw [hc] at hE
              cases hcl : p.clean
              all_goals
                have HN := Lib.hid hnm
                rw [hc, hcl] at HN
                rw [hcl] at k7
                clear hnm hc hcl
                go_wp2_with fail
                go_meet
                exact ⟨congrArg Value.bool HN.out, rfl⟩
            | false =>
              rw [hc] at hE
              have HN := Lib.hid hnm
              rw [hc] at HN
              clear hnm hc
              go_wp2_with fail
              go_meet
              exact ⟨congrArg Value.bool HN.out, rfl⟩
          · have h4' : (v == 4) = false := beq_eq_false_iff_ne.2 h4
            have HN := Lib.hid (show true = nm by rw [← hnm, show (v != 4) = !(v == 4) from rfl, h4']; rfl)
            have h4n : (v != 4) = true := by rw [show (v != 4) = !(v == 4) from rfl, h4']; rfl
            clear h4 hnm h4'
            go_wp2_with fail
            go_meet
            exact ⟨congrArg Value.bool HN.out, rfl⟩
        case rest =>
          obtain ⟨rfl, rfl⟩ := hcut
          clear k9 k7 hnm h2' k0
          have k8 : wc.cell? ⟨w.heap.size, 8, none⟩ = some (.int .i64 p.keep) := HW.out.cell 8
          cases nm with
          | false =>
            have HR := Lib.hid HR2.out.symm
            clear HR2
            have LO := Lib.hid HW.out.low
            go_wp2_with fail
            go_ret
            exact ⟨congrArg (fun b => Ending.returned (Value.bool b)) HR.out, LO.out⟩
          | true =>
            by_cases q0 : p.keep < 0
            · have HR := Lib.hid (show false = r by rw [HR2.out, decide_eq_false (show ¬ 0 ≤ p.keep by omega)]; rfl)
              have LO := Lib.hid HW.out.low
              clear HR2
              go_wp2_with fail
              go_ret
              exact ⟨congrArg (fun b => Ending.returned (Value.bool b)) HR.out, LO.out⟩
            by_cases q1 : 65535 < p.keep
            · have HR := Lib.hid (show false = r by rw [HR2.out, decide_eq_true (show 0 ≤ p.keep by omega), decide_eq_false (show ¬ p.keep ≤ 65535 by omega)]; rfl)
              have LO := Lib.hid HW.out.low
              clear HR2
              go_wp2_with fail
              go_ret
              exact ⟨congrArg (fun b => Ending.returned (Value.bool b)) HR.out, LO.out⟩
            have HR := Lib.hid (show ft = r by rw [HR2.out, decide_eq_true (show 0 ≤ p.keep by omega), decide_eq_true (show p.keep ≤ 65535 by omega)]; rfl)
            clear HR2
            have GB := Lib.hid HW.out.box
            go_wp2_with (refine wpList_load_row_g rfl _ _ rfl w.heap.size rfl 32 _ (0, 0) _ GB.out Tryz.underlying32 rfl (by rw [hC1.out]; exact info_pk) ?_)
            refine (FF.out _).mono ?_
            rintro e W2 ⟨rfl, hb⟩
            have LO := Lib.hid (below_then HW.out.low hb)
            clear hb
            go_wp2_with fail
            go_ret
            exact ⟨congrArg (fun b => Ending.returned (Value.bool b)) HR.out, LO.out⟩

    · rw [decide_eq_false he] at SM ⊢
      have hSM := Lib.hid SM
      unfold pkV
      clear S0 KN US SM C1 P0 P1 hkn hv hk he
      go_enter Tryz.func40, Tryz.ntmps40
      go_upto_region 1 with fail
      refine fits_way1 (S := BxS w p a) (B := w.heap.size) HS0.out hC1.out hP0.out hP1.out hKN.out hUS.out hSM.out ?_
      intro W hW
      have HW := Lib.hid hW.low
      clear hW HS0
      go_wp2_with fail
      go_ret
      exact ⟨rfl, HW.out⟩
  · have hkn : (versC v && (p.kind == 1 || p.kind == 2)) = false := by simpa using hkn
    rw [hkn] at KN ⊢
    have hKN := Lib.hid KN
    unfold pkV
    clear S0 KN US SM C1 P0 P1 hkn
    go_enter Tryz.func40, Tryz.ntmps40
    go_upto_region 1 with fail
    refine fits_way0 (S := BxS w p a) (B := w.heap.size) HS0.out hP0.out hKN.out ?_
    intro W hW
    have HW := Lib.hid hW.low
    clear hW HS0
    go_wp2_with fail
    go_ret
    exact ⟨rfl, HW.out⟩
end Go.Proofs.YtbgpcmbaodjibaaGreat
