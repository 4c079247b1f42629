/-
  The region of head.Same, by its final frame, in eight ways: which of the parts is the first to differ. Condition: none.
-/
import Derived.Test.YtaahhbjnflimnaaGreatK04
import Derived.Test.YtaahhbjnflimnaaGreatK20
import Derived.Test.YtaahhbjnflimnaaGreatK22
import Derived.Test.YtaahhbjnflimnaaGreatK23
namespace Go.Proofs.YtaahhbjnflimnaaGreat
open Go.RowKit

section
variable {a : Act} {w : World} {d : Option Tmp} {p : String} {af : Array Edge} {gd : Option (Nat × Bool)} {x y z : Tmp} {r : TypeId}
theorem sm_row {g : Nat} {C : Array Value} (hx : a.eval (.tmp x) = .pointer (some ⟨g, 0, none⟩)) (hs : C.size = 25) (hg : w.heap[g]? = some (.cells C 28 (0, 0))) :
    (execOp a.eval { dst := d, op := .load 28 (.tmp x), type := 28, pos := p, after := af, guard := gd }).run Tryz.prog w = .ok (.value (.agg C)) w := by
  unfold execOp
  simp only [hx, Instr.loadAt, Instr.sureAddr, Sem.run_bind, Sem.run_pure, Result.andThen_ok, run_loadVar_row w g 28 28 C (0, 0) _ hg Tryz.underlying28 rfl (by rw [hs]; exact info_pk)]
theorem sm_a18 {g : Nat} (hx : a.eval (.tmp x) = .pointer (some ⟨g, 0, none⟩)) :
    (execOp a.eval { dst := d, op := .fieldAddr 28 (.tmp x) 18, type := r, pos := p, after := af, guard := gd }).run Tryz.prog w = .ok (.value (.pointer (some ⟨g, 22, none⟩))) w := by
  generalize a.eval = f at *
  go_simp
theorem sm_a19 {g : Nat} (hx : a.eval (.tmp x) = .pointer (some ⟨g, 0, none⟩)) :
    (execOp a.eval { dst := d, op := .fieldAddr 28 (.tmp x) 19, type := r, pos := p, after := af, guard := gd }).run Tryz.prog w = .ok (.value (.pointer (some ⟨g, 23, none⟩))) w := by
  generalize a.eval = f at *
  go_simp
theorem sm_a20 {g : Nat} (hx : a.eval (.tmp x) = .pointer (some ⟨g, 0, none⟩)) :
    (execOp a.eval { dst := d, op := .fieldAddr 28 (.tmp x) 20, type := r, pos := p, after := af, guard := gd }).run Tryz.prog w = .ok (.value (.pointer (some ⟨g, 24, none⟩))) w := by
  generalize a.eval = f at *
  go_simp
theorem sm_a15 {g : Nat} (hx : a.eval (.tmp x) = .pointer (some ⟨g, 0, none⟩)) :
    (execOp a.eval { dst := d, op := .fieldAddr 28 (.tmp x) 15, type := r, pos := p, after := af, guard := gd }).run Tryz.prog w = .ok (.value (.pointer (some ⟨g, 15, none⟩))) w := by
  generalize a.eval = f at *
  go_simp
theorem sm_aw {g : Nat} (hx : a.eval (.tmp x) = .pointer (some ⟨g, 15, none⟩)) :
    (execOp a.eval { dst := d, op := .fieldAddr 24 (.tmp x) 4, type := r, pos := p, after := af, guard := gd }).run Tryz.prog w = .ok (.value (.pointer (some ⟨g, 19, none⟩))) w := by
  generalize a.eval = f at *
  go_simp
theorem sm_li {g j n c : Nat} {A : Option Addr} (hx : a.eval (.tmp x) = .pointer (some ⟨g, j, none⟩)) (hc : w.cell? ⟨g, j, none⟩ = some (.slice A n c)) :
    (execOp a.eval { dst := d, op := .load 25 (.tmp x), type := 25, pos := p, after := af, guard := gd }).run Tryz.prog w = .ok (.value (.slice A n c)) w := by
  generalize a.eval = f at *
  go_simp
theorem sm_lf {g j n c : Nat} {A : Option Addr} (hx : a.eval (.tmp x) = .pointer (some ⟨g, j, none⟩)) (hc : w.cell? ⟨g, j, none⟩ = some (.slice A n c)) :
    (execOp a.eval { dst := d, op := .load 26 (.tmp x), type := 26, pos := p, after := af, guard := gd }).run Tryz.prog w = .ok (.value (.slice A n c)) w := by
  generalize a.eval = f at *
  go_simp
theorem sm_lp {g j n c : Nat} {A : Option Addr} (hx : a.eval (.tmp x) = .pointer (some ⟨g, j, none⟩)) (hc : w.cell? ⟨g, j, none⟩ = some (.slice A n c)) :
    (execOp a.eval { dst := d, op := .load 22 (.tmp x), type := 22, pos := p, after := af, guard := gd }).run Tryz.prog w = .ok (.value (.slice A n c)) w := by
  generalize a.eval = f at *
  go_simp
theorem sm_enums {p' q' : Pk} {b : Bool} (hx : a.eval (.tmp x) = .agg (numsA p')) (hy : a.eval (.tmp y) = .agg (numsA q')) (hb : decide (p'.nums = q'.nums) = b) :
    (execOp a.eval { dst := d, op := .binOp .eql 135 (.tmp x) (.tmp y) 135, type := r, pos := p, after := af, guard := gd }).run Tryz.prog w = .ok (.value (.bool b)) w := by
  subst hb
  unfold execOp
  simp only [hx, hy, Sem.run_bind, run_eqGuard_agg w .eql 135 (.tmp x) (.tmp y) _ _ (show Tryz.prog.eqGuardType Tryz.prog.depth 135 = false by kernel_rfl), Result.andThen_ok, eql_nums p' q' w, Sem.run_pure]
theorem sm_emarks {p' q' : Pk} {b : Bool} (hx : a.eval (.tmp x) = .agg (marksA p')) (hy : a.eval (.tmp y) = .agg (marksA q')) (hb : decide (p'.marks = q'.marks) = b) :
    (execOp a.eval { dst := d, op := .binOp .eql 137 (.tmp x) (.tmp y) 137, type := r, pos := p, after := af, guard := gd }).run Tryz.prog w = .ok (.value (.bool b)) w := by
  subst hb
  unfold execOp
  simp only [hx, hy, Sem.run_bind, run_eqGuard_agg w .eql 137 (.tmp x) (.tmp y) _ _ (show Tryz.prog.eqGuardType Tryz.prog.depth 137 = false by kernel_rfl), Result.andThen_ok, eql_marks p' q' w, Sem.run_pure]
theorem sm_etexts {p' q' : Pk} {b : Bool} (hx : a.eval (.tmp x) = .agg (textsA p')) (hy : a.eval (.tmp y) = .agg (textsA q')) (hb : decide (p'.texts = q'.texts) = b) :
    (execOp a.eval { dst := d, op := .binOp .eql 139 (.tmp x) (.tmp y) 139, type := r, pos := p, after := af, guard := gd }).run Tryz.prog w = .ok (.value (.bool b)) w := by
  subst hb
  unfold execOp
  simp only [hx, hy, Sem.run_bind, run_eqGuard_agg w .eql 139 (.tmp x) (.tmp y) _ _ (show Tryz.prog.eqGuardType Tryz.prog.depth 139 = false by kernel_rfl), Result.andThen_ok, eql_texts p' q' w, Sem.run_pure]
theorem re_head_numbers {ts : Array TypeId} {u : Value} (hx : a.eval (.tmp x) = u) :
    (execOp a.eval { dst := d, op := .call { callee := .value (.func 145), args := #[.tmp x], argTypes := ts }, type := r, pos := p, after := af, guard := gd }).run Tryz.prog w = .ok (.enter 145 #[u]) w := by
  have hf : a.eval (.func 145) = .func (.func 145) #[] #[] := rfl
  generalize a.eval = f at *
  go_simp
theorem re_head_marks {ts : Array TypeId} {u : Value} (hx : a.eval (.tmp x) = u) :
    (execOp a.eval { dst := d, op := .call { callee := .value (.func 146), args := #[.tmp x], argTypes := ts }, type := r, pos := p, after := af, guard := gd }).run Tryz.prog w = .ok (.enter 146 #[u]) w := by
  have hf : a.eval (.func 146) = .func (.func 146) #[] #[] := rfl
  generalize a.eval = f at *
  go_simp
theorem re_head_texts {ts : Array TypeId} {u : Value} (hx : a.eval (.tmp x) = u) :
    (execOp a.eval { dst := d, op := .call { callee := .value (.func 147), args := #[.tmp x], argTypes := ts }, type := r, pos := p, after := af, guard := gd }).run Tryz.prog w = .ok (.enter 147 #[u]) w := by
  have hf : a.eval (.func 147) = .func (.func 147) #[] #[] := rfl
  generalize a.eval = f at *
  go_simp
theorem sm_fint {ts : Array TypeId} {u v : Value} (hx : a.eval (.tmp x) = u) (hy : a.eval (.tmp y) = v) :
    (execOp a.eval { dst := d, op := .call { callee := .value (.func 148), args := #[.tmp x, .tmp y, .func 149], argTypes := ts }, type := r, pos := p, after := af, guard := gd }).run Tryz.prog w = .ok (.enter 148 #[u, v, .func (.func 149) #[] #[]]) w := by
  have hf : a.eval (.func 148) = .func (.func 148) #[] #[] := rfl
  have hc : a.eval (.func 149) = .func (.func 149) #[] #[] := rfl
  generalize a.eval = f at *
  go_simp
theorem sm_ffi {ts : Array TypeId} {u v : Value} (hx : a.eval (.tmp x) = u) (hy : a.eval (.tmp y) = v) :
    (execOp a.eval { dst := d, op := .call { callee := .value (.func 150), args := #[.tmp x, .tmp y, .func 151], argTypes := ts }, type := r, pos := p, after := af, guard := gd }).run Tryz.prog w = .ok (.enter 150 #[u, v, .func (.func 151) #[] #[]]) w := by
  have hf : a.eval (.func 150) = .func (.func 150) #[] #[] := rfl
  have hc : a.eval (.func 151) = .func (.func 151) #[] #[] := rfl
  generalize a.eval = f at *
  go_simp
theorem sm_fprop {ts : Array TypeId} {u v : Value} (hx : a.eval (.tmp x) = u) (hy : a.eval (.tmp y) = v) :
    (execOp a.eval { dst := d, op := .call { callee := .value (.func 152), args := #[.tmp x, .tmp y, .func 153], argTypes := ts }, type := r, pos := p, after := af, guard := gd }).run Tryz.prog w = .ok (.enter 152 #[u, v, .func (.func 153) #[] #[]]) w := by
  have hf : a.eval (.func 152) = .func (.func 152) #[] #[] := rfl
  have hc : a.eval (.func 153) = .func (.func 153) #[] #[] := rfl
  generalize a.eval = f at *
  go_simp
end
set_option maxRecDepth 100000 in
set_option maxHeartbeats 4000000 in
theorem same_way0 {Q : Exit → Act → World → Prop} {S : World → Prop} {W : World} {p q : Pk} {C E : Array Value} {B : Nat} {x5 x6 x7 x8 x9 x10 x11 x12 x13 x14 x15 x16 x17 x18 x19 x20 x21 x22 x23 x24 x25 x26 x27 x28 x29 x30 x31 x32 x33 x34 x35 x36 x37 x38 x39 x40 x41 x42 x43 x44 x45 x46 x47 x48 x49 x50 x51 x52 x53 : Value}
    (hS : S W.drew) (hC : C.size = 25) (hE : E.size = 25) (hS1 : ∀ w, S w → w.heap[B]? = some (.cells C 28 (0, 0))) (hS2 : ∀ w, S w → w.heap[B + 1]? = some (.cells E 28 (0, 0)))
    (N0p : ∀ w, S w → Calls Tryz.prog 145 #[.agg C] w fun e w' => e = .returned (.agg (numsA p)) ∧ S w')
    (N0q : ∀ w, S w → Calls Tryz.prog 145 #[.agg E] w fun e w' => e = .returned (.agg (numsA q)) ∧ S w')
    (h0 : decide (p.nums = q.nums) = false)
    (fin : ∀ w, S w → Q .normal ⟨#[(.agg C), (.agg E), (.pointer (some ⟨B, 0, none⟩)), (.pointer (some ⟨B + 1, 0, none⟩)), (.bool false), (.agg C), (.agg (numsA p)), (.agg E), (.agg (numsA q)), (.bool false), (.bool false), undef, undef, undef, undef, undef, (.bool false), (.bool false), undef, undef, undef, undef, undef, (.bool false), (.bool false), undef, undef, undef, undef, undef, (.bool false), (.bool false), undef, undef, undef, undef, undef, (.bool false), (.bool false), undef, undef, undef, undef, undef, (.bool false), (.bool false), undef, undef, undef, undef, undef, undef, undef, (.bool false)], []⟩ w) :
    (Code.region 1 (RegEnv.opsAt 1 Tryz.f94.body) true).wp Tryz.prog Q ⟨#[(.agg C), (.agg E), (.pointer (some ⟨B, 0, none⟩)), (.pointer (some ⟨B + 1, 0, none⟩)), (.bool false), x5, x6, x7, x8, x9, x10, x11, x12, x13, x14, x15, x16, x17, x18, x19, x20, x21, x22, x23, x24, x25, x26, x27, x28, x29, x30, x31, x32, x33, x34, x35, x36, x37, x38, x39, x40, x41, x42, x43, x44, x45, x46, x47, x48, x49, x50, x51, x52, x53], []⟩ W := by
  refine RegEnv.wp_in (ds := [5, 6, 7, 8, 9, 10, 11, 12, 13, 14, 15, 16, 17, 18, 19, 20, 21, 22, 23, 24, 25, 26, 27, 28, 29, 30, 31, 32, 33, 34, 35, 36, 37, 38, 39, 40, 41, 42, 43, 44, 45, 46, 47, 48, 49, 50, 51, 52, 53, 4]) (D := []) (by kernel_rfl) (by kernel_rfl) (by kernel_rfl) ?_ hS ?_ fin
  · exact (by repeat (first | exact trivial | refine ⟨.inr rfl, ?_⟩ | refine ⟨.inl rfl, ?_⟩))
  refine RegEnv.pu rfl rfl rfl rfl (fun w hS => sm_row rfl hC (hS1 w hS)) ?_
  refine RegEnv.ca rfl rfl rfl rfl (fun w => re_head_numbers rfl) N0p ?_
  refine RegEnv.pu rfl rfl rfl rfl (fun w hS => sm_row rfl hE (hS2 w hS)) ?_
  refine RegEnv.ca rfl rfl rfl rfl (fun w => re_head_numbers rfl) N0q ?_
  refine RegEnv.pu rfl rfl rfl rfl (fun w hS => sm_enums rfl rfl h0) ?_
  iterate 45 (first | refine RegEnv.sk rfl rfl rfl rfl ?_ | refine RegEnv.pu rfl rfl rfl rfl (fun w hS => rfl) ?_)
  exact RegEnv.All.fin rfl
set_option maxRecDepth 100000 in
set_option maxHeartbeats 4000000 in
theorem same_way1 {Q : Exit → Act → World → Prop} {S : World → Prop} {W : World} {p q : Pk} {C E : Array Value} {B : Nat} {x5 x6 x7 x8 x9 x10 x11 x12 x13 x14 x15 x16 x17 x18 x19 x20 x21 x22 x23 x24 x25 x26 x27 x28 x29 x30 x31 x32 x33 x34 x35 x36 x37 x38 x39 x40 x41 x42 x43 x44 x45 x46 x47 x48 x49 x50 x51 x52 x53 : Value}
    (hS : S W.drew) (hC : C.size = 25) (hE : E.size = 25) (hS1 : ∀ w, S w → w.heap[B]? = some (.cells C 28 (0, 0))) (hS2 : ∀ w, S w → w.heap[B + 1]? = some (.cells E 28 (0, 0)))
    (N0p : ∀ w, S w → Calls Tryz.prog 145 #[.agg C] w fun e w' => e = .returned (.agg (numsA p)) ∧ S w')
    (N0q : ∀ w, S w → Calls Tryz.prog 145 #[.agg E] w fun e w' => e = .returned (.agg (numsA q)) ∧ S w')
    (h0 : decide (p.nums = q.nums) = true)
    (N1p : ∀ w, S w → Calls Tryz.prog 146 #[.agg C] w fun e w' => e = .returned (.agg (marksA p)) ∧ S w')
    (N1q : ∀ w, S w → Calls Tryz.prog 146 #[.agg E] w fun e w' => e = .returned (.agg (marksA q)) ∧ S w')
    (h1 : decide (p.marks = q.marks) = false)
    (fin : ∀ w, S w → Q .normal ⟨#[(.agg C), (.agg E), (.pointer (some ⟨B, 0, none⟩)), (.pointer (some ⟨B + 1, 0, none⟩)), (.bool false), (.agg C), (.agg (numsA p)), (.agg E), (.agg (numsA q)), (.bool true), (.bool true), (.agg C), (.agg (marksA p)), (.agg E), (.agg (marksA q)), (.bool false), (.bool false), (.bool false), undef, undef, undef, undef, undef, (.bool false), (.bool false), undef, undef, undef, undef, undef, (.bool false), (.bool false), undef, undef, undef, undef, undef, (.bool false), (.bool false), undef, undef, undef, undef, undef, (.bool false), (.bool false), undef, undef, undef, undef, undef, undef, undef, (.bool false)], []⟩ w) :
    (Code.region 1 (RegEnv.opsAt 1 Tryz.f94.body) true).wp Tryz.prog Q ⟨#[(.agg C), (.agg E), (.pointer (some ⟨B, 0, none⟩)), (.pointer (some ⟨B + 1, 0, none⟩)), (.bool false), x5, x6, x7, x8, x9, x10, x11, x12, x13, x14, x15, x16, x17, x18, x19, x20, x21, x22, x23, x24, x25, x26, x27, x28, x29, x30, x31, x32, x33, x34, x35, x36, x37, x38, x39, x40, x41, x42, x43, x44, x45, x46, x47, x48, x49, x50, x51, x52, x53], []⟩ W := by
  refine RegEnv.wp_in (ds := [5, 6, 7, 8, 9, 10, 11, 12, 13, 14, 15, 16, 17, 18, 19, 20, 21, 22, 23, 24, 25, 26, 27, 28, 29, 30, 31, 32, 33, 34, 35, 36, 37, 38, 39, 40, 41, 42, 43, 44, 45, 46, 47, 48, 49, 50, 51, 52, 53, 4]) (D := []) (by kernel_rfl) (by kernel_rfl) (by kernel_rfl) ?_ hS ?_ fin
  · exact (by repeat (first | exact trivial | refine ⟨.inr rfl, ?_⟩ | refine ⟨.inl rfl, ?_⟩))
  refine RegEnv.pu rfl rfl rfl rfl (fun w hS => sm_row rfl hC (hS1 w hS)) ?_
  refine RegEnv.ca rfl rfl rfl rfl (fun w => re_head_numbers rfl) N0p ?_
  refine RegEnv.pu rfl rfl rfl rfl (fun w hS => sm_row rfl hE (hS2 w hS)) ?_
  refine RegEnv.ca rfl rfl rfl rfl (fun w => re_head_numbers rfl) N0q ?_
  refine RegEnv.pu rfl rfl rfl rfl (fun w hS => sm_enums rfl rfl h0) ?_
  refine RegEnv.pu rfl rfl rfl rfl (fun w hS => rfl) ?_
  refine RegEnv.pu rfl rfl rfl rfl (fun w hS => sm_row rfl hC (hS1 w hS)) ?_
  refine RegEnv.ca rfl rfl rfl rfl (fun w => re_head_marks rfl) N1p ?_
  refine RegEnv.pu rfl rfl rfl rfl (fun w hS => sm_row rfl hE (hS2 w hS)) ?_
  refine RegEnv.ca rfl rfl rfl rfl (fun w => re_head_marks rfl) N1q ?_
  refine RegEnv.pu rfl rfl rfl rfl (fun w hS => sm_emarks rfl rfl h1) ?_
  iterate 39 (first | refine RegEnv.sk rfl rfl rfl rfl ?_ | refine RegEnv.pu rfl rfl rfl rfl (fun w hS => rfl) ?_)
  exact RegEnv.All.fin rfl
set_option maxRecDepth 100000 in
set_option maxHeartbeats 4000000 in
theorem same_way2 {Q : Exit → Act → World → Prop} {S : World → Prop} {W : World} {p q : Pk} {C E : Array Value} {B : Nat} {x5 x6 x7 x8 x9 x10 x11 x12 x13 x14 x15 x16 x17 x18 x19 x20 x21 x22 x23 x24 x25 x26 x27 x28 x29 x30 x31 x32 x33 x34 x35 x36 x37 x38 x39 x40 x41 x42 x43 x44 x45 x46 x47 x48 x49 x50 x51 x52 x53 : Value}
    (hS : S W.drew) (hC : C.size = 25) (hE : E.size = 25) (hS1 : ∀ w, S w → w.heap[B]? = some (.cells C 28 (0, 0))) (hS2 : ∀ w, S w → w.heap[B + 1]? = some (.cells E 28 (0, 0)))
    (N0p : ∀ w, S w → Calls Tryz.prog 145 #[.agg C] w fun e w' => e = .returned (.agg (numsA p)) ∧ S w')
    (N0q : ∀ w, S w → Calls Tryz.prog 145 #[.agg E] w fun e w' => e = .returned (.agg (numsA q)) ∧ S w')
    (h0 : decide (p.nums = q.nums) = true)
    (N1p : ∀ w, S w → Calls Tryz.prog 146 #[.agg C] w fun e w' => e = .returned (.agg (marksA p)) ∧ S w')
    (N1q : ∀ w, S w → Calls Tryz.prog 146 #[.agg E] w fun e w' => e = .returned (.agg (marksA q)) ∧ S w')
    (h1 : decide (p.marks = q.marks) = true)
    (N2p : ∀ w, S w → Calls Tryz.prog 147 #[.agg C] w fun e w' => e = .returned (.agg (textsA p)) ∧ S w')
    (N2q : ∀ w, S w → Calls Tryz.prog 147 #[.agg E] w fun e w' => e = .returned (.agg (textsA q)) ∧ S w')
    (h2 : decide (p.texts = q.texts) = false)
    (fin : ∀ w, S w → Q .normal ⟨#[(.agg C), (.agg E), (.pointer (some ⟨B, 0, none⟩)), (.pointer (some ⟨B + 1, 0, none⟩)), (.bool false), (.agg C), (.agg (numsA p)), (.agg E), (.agg (numsA q)), (.bool true), (.bool true), (.agg C), (.agg (marksA p)), (.agg E), (.agg (marksA q)), (.bool true), (.bool true), (.bool true), (.agg C), (.agg (textsA p)), (.agg E), (.agg (textsA q)), (.bool false), (.bool false), (.bool false), undef, undef, undef, undef, undef, (.bool false), (.bool false), undef, undef, undef, undef, undef, (.bool false), (.bool false), undef, undef, undef, undef, undef, (.bool false), (.bool false), undef, undef, undef, undef, undef, undef, undef, (.bool false)], []⟩ w) :
    (Code.region 1 (RegEnv.opsAt 1 Tryz.f94.body) true).wp Tryz.prog Q ⟨#[(.agg C), (.agg E), (.pointer (some ⟨B, 0, none⟩)), (.pointer (some ⟨B + 1, 0, none⟩)), (.bool false), x5, x6, x7, x8, x9, x10, x11, x12, x13, x14, x15, x16, x17, x18, x19, x20, x21, x22, x23, x24, x25, x26, x27, x28, x29, x30, x31, x32, x33, x34, x35, x36, x37, x38, x39, x40, x41, x42, x43, x44, x45, x46, x47, x48, x49, x50, x51, x52, x53], []⟩ W := by
  refine RegEnv.wp_in (ds := [5, 6, 7, 8, 9, 10, 11, 12, 13, 14, 15, 16, 17, 18, 19, 20, 21, 22, 23, 24, 25, 26, 27, 28, 29, 30, 31, 32, 33, 34, 35, 36, 37, 38, 39, 40, 41, 42, 43, 44, 45, 46, 47, 48, 49, 50, 51, 52, 53, 4]) (D := []) (by kernel_rfl) (by kernel_rfl) (by kernel_rfl) ?_ hS ?_ fin
  · exact (by repeat (first | exact trivial | refine ⟨.inr rfl, ?_⟩ | refine ⟨.inl rfl, ?_⟩))
  refine RegEnv.pu rfl rfl rfl rfl (fun w hS => sm_row rfl hC (hS1 w hS)) ?_
  refine RegEnv.ca rfl rfl rfl rfl (fun w => re_head_numbers rfl) N0p ?_
  refine RegEnv.pu rfl rfl rfl rfl (fun w hS => sm_row rfl hE (hS2 w hS)) ?_
  refine RegEnv.ca rfl rfl rfl rfl (fun w => re_head_numbers rfl) N0q ?_
  refine RegEnv.pu rfl rfl rfl rfl (fun w hS => sm_enums rfl rfl h0) ?_
  refine RegEnv.pu rfl rfl rfl rfl (fun w hS => rfl) ?_
  refine RegEnv.pu rfl rfl rfl rfl (fun w hS => sm_row rfl hC (hS1 w hS)) ?_
  refine RegEnv.ca rfl rfl rfl rfl (fun w => re_head_marks rfl) N1p ?_
  refine RegEnv.pu rfl rfl rfl rfl (fun w hS => sm_row rfl hE (hS2 w hS)) ?_
  refine RegEnv.ca rfl rfl rfl rfl (fun w => re_head_marks rfl) N1q ?_
  refine RegEnv.pu rfl rfl rfl rfl (fun w hS => sm_emarks rfl rfl h1) ?_
  refine RegEnv.pu rfl rfl rfl rfl (fun w hS => rfl) ?_
  refine RegEnv.pu rfl rfl rfl rfl (fun w hS => rfl) ?_
  refine RegEnv.pu rfl rfl rfl rfl (fun w hS => sm_row rfl hC (hS1 w hS)) ?_
  refine RegEnv.ca rfl rfl rfl rfl (fun w => re_head_texts rfl) N2p ?_
  refine RegEnv.pu rfl rfl rfl rfl (fun w hS => sm_row rfl hE (hS2 w hS)) ?_
  refine RegEnv.ca rfl rfl rfl rfl (fun w => re_head_texts rfl) N2q ?_
  refine RegEnv.pu rfl rfl rfl rfl (fun w hS => sm_etexts rfl rfl h2) ?_
  iterate 32 (first | refine RegEnv.sk rfl rfl rfl rfl ?_ | refine RegEnv.pu rfl rfl rfl rfl (fun w hS => rfl) ?_)
  exact RegEnv.All.fin rfl
set_option maxRecDepth 100000 in
set_option maxHeartbeats 4000000 in
theorem same_way3 {Q : Exit → Act → World → Prop} {S : World → Prop} {W : World} {p q : Pk} {a b : Ad} {C E : Array Value} {B : Nat} {x5 x6 x7 x8 x9 x10 x11 x12 x13 x14 x15 x16 x17 x18 x19 x20 x21 x22 x23 x24 x25 x26 x27 x28 x29 x30 x31 x32 x33 x34 x35 x36 x37 x38 x39 x40 x41 x42 x43 x44 x45 x46 x47 x48 x49 x50 x51 x52 x53 : Value}
    (hS : S W.drew) (hC : C.size = 25) (hE : E.size = 25) (hS1 : ∀ w, S w → w.heap[B]? = some (.cells C 28 (0, 0))) (hS2 : ∀ w, S w → w.heap[B + 1]? = some (.cells E 28 (0, 0)))
    (N0p : ∀ w, S w → Calls Tryz.prog 145 #[.agg C] w fun e w' => e = .returned (.agg (numsA p)) ∧ S w')
    (N0q : ∀ w, S w → Calls Tryz.prog 145 #[.agg E] w fun e w' => e = .returned (.agg (numsA q)) ∧ S w')
    (h0 : decide (p.nums = q.nums) = true)
    (N1p : ∀ w, S w → Calls Tryz.prog 146 #[.agg C] w fun e w' => e = .returned (.agg (marksA p)) ∧ S w')
    (N1q : ∀ w, S w → Calls Tryz.prog 146 #[.agg E] w fun e w' => e = .returned (.agg (marksA q)) ∧ S w')
    (h1 : decide (p.marks = q.marks) = true)
    (N2p : ∀ w, S w → Calls Tryz.prog 147 #[.agg C] w fun e w' => e = .returned (.agg (textsA p)) ∧ S w')
    (N2q : ∀ w, S w → Calls Tryz.prog 147 #[.agg E] w fun e w' => e = .returned (.agg (textsA q)) ∧ S w')
    (h2 : decide (p.texts = q.texts) = true)
    (hp22 : ∀ w, S w → w.cell? ⟨B, 22, none⟩ = some (.slice a.cs p.codes.length a.cc))
    (hq22 : ∀ w, S w → w.cell? ⟨B + 1, 22, none⟩ = some (.slice b.cs q.codes.length b.cc))
    (F3 : ∀ w, S w → Calls Tryz.prog 148 #[(.slice a.cs p.codes.length a.cc), (.slice b.cs q.codes.length b.cc), .func (.func 149) #[] #[]] w fun e w' => e = .returned (.bool false) ∧ S w')
    (fin : ∀ w, S w → Q .normal ⟨#[(.agg C), (.agg E), (.pointer (some ⟨B, 0, none⟩)), (.pointer (some ⟨B + 1, 0, none⟩)), (.bool false), (.agg C), (.agg (numsA p)), (.agg E), (.agg (numsA q)), (.bool true), (.bool true), (.agg C), (.agg (marksA p)), (.agg E), (.agg (marksA q)), (.bool true), (.bool true), (.bool true), (.agg C), (.agg (textsA p)), (.agg E), (.agg (textsA q)), (.bool true), (.bool true), (.bool true), (.pointer (some ⟨B, 22, none⟩)), (.slice a.cs p.codes.length a.cc), (.pointer (some ⟨B + 1, 22, none⟩)), (.slice b.cs q.codes.length b.cc), (.bool false), (.bool false), (.bool false), undef, undef, undef, undef, undef, (.bool false), (.bool false), undef, undef, undef, undef, undef, (.bool false), (.bool false), undef, undef, undef, undef, undef, undef, undef, (.bool false)], []⟩ w) :
    (Code.region 1 (RegEnv.opsAt 1 Tryz.f94.body) true).wp Tryz.prog Q ⟨#[(.agg C), (.agg E), (.pointer (some ⟨B, 0, none⟩)), (.pointer (some ⟨B + 1, 0, none⟩)), (.bool false), x5, x6, x7, x8, x9, x10, x11, x12, x13, x14, x15, x16, x17, x18, x19, x20, x21, x22, x23, x24, x25, x26, x27, x28, x29, x30, x31, x32, x33, x34, x35, x36, x37, x38, x39, x40, x41, x42, x43, x44, x45, x46, x47, x48, x49, x50, x51, x52, x53], []⟩ W := by
  refine RegEnv.wp_in (ds := [5, 6, 7, 8, 9, 10, 11, 12, 13, 14, 15, 16, 17, 18, 19, 20, 21, 22, 23, 24, 25, 26, 27, 28, 29, 30, 31, 32, 33, 34, 35, 36, 37, 38, 39, 40, 41, 42, 43, 44, 45, 46, 47, 48, 49, 50, 51, 52, 53, 4]) (D := []) (by kernel_rfl) (by kernel_rfl) (by kernel_rfl) ?_ hS ?_ fin
  · exact (by repeat (first | exact trivial | refine ⟨.inr rfl, ?_⟩ | refine ⟨.inl rfl, ?_⟩))
  refine RegEnv.pu rfl rfl rfl rfl (fun w hS => sm_row rfl hC (hS1 w hS)) ?_
  refine RegEnv.ca rfl rfl rfl rfl (fun w => re_head_numbers rfl) N0p ?_
  refine RegEnv.pu rfl rfl rfl rfl (fun w hS => sm_row rfl hE (hS2 w hS)) ?_
  refine RegEnv.ca rfl rfl rfl rfl (fun w => re_head_numbers rfl) N0q ?_
  refine RegEnv.pu rfl rfl rfl rfl (fun w hS => sm_enums rfl rfl h0) ?_
  refine RegEnv.pu rfl rfl rfl rfl (fun w hS => rfl) ?_
  refine RegEnv.pu rfl rfl rfl rfl (fun w hS => sm_row rfl hC (hS1 w hS)) ?_
  refine RegEnv.ca rfl rfl rfl rfl (fun w => re_head_marks rfl) N1p ?_
  refine RegEnv.pu rfl rfl rfl rfl (fun w hS => sm_row rfl hE (hS2 w hS)) ?_
  refine RegEnv.ca rfl rfl rfl rfl (fun w => re_head_marks rfl) N1q ?_
  refine RegEnv.pu rfl rfl rfl rfl (fun w hS => sm_emarks rfl rfl h1) ?_
  refine RegEnv.pu rfl rfl rfl rfl (fun w hS => rfl) ?_
  refine RegEnv.pu rfl rfl rfl rfl (fun w hS => rfl) ?_
  refine RegEnv.pu rfl rfl rfl rfl (fun w hS => sm_row rfl hC (hS1 w hS)) ?_
  refine RegEnv.ca rfl rfl rfl rfl (fun w => re_head_texts rfl) N2p ?_
  refine RegEnv.pu rfl rfl rfl rfl (fun w hS => sm_row rfl hE (hS2 w hS)) ?_
  refine RegEnv.ca rfl rfl rfl rfl (fun w => re_head_texts rfl) N2q ?_
  refine RegEnv.pu rfl rfl rfl rfl (fun w hS => sm_etexts rfl rfl h2) ?_
  refine RegEnv.pu rfl rfl rfl rfl (fun w hS => rfl) ?_
  refine RegEnv.pu rfl rfl rfl rfl (fun w hS => rfl) ?_
  refine RegEnv.pu rfl rfl rfl rfl (fun w hS => sm_a18 rfl) ?_
  refine RegEnv.pu rfl rfl rfl rfl (fun w hS => sm_li rfl (hp22 w hS)) ?_
  refine RegEnv.pu rfl rfl rfl rfl (fun w hS => sm_a18 rfl) ?_
  refine RegEnv.pu rfl rfl rfl rfl (fun w hS => sm_li rfl (hq22 w hS)) ?_
  refine RegEnv.ca rfl rfl rfl rfl (fun w => sm_fint rfl rfl) F3 ?_
  iterate 25 (first | refine RegEnv.sk rfl rfl rfl rfl ?_ | refine RegEnv.pu rfl rfl rfl rfl (fun w hS => rfl) ?_)
  exact RegEnv.All.fin rfl
set_option maxRecDepth 100000 in
set_option maxHeartbeats 4000000 in
theorem same_way4 {Q : Exit → Act → World → Prop} {S : World → Prop} {W : World} {p q : Pk} {a b : Ad} {C E : Array Value} {B : Nat} {x5 x6 x7 x8 x9 x10 x11 x12 x13 x14 x15 x16 x17 x18 x19 x20 x21 x22 x23 x24 x25 x26 x27 x28 x29 x30 x31 x32 x33 x34 x35 x36 x37 x38 x39 x40 x41 x42 x43 x44 x45 x46 x47 x48 x49 x50 x51 x52 x53 : Value}
    (hS : S W.drew) (hC : C.size = 25) (hE : E.size = 25) (hS1 : ∀ w, S w → w.heap[B]? = some (.cells C 28 (0, 0))) (hS2 : ∀ w, S w → w.heap[B + 1]? = some (.cells E 28 (0, 0)))
    (N0p : ∀ w, S w → Calls Tryz.prog 145 #[.agg C] w fun e w' => e = .returned (.agg (numsA p)) ∧ S w')
    (N0q : ∀ w, S w → Calls Tryz.prog 145 #[.agg E] w fun e w' => e = .returned (.agg (numsA q)) ∧ S w')
    (h0 : decide (p.nums = q.nums) = true)
    (N1p : ∀ w, S w → Calls Tryz.prog 146 #[.agg C] w fun e w' => e = .returned (.agg (marksA p)) ∧ S w')
    (N1q : ∀ w, S w → Calls Tryz.prog 146 #[.agg E] w fun e w' => e = .returned (.agg (marksA q)) ∧ S w')
    (h1 : decide (p.marks = q.marks) = true)
    (N2p : ∀ w, S w → Calls Tryz.prog 147 #[.agg C] w fun e w' => e = .returned (.agg (textsA p)) ∧ S w')
    (N2q : ∀ w, S w → Calls Tryz.prog 147 #[.agg E] w fun e w' => e = .returned (.agg (textsA q)) ∧ S w')
    (h2 : decide (p.texts = q.texts) = true)
    (hp22 : ∀ w, S w → w.cell? ⟨B, 22, none⟩ = some (.slice a.cs p.codes.length a.cc))
    (hq22 : ∀ w, S w → w.cell? ⟨B + 1, 22, none⟩ = some (.slice b.cs q.codes.length b.cc))
    (F3 : ∀ w, S w → Calls Tryz.prog 148 #[(.slice a.cs p.codes.length a.cc), (.slice b.cs q.codes.length b.cc), .func (.func 149) #[] #[]] w fun e w' => e = .returned (.bool true) ∧ S w')
    (hp23 : ∀ w, S w → w.cell? ⟨B, 23, none⟩ = some (.slice a.fs p.filters.length a.fc))
    (hq23 : ∀ w, S w → w.cell? ⟨B + 1, 23, none⟩ = some (.slice b.fs q.filters.length b.fc))
    (F4 : ∀ w, S w → Calls Tryz.prog 150 #[(.slice a.fs p.filters.length a.fc), (.slice b.fs q.filters.length b.fc), .func (.func 151) #[] #[]] w fun e w' => e = .returned (.bool false) ∧ S w')
    (fin : ∀ w, S w → Q .normal ⟨#[(.agg C), (.agg E), (.pointer (some ⟨B, 0, none⟩)), (.pointer (some ⟨B + 1, 0, none⟩)), (.bool false), (.agg C), (.agg (numsA p)), (.agg E), (.agg (numsA q)), (.bool true), (.bool true), (.agg C), (.agg (marksA p)), (.agg E), (.agg (marksA q)), (.bool true), (.bool true), (.bool true), (.agg C), (.agg (textsA p)), (.agg E), (.agg (textsA q)), (.bool true), (.bool true), (.bool true), (.pointer (some ⟨B, 22, none⟩)), (.slice a.cs p.codes.length a.cc), (.pointer (some ⟨B + 1, 22, none⟩)), (.slice b.cs q.codes.length b.cc), (.bool true), (.bool true), (.bool true), (.pointer (some ⟨B, 23, none⟩)), (.slice a.fs p.filters.length a.fc), (.pointer (some ⟨B + 1, 23, none⟩)), (.slice b.fs q.filters.length b.fc), (.bool false), (.bool false), (.bool false), undef, undef, undef, undef, undef, (.bool false), (.bool false), undef, undef, undef, undef, undef, undef, undef, (.bool false)], []⟩ w) :
    (Code.region 1 (RegEnv.opsAt 1 Tryz.f94.body) true).wp Tryz.prog Q ⟨#[(.agg C), (.agg E), (.pointer (some ⟨B, 0, none⟩)), (.pointer (some ⟨B + 1, 0, none⟩)), (.bool false), x5, x6, x7, x8, x9, x10, x11, x12, x13, x14, x15, x16, x17, x18, x19, x20, x21, x22, x23, x24, x25, x26, x27, x28, x29, x30, x31, x32, x33, x34, x35, x36, x37, x38, x39, x40, x41, x42, x43, x44, x45, x46, x47, x48, x49, x50, x51, x52, x53], []⟩ W := by
  refine RegEnv.wp_in (ds := [5, 6, 7, 8, 9, 10, 11, 12, 13, 14, 15, 16, 17, 18, 19, 20, 21, 22, 23, 24, 25, 26, 27, 28, 29, 30, 31, 32, 33, 34, 35, 36, 37, 38, 39, 40, 41, 42, 43, 44, 45, 46, 47, 48, 49, 50, 51, 52, 53, 4]) (D := []) (by kernel_rfl) (by kernel_rfl) (by kernel_rfl) ?_ hS ?_ fin
  · exact (by repeat (first | exact trivial | refine ⟨.inr rfl, ?_⟩ | refine ⟨.inl rfl, ?_⟩))
  refine RegEnv.pu rfl rfl rfl rfl (fun w hS => sm_row rfl hC (hS1 w hS)) ?_
  refine RegEnv.ca rfl rfl rfl rfl (fun w => re_head_numbers rfl) N0p ?_
  refine RegEnv.pu rfl rfl rfl rfl (fun w hS => sm_row rfl hE (hS2 w hS)) ?_
  refine RegEnv.ca rfl rfl rfl rfl (fun w => re_head_numbers rfl) N0q ?_
  refine RegEnv.pu rfl rfl rfl rfl (fun w hS => sm_enums rfl rfl h0) ?_
  refine RegEnv.pu rfl rfl rfl rfl (fun w hS => rfl) ?_
  refine RegEnv.pu rfl rfl rfl rfl (fun w hS => sm_row rfl hC (hS1 w hS)) ?_
  refine RegEnv.ca rfl rfl rfl rfl (fun w => re_head_marks rfl) N1p ?_
  refine RegEnv.pu rfl rfl rfl rfl (fun w hS => sm_row rfl hE (hS2 w hS)) ?_
  refine RegEnv.ca rfl rfl rfl rfl (fun w => re_head_marks rfl) N1q ?_
  refine RegEnv.pu rfl rfl rfl rfl (fun w hS => sm_emarks rfl rfl h1) ?_
  refine RegEnv.pu rfl rfl rfl rfl (fun w hS => rfl) ?_
  refine RegEnv.pu rfl rfl rfl rfl (fun w hS => rfl) ?_
  refine RegEnv.pu rfl rfl rfl rfl (fun w hS => sm_row rfl hC (hS1 w hS)) ?_
  refine RegEnv.ca rfl rfl rfl rfl (fun w => re_head_texts rfl) N2p ?_
  refine RegEnv.pu rfl rfl rfl rfl (fun w hS => sm_row rfl hE (hS2 w hS)) ?_
  refine RegEnv.ca rfl rfl rfl rfl (fun w => re_head_texts rfl) N2q ?_
  refine RegEnv.pu rfl rfl rfl rfl (fun w hS => sm_etexts rfl rfl h2) ?_
  refine RegEnv.pu rfl rfl rfl rfl (fun w hS => rfl) ?_
  refine RegEnv.pu rfl rfl rfl rfl (fun w hS => rfl) ?_
  refine RegEnv.pu rfl rfl rfl rfl (fun w hS => sm_a18 rfl) ?_
  refine RegEnv.pu rfl rfl rfl rfl (fun w hS => sm_li rfl (hp22 w hS)) ?_
  refine RegEnv.pu rfl rfl rfl rfl (fun w hS => sm_a18 rfl) ?_
  refine RegEnv.pu rfl rfl rfl rfl (fun w hS => sm_li rfl (hq22 w hS)) ?_
  refine RegEnv.ca rfl rfl rfl rfl (fun w => sm_fint rfl rfl) F3 ?_
  refine RegEnv.pu rfl rfl rfl rfl (fun w hS => rfl) ?_
  refine RegEnv.pu rfl rfl rfl rfl (fun w hS => rfl) ?_
  refine RegEnv.pu rfl rfl rfl rfl (fun w hS => sm_a19 rfl) ?_
  refine RegEnv.pu rfl rfl rfl rfl (fun w hS => sm_lf rfl (hp23 w hS)) ?_
  refine RegEnv.pu rfl rfl rfl rfl (fun w hS => sm_a19 rfl) ?_
  refine RegEnv.pu rfl rfl rfl rfl (fun w hS => sm_lf rfl (hq23 w hS)) ?_
  refine RegEnv.ca rfl rfl rfl rfl (fun w => sm_ffi rfl rfl) F4 ?_
  iterate 18 (first | refine RegEnv.sk rfl rfl rfl rfl ?_ | refine RegEnv.pu rfl rfl rfl rfl (fun w hS => rfl) ?_)
  exact RegEnv.All.fin rfl
set_option maxRecDepth 100000 in
set_option maxHeartbeats 4000000 in
theorem same_way5 {Q : Exit → Act → World → Prop} {S : World → Prop} {W : World} {p q : Pk} {a b : Ad} {C E : Array Value} {B : Nat} {x5 x6 x7 x8 x9 x10 x11 x12 x13 x14 x15 x16 x17 x18 x19 x20 x21 x22 x23 x24 x25 x26 x27 x28 x29 x30 x31 x32 x33 x34 x35 x36 x37 x38 x39 x40 x41 x42 x43 x44 x45 x46 x47 x48 x49 x50 x51 x52 x53 : Value}
    (hS : S W.drew) (hC : C.size = 25) (hE : E.size = 25) (hS1 : ∀ w, S w → w.heap[B]? = some (.cells C 28 (0, 0))) (hS2 : ∀ w, S w → w.heap[B + 1]? = some (.cells E 28 (0, 0)))
    (N0p : ∀ w, S w → Calls Tryz.prog 145 #[.agg C] w fun e w' => e = .returned (.agg (numsA p)) ∧ S w')
    (N0q : ∀ w, S w → Calls Tryz.prog 145 #[.agg E] w fun e w' => e = .returned (.agg (numsA q)) ∧ S w')
    (h0 : decide (p.nums = q.nums) = true)
    (N1p : ∀ w, S w → Calls Tryz.prog 146 #[.agg C] w fun e w' => e = .returned (.agg (marksA p)) ∧ S w')
    (N1q : ∀ w, S w → Calls Tryz.prog 146 #[.agg E] w fun e w' => e = .returned (.agg (marksA q)) ∧ S w')
    (h1 : decide (p.marks = q.marks) = true)
    (N2p : ∀ w, S w → Calls Tryz.prog 147 #[.agg C] w fun e w' => e = .returned (.agg (textsA p)) ∧ S w')
    (N2q : ∀ w, S w → Calls Tryz.prog 147 #[.agg E] w fun e w' => e = .returned (.agg (textsA q)) ∧ S w')
    (h2 : decide (p.texts = q.texts) = true)
    (hp22 : ∀ w, S w → w.cell? ⟨B, 22, none⟩ = some (.slice a.cs p.codes.length a.cc))
    (hq22 : ∀ w, S w → w.cell? ⟨B + 1, 22, none⟩ = some (.slice b.cs q.codes.length b.cc))
    (F3 : ∀ w, S w → Calls Tryz.prog 148 #[(.slice a.cs p.codes.length a.cc), (.slice b.cs q.codes.length b.cc), .func (.func 149) #[] #[]] w fun e w' => e = .returned (.bool true) ∧ S w')
    (hp23 : ∀ w, S w → w.cell? ⟨B, 23, none⟩ = some (.slice a.fs p.filters.length a.fc))
    (hq23 : ∀ w, S w → w.cell? ⟨B + 1, 23, none⟩ = some (.slice b.fs q.filters.length b.fc))
    (F4 : ∀ w, S w → Calls Tryz.prog 150 #[(.slice a.fs p.filters.length a.fc), (.slice b.fs q.filters.length b.fc), .func (.func 151) #[] #[]] w fun e w' => e = .returned (.bool true) ∧ S w')
    (hp24 : ∀ w, S w → w.cell? ⟨B, 24, none⟩ = some (.slice a.ps p.props.length a.pc))
    (hq24 : ∀ w, S w → w.cell? ⟨B + 1, 24, none⟩ = some (.slice b.ps q.props.length b.pc))
    (F5 : ∀ w, S w → Calls Tryz.prog 152 #[(.slice a.ps p.props.length a.pc), (.slice b.ps q.props.length b.pc), .func (.func 153) #[] #[]] w fun e w' => e = .returned (.bool false) ∧ S w')
    (fin : ∀ w, S w → Q .normal ⟨#[(.agg C), (.agg E), (.pointer (some ⟨B, 0, none⟩)), (.pointer (some ⟨B + 1, 0, none⟩)), (.bool false), (.agg C), (.agg (numsA p)), (.agg E), (.agg (numsA q)), (.bool true), (.bool true), (.agg C), (.agg (marksA p)), (.agg E), (.agg (marksA q)), (.bool true), (.bool true), (.bool true), (.agg C), (.agg (textsA p)), (.agg E), (.agg (textsA q)), (.bool true), (.bool true), (.bool true), (.pointer (some ⟨B, 22, none⟩)), (.slice a.cs p.codes.length a.cc), (.pointer (some ⟨B + 1, 22, none⟩)), (.slice b.cs q.codes.length b.cc), (.bool true), (.bool true), (.bool true), (.pointer (some ⟨B, 23, none⟩)), (.slice a.fs p.filters.length a.fc), (.pointer (some ⟨B + 1, 23, none⟩)), (.slice b.fs q.filters.length b.fc), (.bool true), (.bool true), (.bool true), (.pointer (some ⟨B, 24, none⟩)), (.slice a.ps p.props.length a.pc), (.pointer (some ⟨B + 1, 24, none⟩)), (.slice b.ps q.props.length b.pc), (.bool false), (.bool false), (.bool false), undef, undef, undef, undef, undef, undef, undef, (.bool false)], []⟩ w) :
    (Code.region 1 (RegEnv.opsAt 1 Tryz.f94.body) true).wp Tryz.prog Q ⟨#[(.agg C), (.agg E), (.pointer (some ⟨B, 0, none⟩)), (.pointer (some ⟨B + 1, 0, none⟩)), (.bool false), x5, x6, x7, x8, x9, x10, x11, x12, x13, x14, x15, x16, x17, x18, x19, x20, x21, x22, x23, x24, x25, x26, x27, x28, x29, x30, x31, x32, x33, x34, x35, x36, x37, x38, x39, x40, x41, x42, x43, x44, x45, x46, x47, x48, x49, x50, x51, x52, x53], []⟩ W := by
  refine RegEnv.wp_in (ds := [5, 6, 7, 8, 9, 10, 11, 12, 13, 14, 15, 16, 17, 18, 19, 20, 21, 22, 23, 24, 25, 26, 27, 28, 29, 30, 31, 32, 33, 34, 35, 36, 37, 38, 39, 40, 41, 42, 43, 44, 45, 46, 47, 48, 49, 50, 51, 52, 53, 4]) (D := []) (by kernel_rfl) (by kernel_rfl) (by kernel_rfl) ?_ hS ?_ fin
  · exact (by repeat (first | exact trivial | refine ⟨.inr rfl, ?_⟩ | refine ⟨.inl rfl, ?_⟩))
  refine RegEnv.pu rfl rfl rfl rfl (fun w hS => sm_row rfl hC (hS1 w hS)) ?_
  refine RegEnv.ca rfl rfl rfl rfl (fun w => re_head_numbers rfl) N0p ?_
  refine RegEnv.pu rfl rfl rfl rfl (fun w hS => sm_row rfl hE (hS2 w hS)) ?_
  refine RegEnv.ca rfl rfl rfl rfl (fun w => re_head_numbers rfl) N0q ?_
  refine RegEnv.pu rfl rfl rfl rfl (fun w hS => sm_enums rfl rfl h0) ?_
  refine RegEnv.pu rfl rfl rfl rfl (fun w hS => rfl) ?_
  refine RegEnv.pu rfl rfl rfl rfl (fun w hS => sm_row rfl hC (hS1 w hS)) ?_
  refine RegEnv.ca rfl rfl rfl rfl (fun w => re_head_marks rfl) N1p ?_
  refine RegEnv.pu rfl rfl rfl rfl (fun w hS => sm_row rfl hE (hS2 w hS)) ?_
  refine RegEnv.ca rfl rfl rfl rfl (fun w => re_head_marks rfl) N1q ?_
  refine RegEnv.pu rfl rfl rfl rfl (fun w hS => sm_emarks rfl rfl h1) ?_
  refine RegEnv.pu rfl rfl rfl rfl (fun w hS => rfl) ?_
  refine RegEnv.pu rfl rfl rfl rfl (fun w hS => rfl) ?_
  refine RegEnv.pu rfl rfl rfl rfl (fun w hS => sm_row rfl hC (hS1 w hS)) ?_
  refine RegEnv.ca rfl rfl rfl rfl (fun w => re_head_texts rfl) N2p ?_
  refine RegEnv.pu rfl rfl rfl rfl (fun w hS => sm_row rfl hE (hS2 w hS)) ?_
  refine RegEnv.ca rfl rfl rfl rfl (fun w => re_head_texts rfl) N2q ?_
  refine RegEnv.pu rfl rfl rfl rfl (fun w hS => sm_etexts rfl rfl h2) ?_
  refine RegEnv.pu rfl rfl rfl rfl (fun w hS => rfl) ?_
  refine RegEnv.pu rfl rfl rfl rfl (fun w hS => rfl) ?_
  refine RegEnv.pu rfl rfl rfl rfl (fun w hS => sm_a18 rfl) ?_
  refine RegEnv.pu rfl rfl rfl rfl (fun w hS => sm_li rfl (hp22 w hS)) ?_
  refine RegEnv.pu rfl rfl rfl rfl (fun w hS => sm_a18 rfl) ?_
  refine RegEnv.pu rfl rfl rfl rfl (fun w hS => sm_li rfl (hq22 w hS)) ?_
  refine RegEnv.ca rfl rfl rfl rfl (fun w => sm_fint rfl rfl) F3 ?_
  refine RegEnv.pu rfl rfl rfl rfl (fun w hS => rfl) ?_
  refine RegEnv.pu rfl rfl rfl rfl (fun w hS => rfl) ?_
  refine RegEnv.pu rfl rfl rfl rfl (fun w hS => sm_a19 rfl) ?_
  refine RegEnv.pu rfl rfl rfl rfl (fun w hS => sm_lf rfl (hp23 w hS)) ?_
  refine RegEnv.pu rfl rfl rfl rfl (fun w hS => sm_a19 rfl) ?_
  refine RegEnv.pu rfl rfl rfl rfl (fun w hS => sm_lf rfl (hq23 w hS)) ?_
  refine RegEnv.ca rfl rfl rfl rfl (fun w => sm_ffi rfl rfl) F4 ?_
  refine RegEnv.pu rfl rfl rfl rfl (fun w hS => rfl) ?_
  refine RegEnv.pu rfl rfl rfl rfl (fun w hS => rfl) ?_
  refine RegEnv.pu rfl rfl rfl rfl (fun w hS => sm_a20 rfl) ?_
  refine RegEnv.pu rfl rfl rfl rfl (fun w hS => sm_lp rfl (hp24 w hS)) ?_
  refine RegEnv.pu rfl rfl rfl rfl (fun w hS => sm_a20 rfl) ?_
  refine RegEnv.pu rfl rfl rfl rfl (fun w hS => sm_lp rfl (hq24 w hS)) ?_
  refine RegEnv.ca rfl rfl rfl rfl (fun w => sm_fprop rfl rfl) F5 ?_
  iterate 11 (first | refine RegEnv.sk rfl rfl rfl rfl ?_ | refine RegEnv.pu rfl rfl rfl rfl (fun w hS => rfl) ?_)
  exact RegEnv.All.fin rfl
set_option maxRecDepth 100000 in
set_option maxHeartbeats 4000000 in
theorem same_way6 {Q : Exit → Act → World → Prop} {S : World → Prop} {W : World} {p q : Pk} {a b : Ad} {C E : Array Value} {B : Nat} {x5 x6 x7 x8 x9 x10 x11 x12 x13 x14 x15 x16 x17 x18 x19 x20 x21 x22 x23 x24 x25 x26 x27 x28 x29 x30 x31 x32 x33 x34 x35 x36 x37 x38 x39 x40 x41 x42 x43 x44 x45 x46 x47 x48 x49 x50 x51 x52 x53 : Value}
    (hS : S W.drew) (hC : C.size = 25) (hE : E.size = 25) (hS1 : ∀ w, S w → w.heap[B]? = some (.cells C 28 (0, 0))) (hS2 : ∀ w, S w → w.heap[B + 1]? = some (.cells E 28 (0, 0)))
    (N0p : ∀ w, S w → Calls Tryz.prog 145 #[.agg C] w fun e w' => e = .returned (.agg (numsA p)) ∧ S w')
    (N0q : ∀ w, S w → Calls Tryz.prog 145 #[.agg E] w fun e w' => e = .returned (.agg (numsA q)) ∧ S w')
    (h0 : decide (p.nums = q.nums) = true)
    (N1p : ∀ w, S w → Calls Tryz.prog 146 #[.agg C] w fun e w' => e = .returned (.agg (marksA p)) ∧ S w')
    (N1q : ∀ w, S w → Calls Tryz.prog 146 #[.agg E] w fun e w' => e = .returned (.agg (marksA q)) ∧ S w')
    (h1 : decide (p.marks = q.marks) = true)
    (N2p : ∀ w, S w → Calls Tryz.prog 147 #[.agg C] w fun e w' => e = .returned (.agg (textsA p)) ∧ S w')
    (N2q : ∀ w, S w → Calls Tryz.prog 147 #[.agg E] w fun e w' => e = .returned (.agg (textsA q)) ∧ S w')
    (h2 : decide (p.texts = q.texts) = true)
    (hp22 : ∀ w, S w → w.cell? ⟨B, 22, none⟩ = some (.slice a.cs p.codes.length a.cc))
    (hq22 : ∀ w, S w → w.cell? ⟨B + 1, 22, none⟩ = some (.slice b.cs q.codes.length b.cc))
    (F3 : ∀ w, S w → Calls Tryz.prog 148 #[(.slice a.cs p.codes.length a.cc), (.slice b.cs q.codes.length b.cc), .func (.func 149) #[] #[]] w fun e w' => e = .returned (.bool true) ∧ S w')
    (hp23 : ∀ w, S w → w.cell? ⟨B, 23, none⟩ = some (.slice a.fs p.filters.length a.fc))
    (hq23 : ∀ w, S w → w.cell? ⟨B + 1, 23, none⟩ = some (.slice b.fs q.filters.length b.fc))
    (F4 : ∀ w, S w → Calls Tryz.prog 150 #[(.slice a.fs p.filters.length a.fc), (.slice b.fs q.filters.length b.fc), .func (.func 151) #[] #[]] w fun e w' => e = .returned (.bool true) ∧ S w')
    (hp24 : ∀ w, S w → w.cell? ⟨B, 24, none⟩ = some (.slice a.ps p.props.length a.pc))
    (hq24 : ∀ w, S w → w.cell? ⟨B + 1, 24, none⟩ = some (.slice b.ps q.props.length b.pc))
    (F5 : ∀ w, S w → Calls Tryz.prog 152 #[(.slice a.ps p.props.length a.pc), (.slice b.ps q.props.length b.pc), .func (.func 153) #[] #[]] w fun e w' => e = .returned (.bool true) ∧ S w')
    (hp19 : ∀ w, S w → w.cell? ⟨B, 19, none⟩ = some (.slice a.w p.wProps.length a.wc))
    (hq19 : ∀ w, S w → w.cell? ⟨B + 1, 19, none⟩ = some (.slice b.w q.wProps.length b.wc))
    (F6 : ∀ w, S w → Calls Tryz.prog 152 #[(.slice a.w p.wProps.length a.wc), (.slice b.w q.wProps.length b.wc), .func (.func 153) #[] #[]] w fun e w' => e = .returned (.bool false) ∧ S w')
    (fin : ∀ w, S w → Q .normal ⟨#[(.agg C), (.agg E), (.pointer (some ⟨B, 0, none⟩)), (.pointer (some ⟨B + 1, 0, none⟩)), (.bool false), (.agg C), (.agg (numsA p)), (.agg E), (.agg (numsA q)), (.bool true), (.bool true), (.agg C), (.agg (marksA p)), (.agg E), (.agg (marksA q)), (.bool true), (.bool true), (.bool true), (.agg C), (.agg (textsA p)), (.agg E), (.agg (textsA q)), (.bool true), (.bool true), (.bool true), (.pointer (some ⟨B, 22, none⟩)), (.slice a.cs p.codes.length a.cc), (.pointer (some ⟨B + 1, 22, none⟩)), (.slice b.cs q.codes.length b.cc), (.bool true), (.bool true), (.bool true), (.pointer (some ⟨B, 23, none⟩)), (.slice a.fs p.filters.length a.fc), (.pointer (some ⟨B + 1, 23, none⟩)), (.slice b.fs q.filters.length b.fc), (.bool true), (.bool true), (.bool true), (.pointer (some ⟨B, 24, none⟩)), (.slice a.ps p.props.length a.pc), (.pointer (some ⟨B + 1, 24, none⟩)), (.slice b.ps q.props.length b.pc), (.bool true), (.bool true), (.bool true), (.pointer (some ⟨B, 15, none⟩)), (.pointer (some ⟨B, 19, none⟩)), (.slice a.w p.wProps.length a.wc), (.pointer (some ⟨B + 1, 15, none⟩)), (.pointer (some ⟨B + 1, 19, none⟩)), (.slice b.w q.wProps.length b.wc), (.bool false), (.bool false)], []⟩ w) :
    (Code.region 1 (RegEnv.opsAt 1 Tryz.f94.body) true).wp Tryz.prog Q ⟨#[(.agg C), (.agg E), (.pointer (some ⟨B, 0, none⟩)), (.pointer (some ⟨B + 1, 0, none⟩)), (.bool false), x5, x6, x7, x8, x9, x10, x11, x12, x13, x14, x15, x16, x17, x18, x19, x20, x21, x22, x23, x24, x25, x26, x27, x28, x29, x30, x31, x32, x33, x34, x35, x36, x37, x38, x39, x40, x41, x42, x43, x44, x45, x46, x47, x48, x49, x50, x51, x52, x53], []⟩ W := by
  refine RegEnv.wp_in (ds := [5, 6, 7, 8, 9, 10, 11, 12, 13, 14, 15, 16, 17, 18, 19, 20, 21, 22, 23, 24, 25, 26, 27, 28, 29, 30, 31, 32, 33, 34, 35, 36, 37, 38, 39, 40, 41, 42, 43, 44, 45, 46, 47, 48, 49, 50, 51, 52, 53, 4]) (D := []) (by kernel_rfl) (by kernel_rfl) (by kernel_rfl) ?_ hS ?_ fin
  · exact (by repeat (first | exact trivial | refine ⟨.inr rfl, ?_⟩ | refine ⟨.inl rfl, ?_⟩))
  refine RegEnv.pu rfl rfl rfl rfl (fun w hS => sm_row rfl hC (hS1 w hS)) ?_
  refine RegEnv.ca rfl rfl rfl rfl (fun w => re_head_numbers rfl) N0p ?_
  refine RegEnv.pu rfl rfl rfl rfl (fun w hS => sm_row rfl hE (hS2 w hS)) ?_
  refine RegEnv.ca rfl rfl rfl rfl (fun w => re_head_numbers rfl) N0q ?_
  refine RegEnv.pu rfl rfl rfl rfl (fun w hS => sm_enums rfl rfl h0) ?_
  refine RegEnv.pu rfl rfl rfl rfl (fun w hS => rfl) ?_
  refine RegEnv.pu rfl rfl rfl rfl (fun w hS => sm_row rfl hC (hS1 w hS)) ?_
  refine RegEnv.ca rfl rfl rfl rfl (fun w => re_head_marks rfl) N1p ?_
  refine RegEnv.pu rfl rfl rfl rfl (fun w hS => sm_row rfl hE (hS2 w hS)) ?_
  refine RegEnv.ca rfl rfl rfl rfl (fun w => re_head_marks rfl) N1q ?_
  refine RegEnv.pu rfl rfl rfl rfl (fun w hS => sm_emarks rfl rfl h1) ?_
  refine RegEnv.pu rfl rfl rfl rfl (fun w hS => rfl) ?_
  refine RegEnv.pu rfl rfl rfl rfl (fun w hS => rfl) ?_
  refine RegEnv.pu rfl rfl rfl rfl (fun w hS => sm_row rfl hC (hS1 w hS)) ?_
  refine RegEnv.ca rfl rfl rfl rfl (fun w => re_head_texts rfl) N2p ?_
  refine RegEnv.pu rfl rfl rfl rfl (fun w hS => sm_row rfl hE (hS2 w hS)) ?_
  refine RegEnv.ca rfl rfl rfl rfl (fun w => re_head_texts rfl) N2q ?_
  refine RegEnv.pu rfl rfl rfl rfl (fun w hS => sm_etexts rfl rfl h2) ?_
  refine RegEnv.pu rfl rfl rfl rfl (fun w hS => rfl) ?_
  refine RegEnv.pu rfl rfl rfl rfl (fun w hS => rfl) ?_
  refine RegEnv.pu rfl rfl rfl rfl (fun w hS => sm_a18 rfl) ?_
  refine RegEnv.pu rfl rfl rfl rfl (fun w hS => sm_li rfl (hp22 w hS)) ?_
  refine RegEnv.pu rfl rfl rfl rfl (fun w hS => sm_a18 rfl) ?_
  refine RegEnv.pu rfl rfl rfl rfl (fun w hS => sm_li rfl (hq22 w hS)) ?_
  refine RegEnv.ca rfl rfl rfl rfl (fun w => sm_fint rfl rfl) F3 ?_
  refine RegEnv.pu rfl rfl rfl rfl (fun w hS => rfl) ?_
  refine RegEnv.pu rfl rfl rfl rfl (fun w hS => rfl) ?_
  refine RegEnv.pu rfl rfl rfl rfl (fun w hS => sm_a19 rfl) ?_
  refine RegEnv.pu rfl rfl rfl rfl (fun w hS => sm_lf rfl (hp23 w hS)) ?_
  refine RegEnv.pu rfl rfl rfl rfl (fun w hS => sm_a19 rfl) ?_
  refine RegEnv.pu rfl rfl rfl rfl (fun w hS => sm_lf rfl (hq23 w hS)) ?_
  refine RegEnv.ca rfl rfl rfl rfl (fun w => sm_ffi rfl rfl) F4 ?_
  refine RegEnv.pu rfl rfl rfl rfl (fun w hS => rfl) ?_
  refine RegEnv.pu rfl rfl rfl rfl (fun w hS => rfl) ?_
  refine RegEnv.pu rfl rfl rfl rfl (fun w hS => sm_a20 rfl) ?_
  refine RegEnv.pu rfl rfl rfl rfl (fun w hS => sm_lp rfl (hp24 w hS)) ?_
  refine RegEnv.pu rfl rfl rfl rfl (fun w hS => sm_a20 rfl) ?_
  refine RegEnv.pu rfl rfl rfl rfl (fun w hS => sm_lp rfl (hq24 w hS)) ?_
  refine RegEnv.ca rfl rfl rfl rfl (fun w => sm_fprop rfl rfl) F5 ?_
  refine RegEnv.pu rfl rfl rfl rfl (fun w hS => rfl) ?_
  refine RegEnv.pu rfl rfl rfl rfl (fun w hS => rfl) ?_
  refine RegEnv.pu rfl rfl rfl rfl (fun w hS => sm_a15 rfl) ?_
  refine RegEnv.pu rfl rfl rfl rfl (fun w hS => sm_aw rfl) ?_
  refine RegEnv.pu rfl rfl rfl rfl (fun w hS => sm_lp rfl (hp19 w hS)) ?_
  refine RegEnv.pu rfl rfl rfl rfl (fun w hS => sm_a15 rfl) ?_
  refine RegEnv.pu rfl rfl rfl rfl (fun w hS => sm_aw rfl) ?_
  refine RegEnv.pu rfl rfl rfl rfl (fun w hS => sm_lp rfl (hq19 w hS)) ?_
  refine RegEnv.ca rfl rfl rfl rfl (fun w => sm_fprop rfl rfl) F6 ?_
  refine RegEnv.pu rfl rfl rfl rfl (fun w hS => rfl) ?_
  refine RegEnv.pu rfl rfl rfl rfl (fun w hS => rfl) ?_
  exact RegEnv.All.fin rfl
set_option maxRecDepth 100000 in
set_option maxHeartbeats 4000000 in
theorem same_way7 {Q : Exit → Act → World → Prop} {S : World → Prop} {W : World} {p q : Pk} {a b : Ad} {C E : Array Value} {B : Nat} {x5 x6 x7 x8 x9 x10 x11 x12 x13 x14 x15 x16 x17 x18 x19 x20 x21 x22 x23 x24 x25 x26 x27 x28 x29 x30 x31 x32 x33 x34 x35 x36 x37 x38 x39 x40 x41 x42 x43 x44 x45 x46 x47 x48 x49 x50 x51 x52 x53 : Value}
    (hS : S W.drew) (hC : C.size = 25) (hE : E.size = 25) (hS1 : ∀ w, S w → w.heap[B]? = some (.cells C 28 (0, 0))) (hS2 : ∀ w, S w → w.heap[B + 1]? = some (.cells E 28 (0, 0)))
    (N0p : ∀ w, S w → Calls Tryz.prog 145 #[.agg C] w fun e w' => e = .returned (.agg (numsA p)) ∧ S w')
    (N0q : ∀ w, S w → Calls Tryz.prog 145 #[.agg E] w fun e w' => e = .returned (.agg (numsA q)) ∧ S w')
    (h0 : decide (p.nums = q.nums) = true)
    (N1p : ∀ w, S w → Calls Tryz.prog 146 #[.agg C] w fun e w' => e = .returned (.agg (marksA p)) ∧ S w')
    (N1q : ∀ w, S w → Calls Tryz.prog 146 #[.agg E] w fun e w' => e = .returned (.agg (marksA q)) ∧ S w')
    (h1 : decide (p.marks = q.marks) = true)
    (N2p : ∀ w, S w → Calls Tryz.prog 147 #[.agg C] w fun e w' => e = .returned (.agg (textsA p)) ∧ S w')
    (N2q : ∀ w, S w → Calls Tryz.prog 147 #[.agg E] w fun e w' => e = .returned (.agg (textsA q)) ∧ S w')
    (h2 : decide (p.texts = q.texts) = true)
    (hp22 : ∀ w, S w → w.cell? ⟨B, 22, none⟩ = some (.slice a.cs p.codes.length a.cc))
    (hq22 : ∀ w, S w → w.cell? ⟨B + 1, 22, none⟩ = some (.slice b.cs q.codes.length b.cc))
    (F3 : ∀ w, S w → Calls Tryz.prog 148 #[(.slice a.cs p.codes.length a.cc), (.slice b.cs q.codes.length b.cc), .func (.func 149) #[] #[]] w fun e w' => e = .returned (.bool true) ∧ S w')
    (hp23 : ∀ w, S w → w.cell? ⟨B, 23, none⟩ = some (.slice a.fs p.filters.length a.fc))
    (hq23 : ∀ w, S w → w.cell? ⟨B + 1, 23, none⟩ = some (.slice b.fs q.filters.length b.fc))
    (F4 : ∀ w, S w → Calls Tryz.prog 150 #[(.slice a.fs p.filters.length a.fc), (.slice b.fs q.filters.length b.fc), .func (.func 151) #[] #[]] w fun e w' => e = .returned (.bool true) ∧ S w')
    (hp24 : ∀ w, S w → w.cell? ⟨B, 24, none⟩ = some (.slice a.ps p.props.length a.pc))
    (hq24 : ∀ w, S w → w.cell? ⟨B + 1, 24, none⟩ = some (.slice b.ps q.props.length b.pc))
    (F5 : ∀ w, S w → Calls Tryz.prog 152 #[(.slice a.ps p.props.length a.pc), (.slice b.ps q.props.length b.pc), .func (.func 153) #[] #[]] w fun e w' => e = .returned (.bool true) ∧ S w')
    (hp19 : ∀ w, S w → w.cell? ⟨B, 19, none⟩ = some (.slice a.w p.wProps.length a.wc))
    (hq19 : ∀ w, S w → w.cell? ⟨B + 1, 19, none⟩ = some (.slice b.w q.wProps.length b.wc))
    (F6 : ∀ w, S w → Calls Tryz.prog 152 #[(.slice a.w p.wProps.length a.wc), (.slice b.w q.wProps.length b.wc), .func (.func 153) #[] #[]] w fun e w' => e = .returned (.bool true) ∧ S w')
    (fin : ∀ w, S w → Q .normal ⟨#[(.agg C), (.agg E), (.pointer (some ⟨B, 0, none⟩)), (.pointer (some ⟨B + 1, 0, none⟩)), (.bool true), (.agg C), (.agg (numsA p)), (.agg E), (.agg (numsA q)), (.bool true), (.bool true), (.agg C), (.agg (marksA p)), (.agg E), (.agg (marksA q)), (.bool true), (.bool true), (.bool true), (.agg C), (.agg (textsA p)), (.agg E), (.agg (textsA q)), (.bool true), (.bool true), (.bool true), (.pointer (some ⟨B, 22, none⟩)), (.slice a.cs p.codes.length a.cc), (.pointer (some ⟨B + 1, 22, none⟩)), (.slice b.cs q.codes.length b.cc), (.bool true), (.bool true), (.bool true), (.pointer (some ⟨B, 23, none⟩)), (.slice a.fs p.filters.length a.fc), (.pointer (some ⟨B + 1, 23, none⟩)), (.slice b.fs q.filters.length b.fc), (.bool true), (.bool true), (.bool true), (.pointer (some ⟨B, 24, none⟩)), (.slice a.ps p.props.length a.pc), (.pointer (some ⟨B + 1, 24, none⟩)), (.slice b.ps q.props.length b.pc), (.bool true), (.bool true), (.bool true), (.pointer (some ⟨B, 15, none⟩)), (.pointer (some ⟨B, 19, none⟩)), (.slice a.w p.wProps.length a.wc), (.pointer (some ⟨B + 1, 15, none⟩)), (.pointer (some ⟨B + 1, 19, none⟩)), (.slice b.w q.wProps.length b.wc), (.bool true), (.bool true)], []⟩ w) :
    (Code.region 1 (RegEnv.opsAt 1 Tryz.f94.body) true).wp Tryz.prog Q ⟨#[(.agg C), (.agg E), (.pointer (some ⟨B, 0, none⟩)), (.pointer (some ⟨B + 1, 0, none⟩)), (.bool false), x5, x6, x7, x8, x9, x10, x11, x12, x13, x14, x15, x16, x17, x18, x19, x20, x21, x22, x23, x24, x25, x26, x27, x28, x29, x30, x31, x32, x33, x34, x35, x36, x37, x38, x39, x40, x41, x42, x43, x44, x45, x46, x47, x48, x49, x50, x51, x52, x53], []⟩ W := by
  refine RegEnv.wp_in (ds := [5, 6, 7, 8, 9, 10, 11, 12, 13, 14, 15, 16, 17, 18, 19, 20, 21, 22, 23, 24, 25, 26, 27, 28, 29, 30, 31, 32, 33, 34, 35, 36, 37, 38, 39, 40, 41, 42, 43, 44, 45, 46, 47, 48, 49, 50, 51, 52, 53, 4]) (D := []) (by kernel_rfl) (by kernel_rfl) (by kernel_rfl) ?_ hS ?_ fin
  · exact (by repeat (first | exact trivial | refine ⟨.inr rfl, ?_⟩ | refine ⟨.inl rfl, ?_⟩))
  refine RegEnv.pu rfl rfl rfl rfl (fun w hS => sm_row rfl hC (hS1 w hS)) ?_
  refine RegEnv.ca rfl rfl rfl rfl (fun w => re_head_numbers rfl) N0p ?_
  refine RegEnv.pu rfl rfl rfl rfl (fun w hS => sm_row rfl hE (hS2 w hS)) ?_
  refine RegEnv.ca rfl rfl rfl rfl (fun w => re_head_numbers rfl) N0q ?_
  refine RegEnv.pu rfl rfl rfl rfl (fun w hS => sm_enums rfl rfl h0) ?_
  refine RegEnv.pu rfl rfl rfl rfl (fun w hS => rfl) ?_
  refine RegEnv.pu rfl rfl rfl rfl (fun w hS => sm_row rfl hC (hS1 w hS)) ?_
  refine RegEnv.ca rfl rfl rfl rfl (fun w => re_head_marks rfl) N1p ?_
  refine RegEnv.pu rfl rfl rfl rfl (fun w hS => sm_row rfl hE (hS2 w hS)) ?_
  refine RegEnv.ca rfl rfl rfl rfl (fun w => re_head_marks rfl) N1q ?_
  refine RegEnv.pu rfl rfl rfl rfl (fun w hS => sm_emarks rfl rfl h1) ?_
  refine RegEnv.pu rfl rfl rfl rfl (fun w hS => rfl) ?_
  refine RegEnv.pu rfl rfl rfl rfl (fun w hS => rfl) ?_
  refine RegEnv.pu rfl rfl rfl rfl (fun w hS => sm_row rfl hC (hS1 w hS)) ?_
  refine RegEnv.ca rfl rfl rfl rfl (fun w => re_head_texts rfl) N2p ?_
  refine RegEnv.pu rfl rfl rfl rfl (fun w hS => sm_row rfl hE (hS2 w hS)) ?_
  refine RegEnv.ca rfl rfl rfl rfl (fun w => re_head_texts rfl) N2q ?_
  refine RegEnv.pu rfl rfl rfl rfl (fun w hS => sm_etexts rfl rfl h2) ?_
  refine RegEnv.pu rfl rfl rfl rfl (fun w hS => rfl) ?_
  refine RegEnv.pu rfl rfl rfl rfl (fun w hS => rfl) ?_
  refine RegEnv.pu rfl rfl rfl rfl (fun w hS => sm_a18 rfl) ?_
  refine RegEnv.pu rfl rfl rfl rfl (fun w hS => sm_li rfl (hp22 w hS)) ?_
  refine RegEnv.pu rfl rfl rfl rfl (fun w hS => sm_a18 rfl) ?_
  refine RegEnv.pu rfl rfl rfl rfl (fun w hS => sm_li rfl (hq22 w hS)) ?_
  refine RegEnv.ca rfl rfl rfl rfl (fun w => sm_fint rfl rfl) F3 ?_
  refine RegEnv.pu rfl rfl rfl rfl (fun w hS => rfl) ?_
  refine RegEnv.pu rfl rfl rfl rfl (fun w hS => rfl) ?_
  refine RegEnv.pu rfl rfl rfl rfl (fun w hS => sm_a19 rfl) ?_
  refine RegEnv.pu rfl rfl rfl rfl (fun w hS => sm_lf rfl (hp23 w hS)) ?_
  refine RegEnv.pu rfl rfl rfl rfl (fun w hS => sm_a19 rfl) ?_
  refine RegEnv.pu rfl rfl rfl rfl (fun w hS => sm_lf rfl (hq23 w hS)) ?_
  refine RegEnv.ca rfl rfl rfl rfl (fun w => sm_ffi rfl rfl) F4 ?_
  refine RegEnv.pu rfl rfl rfl rfl (fun w hS => rfl) ?_
  refine RegEnv.pu rfl rfl rfl rfl (fun w hS => rfl) ?_
  refine RegEnv.pu rfl rfl rfl rfl (fun w hS => sm_a20 rfl) ?_
  refine RegEnv.pu rfl rfl rfl rfl (fun w hS => sm_lp rfl (hp24 w hS)) ?_
  refine RegEnv.pu rfl rfl rfl rfl (fun w hS => sm_a20 rfl) ?_
  refine RegEnv.pu rfl rfl rfl rfl (fun w hS => sm_lp rfl (hq24 w hS)) ?_
  refine RegEnv.ca rfl rfl rfl rfl (fun w => sm_fprop rfl rfl) F5 ?_
  refine RegEnv.pu rfl rfl rfl rfl (fun w hS => rfl) ?_
  refine RegEnv.pu rfl rfl rfl rfl (fun w hS => rfl) ?_
  refine RegEnv.pu rfl rfl rfl rfl (fun w hS => sm_a15 rfl) ?_
  refine RegEnv.pu rfl rfl rfl rfl (fun w hS => sm_aw rfl) ?_
  refine RegEnv.pu rfl rfl rfl rfl (fun w hS => sm_lp rfl (hp19 w hS)) ?_
  refine RegEnv.pu rfl rfl rfl rfl (fun w hS => sm_a15 rfl) ?_
  refine RegEnv.pu rfl rfl rfl rfl (fun w hS => sm_aw rfl) ?_
  refine RegEnv.pu rfl rfl rfl rfl (fun w hS => sm_lp rfl (hq19 w hS)) ?_
  refine RegEnv.ca rfl rfl rfl rfl (fun w => sm_fprop rfl rfl) F6 ?_
  refine RegEnv.pu rfl rfl rfl rfl (fun w hS => rfl) ?_
  refine RegEnv.pu rfl rfl rfl rfl (fun w hS => rfl) ?_
  exact RegEnv.All.fin rfl
end Go.Proofs.YtaahhbjnflimnaaGreat
