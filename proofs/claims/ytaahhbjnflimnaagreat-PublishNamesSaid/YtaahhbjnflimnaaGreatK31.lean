/-
  The region of publish.Valid's third check. Condition: none.
  The region of publish.Body that draws. Condition: none.
-/
import Derived.Test.YtaahhbjnflimnaaGreatK04
import Derived.Test.YtaahhbjnflimnaaGreatK20
import Derived.Test.YtaahhbjnflimnaaGreatK14
namespace Go.Proofs.YtaahhbjnflimnaaGreat
open Go.RowKit

section
variable {a : Act} {w : World} {d : Option Tmp} {p : String} {af : Array Edge} {gd : Option (Nat × Bool)} {x y z : Tmp} {r : TypeId}
theorem pv_li {g : Nat} {z : Int} (hx : a.eval (.tmp x) = .pointer (some ⟨g, 0, none⟩)) (hc : w.cell? ⟨g, 0, none⟩ = some (.int .i64 z)) :
    (execOp a.eval { dst := d, op := .load 3 (.tmp x), type := 3, pos := p, after := af, guard := gd }).run Tryz.prog w = .ok (.value (.int .i64 z)) w := by
  generalize a.eval = f at *
  go_simp
theorem pv_row {g : Nat} {C : Array Value} (hx : a.eval (.tmp x) = .pointer (some ⟨g, 0, none⟩)) (hs : C.size = 25) (hg : w.heap[g]? = some (.cells C 28 (0, 0))) :
    (execOp a.eval { dst := d, op := .load 28 (.tmp x), type := 28, pos := p, after := af, guard := gd }).run Tryz.prog w = .ok (.value (.agg C)) w := by
  unfold execOp
  simp only [hx, Instr.loadAt, Instr.sureAddr, Sem.run_bind, Sem.run_pure, Result.andThen_ok, run_loadVar_row w g 28 28 C (0, 0) _ hg Tryz.underlying28 rfl (by rw [hs]; exact info_pk)]
theorem re_publish_idFits {ts : Array TypeId} {u : Value} (hx : a.eval (.tmp x) = u) :
    (execOp a.eval { dst := d, op := .call { callee := .value (.func 93), args := #[.tmp x], argTypes := ts }, type := r, pos := p, after := af, guard := gd }).run Tryz.prog w = .ok (.enter 93 #[u]) w := by
  have hf : a.eval (.func 93) = .func (.func 93) #[] #[] := rfl
  generalize a.eval = f at *
  go_simp
theorem re_publish_used {ts : Array TypeId} {u v : Value} (hx : a.eval (.tmp x) = u) (hy : a.eval (.tmp y) = v) :
    (execOp a.eval { dst := d, op := .call { callee := .value (.func 95), args := #[.tmp x, .tmp y], argTypes := ts }, type := r, pos := p, after := af, guard := gd }).run Tryz.prog w = .ok (.enter 95 #[u, v]) w := by
  have hf : a.eval (.func 95) = .func (.func 95) #[] #[] := rfl
  generalize a.eval = f at *
  go_simp
theorem rp_head_Same {ts : Array TypeId} {u v : Value} (hx : a.eval (.tmp x) = u) (hy : a.eval (.tmp y) = v) :
    (execOp a.eval { dst := d, op := .call { callee := .value (.func 94), args := #[.tmp x, .tmp y], argTypes := ts }, type := r, pos := p, after := af, guard := gd }).run Tryz.prog w = .ok (.enter 94 #[u, v]) w := by
  have hf : a.eval (.func 94) = .func (.func 94) #[] #[] := rfl
  generalize a.eval = f at *
  go_simp
theorem re_publish_require_inti642 {ts : Array TypeId} {u : Value} (hx : a.eval (.tmp x) = u) :
    (execOp a.eval { dst := d, op := .call { callee := .value (.func 89), args := #[.tmp x, .const (.int .i64 2)], argTypes := ts }, type := r, pos := p, after := af, guard := gd }).run Tryz.prog w = .ok (.enter 89 #[u, .int .i64 2]) w := by
  have hf : a.eval (.func 89) = .func (.func 89) #[] #[] := rfl
  have hc1 : a.eval (.const (.int .i64 2)) = .int .i64 2 := rfl
  generalize a.eval = f at *
  go_simp
end
set_option maxRecDepth 100000 in
set_option maxHeartbeats 4000000 in
theorem pv_true {Q : Exit → Act → World → Prop} {S : World → Prop} {W : World} {b1 b2 : Nat} {v z : Int} {C D : Array Value} {b : Bool} {x2 x3 x4 x5 x6 x7 x8 x9 x10 x11 x12 : Value}
    (hS : S W.drew) (hC : C.size = 25) (KC : ∀ w, S w → w.heap[b2]? = some (.cells C 28 (0, 0))) (KV : ∀ w, S w → w.cell? ⟨b1, 0, none⟩ = some (.int .i64 v))
    (H0 : ∀ w, S w → Calls Tryz.prog 93 #[(.agg C)] w fun e w' => e = .returned (.bool true) ∧ S w')
    (H1 : ∀ w, S w → Calls Tryz.prog 95 #[(.int .i64 v), (.agg C)] w fun e w' => e = .returned (.agg D) ∧ S w')
    (H2 : ∀ w, S w → Calls Tryz.prog 94 #[(.agg C), (.agg D)] w fun e w' => e = .returned (.bool b) ∧ S w')
    (H3 : ∀ w, S w → Calls Tryz.prog 89 #[(.bool b), .int .i64 2] w fun e w' => e = .returned (.int .i64 z) ∧ S w')
    (fin : ∀ w, S w → Q .normal ⟨#[(.pointer (some ⟨b2, 0, none⟩)), (.pointer (some ⟨b1, 0, none⟩)), (.int .i64 z), (.agg C), (.bool true), (.bool true), (.agg C), (.int .i64 v), (.agg C), (.agg D), (.bool b), (.bool b), (.int .i64 z)], []⟩ w) :
    (Code.region 1 (RegEnv.opsAt 1 Tryz.f92.body) true).wp Tryz.prog Q ⟨#[(.pointer (some ⟨b2, 0, none⟩)), (.pointer (some ⟨b1, 0, none⟩)), x2, x3, x4, x5, x6, x7, x8, x9, x10, x11, x12], []⟩ W := by
  refine RegEnv.wp_in (ds := [3, 4, 5, 6, 7, 8, 9, 10, 11, 12, 2]) (D := []) (by kernel_rfl) (by kernel_rfl) (by kernel_rfl) ?_ hS ?_ (fun w hS => fin w hS)
  · exact (by repeat (first | exact trivial | refine ⟨.inr rfl, ?_⟩ | refine ⟨.inl rfl, ?_⟩))
  refine RegEnv.pu rfl rfl rfl rfl (fun w hS => pv_row rfl hC (KC w hS)) ?_
  refine RegEnv.ca rfl rfl rfl rfl (fun w => re_publish_idFits rfl) H0 ?_
  refine RegEnv.pu rfl rfl rfl rfl (fun w hS => rfl) ?_
  refine RegEnv.pu rfl rfl rfl rfl (fun w hS => pv_row rfl hC (KC w hS)) ?_
  refine RegEnv.pu rfl rfl rfl rfl (fun w hS => pv_li rfl (KV w hS)) ?_
  refine RegEnv.pu rfl rfl rfl rfl (fun w hS => pv_row rfl hC (KC w hS)) ?_
  refine RegEnv.ca rfl rfl rfl rfl (fun w => re_publish_used rfl rfl) H1 ?_
  refine RegEnv.ca rfl rfl rfl rfl (fun w => rp_head_Same rfl rfl) H2 ?_
  refine RegEnv.pu rfl rfl rfl rfl (fun w hS => rfl) ?_
  refine RegEnv.ca rfl rfl rfl rfl (fun w => re_publish_require_inti642 rfl) H3 ?_
  refine RegEnv.pu rfl rfl rfl rfl (fun w hS => rfl) ?_
  exact RegEnv.All.fin rfl
set_option maxRecDepth 100000 in
set_option maxHeartbeats 4000000 in
theorem pv_false {Q : Exit → Act → World → Prop} {S : World → Prop} {W : World} {b1 b2 : Nat} {z : Int} {C : Array Value} {x2 x3 x4 x5 x6 x7 x8 x9 x10 x11 x12 : Value}
    (hS : S W.drew) (hC : C.size = 25) (KC : ∀ w, S w → w.heap[b2]? = some (.cells C 28 (0, 0)))
    (H0 : ∀ w, S w → Calls Tryz.prog 93 #[(.agg C)] w fun e w' => e = .returned (.bool false) ∧ S w')
    (H1 : ∀ w, S w → Calls Tryz.prog 89 #[(.bool false), .int .i64 2] w fun e w' => e = .returned (.int .i64 z) ∧ S w')
    (fin : ∀ w, S w → Q .normal ⟨#[(.pointer (some ⟨b2, 0, none⟩)), (.pointer (some ⟨b1, 0, none⟩)), (.int .i64 z), (.agg C), (.bool false), (.bool false), undef, undef, undef, undef, undef, (.bool false), (.int .i64 z)], []⟩ w) :
    (Code.region 1 (RegEnv.opsAt 1 Tryz.f92.body) true).wp Tryz.prog Q ⟨#[(.pointer (some ⟨b2, 0, none⟩)), (.pointer (some ⟨b1, 0, none⟩)), x2, x3, x4, x5, x6, x7, x8, x9, x10, x11, x12], []⟩ W := by
  refine RegEnv.wp_in (ds := [3, 4, 5, 6, 7, 8, 9, 10, 11, 12, 2]) (D := []) (by kernel_rfl) (by kernel_rfl) (by kernel_rfl) ?_ hS ?_ (fun w hS => fin w hS)
  · exact (by repeat (first | exact trivial | refine ⟨.inr rfl, ?_⟩ | refine ⟨.inl rfl, ?_⟩))
  refine RegEnv.pu rfl rfl rfl rfl (fun w hS => pv_row rfl hC (KC w hS)) ?_
  refine RegEnv.ca rfl rfl rfl rfl (fun w => re_publish_idFits rfl) H0 ?_
  iterate 7 (first | refine RegEnv.sk rfl rfl rfl rfl ?_ | refine RegEnv.pu rfl rfl rfl rfl (fun w hS => rfl) ?_)
  refine RegEnv.ca rfl rfl rfl rfl (fun w => re_publish_require_inti642 rfl) H1 ?_
  refine RegEnv.pu rfl rfl rfl rfl (fun w hS => rfl) ?_
  exact RegEnv.All.fin rfl
end Go.Proofs.YtaahhbjnflimnaaGreat
namespace Go.Proofs.YtaahhbjnflimnaaGreat
open Go.RowKit

section
variable {a : Act} {w : World} {d : Option Tmp} {p : String} {af : Array Edge} {gd : Option (Nat × Bool)} {x y z : Tmp} {r : TypeId}
theorem pb_add {u v z : ByteArray} (hx : a.eval (.tmp x) = .string u) (hy : a.eval (.tmp y) = .string v) (hz : u ++ v = z) (hn : z.size ≤ 9223372036854775807) :
    (execOp a.eval { dst := d, op := .binOp .add 9 (.tmp x) (.tmp y) 9, type := r, pos := p, after := af, guard := gd }).run Tryz.prog w = .ok (.value (.string z)) w := by
  have hn : ¬ 9223372036854775807 < u.size + v.size := by rw [← hz, ByteArray.size_append] at hn; omega
  generalize a.eval = f at *
  rw [← hz]
  go_simp
theorem pb_row {g : Nat} {C : Array Value} (hx : a.eval (.tmp x) = .pointer (some ⟨g, 0, none⟩)) (hs : C.size = 25) (hg : w.heap[g]? = some (.cells C 28 (0, 0))) :
    (execOp a.eval { dst := d, op := .load 28 (.tmp x), type := 28, pos := p, after := af, guard := gd }).run Tryz.prog w = .ok (.value (.agg C)) w := by
  unfold execOp
  simp only [hx, Instr.loadAt, Instr.sureAddr, Sem.run_bind, Sem.run_pure, Result.andThen_ok, run_loadVar_row w g 28 28 C (0, 0) _ hg Tryz.underlying28 rfl (by rw [hs]; exact info_pk)]
theorem pb_a6 {g : Nat} (hx : a.eval (.tmp x) = .pointer (some ⟨g, 0, none⟩)) :
    (execOp a.eval { dst := d, op := .fieldAddr 28 (.tmp x) 6, type := r, pos := p, after := af, guard := gd }).run Tryz.prog w = .ok (.value (.pointer (some ⟨g, 6, none⟩))) w := by
  generalize a.eval = f at *
  go_simp
theorem pb_ls {g j : Nat} {u : ByteArray} (hx : a.eval (.tmp x) = .pointer (some ⟨g, j, none⟩)) (hc : w.cell? ⟨g, j, none⟩ = some (.string u)) :
    (execOp a.eval { dst := d, op := .load 9 (.tmp x), type := 9, pos := p, after := af, guard := gd }).run Tryz.prog w = .ok (.value (.string u)) w := by
  generalize a.eval = f at *
  go_simp
theorem pb_re_publish_id {ts : Array TypeId} {u : Value} (hx : a.eval (.tmp x) = u) :
    (execOp a.eval { dst := d, op := .call { callee := .value (.func 74), args := #[.tmp x], argTypes := ts }, type := r, pos := p, after := af, guard := gd }).run Tryz.prog w = .ok (.enter 74 #[u]) w := by
  have hf : a.eval (.func 74) = .func (.func 74) #[] #[] := rfl
  generalize a.eval = f at *
  go_simp
theorem pb_re_publish_props {ts : Array TypeId} {u v : Value} (hx : a.eval (.tmp x) = u) (hy : a.eval (.tmp y) = v) :
    (execOp a.eval { dst := d, op := .call { callee := .value (.func 75), args := #[.tmp x, .tmp y], argTypes := ts }, type := r, pos := p, after := af, guard := gd }).run Tryz.prog w = .ok (.enter 75 #[u, v]) w := by
  have hf : a.eval (.func 75) = .func (.func 75) #[] #[] := rfl
  generalize a.eval = f at *
  go_simp
end
set_option maxRecDepth 100000 in
set_option maxHeartbeats 4000000 in
theorem pb_body {Q : Exit → Act → World → Prop} {S : World → Prop} {W : World} {b : Nat} {v : Int} {C : Array Value} {N I T PA Z1 Z2 Z3 : ByteArray} {x1 x2 x4 x5 x6 x8 x9 x10 x11 x12 x13 x14 x15 x16 x17 x18 x19 x20 x21 x22 x23 x24 x25 x26 x27 x28 x29 x30 x31 : Value}
    (hS : S W.drew) (hC : C.size = 25) (KC : ∀ w, S w → w.heap[b]? = some (.cells C 28 (0, 0))) (K6 : ∀ w, S w → w.cell? ⟨b, 6, none⟩ = some (.string PA))
    (H0 : ∀ w, S w → Calls Tryz.prog 74 #[(.agg C)] w fun e w' => e = .returned (.string I) ∧ S w')
    (H1 : ∀ w, S w → Calls Tryz.prog 75 #[(.int .i64 v), (.agg C)] w fun e w' => e = .returned (.string T) ∧ S w')
    (eZ1 : N ++ I = Z1) (sZ1 : Z1.size ≤ 9223372036854775807) (eZ2 : Z1 ++ T = Z2) (sZ2 : Z2.size ≤ 9223372036854775807) (eZ3 : Z2 ++ PA = Z3) (sZ3 : Z3.size ≤ 9223372036854775807)
    (fin : ∀ w, S w → Q .normal ⟨#[(.int .i64 v), x1, x2, (.pointer (some ⟨b, 0, none⟩)), (.string Z3), (.int .i64 0), x6, (.string N), x8, x9, x10, x11, x12, x13, x14, x15, x16, x17, x18, x19, x20, (.string N), (.agg C), (.string I), (.string Z1), (.int .i64 v), (.agg C), (.string T), (.string Z2), (.pointer (some ⟨b, 6, none⟩)), (.string PA), (.string Z3)], []⟩ w) :
    (Code.region 5 (RegEnv.opsAt 5 Tryz.f21.body) true).wp Tryz.prog Q ⟨#[(.int .i64 v), x1, x2, (.pointer (some ⟨b, 0, none⟩)), x4, x5, x6, (.string N), x8, x9, x10, x11, x12, x13, x14, x15, x16, x17, x18, x19, x20, x21, x22, x23, x24, x25, x26, x27, x28, x29, x30, x31], []⟩ W := by
  refine RegEnv.wp_in (ds := [21, 22, 23, 24, 25, 26, 27, 28, 29, 30, 31, 4, 5]) (D := []) (by kernel_rfl) (by kernel_rfl) (by kernel_rfl) ?_ hS ?_ (fun w hS => fin w hS)
  · exact (by repeat (first | exact trivial | refine ⟨.inr rfl, ?_⟩ | refine ⟨.inl rfl, ?_⟩))
  refine RegEnv.pu rfl rfl rfl rfl (fun w hS => rfl) ?_
  refine RegEnv.pu rfl rfl rfl rfl (fun w hS => pb_row rfl hC (KC w hS)) ?_
  refine RegEnv.ca rfl rfl rfl rfl (fun w => pb_re_publish_id rfl) H0 ?_
  refine RegEnv.pu rfl rfl rfl rfl (fun w hS => pb_add rfl rfl eZ1 sZ1) ?_
  refine RegEnv.pu rfl rfl rfl rfl (fun w hS => rfl) ?_
  refine RegEnv.pu rfl rfl rfl rfl (fun w hS => pb_row rfl hC (KC w hS)) ?_
  refine RegEnv.ca rfl rfl rfl rfl (fun w => pb_re_publish_props rfl rfl) H1 ?_
  refine RegEnv.pu rfl rfl rfl rfl (fun w hS => pb_add rfl rfl eZ2 sZ2) ?_
  refine RegEnv.pu rfl rfl rfl rfl (fun w hS => pb_a6 rfl) ?_
  refine RegEnv.pu rfl rfl rfl rfl (fun w hS => pb_ls rfl (K6 w hS)) ?_
  refine RegEnv.pu rfl rfl rfl rfl (fun w hS => pb_add rfl rfl eZ3 sZ3) ?_
  refine RegEnv.pu rfl rfl rfl rfl (fun w hS => rfl) ?_
  refine RegEnv.pu rfl rfl rfl rfl (fun w hS => rfl) ?_
  exact RegEnv.All.fin rfl
end Go.Proofs.YtaahhbjnflimnaaGreat
