/-
  The region of amqprim.Check that draws its order: there is no room, the number is not one of its kind, or there are items. No condition.
-/
import Derived.Test.YtjbgnlnchchgcaaDoorRegEnv
import Derived.Test.YtjbgnlnchchgcaaDoorKit
import Derived.Test.YtjbgnlnchchgcaaDoorVaKit
namespace Go.Proofs.YtjbgnlnchchgcaaDoor
open Go.RowKit

section
variable {a : Act} {w : World} {d : Option Tmp} {p : String} {af : Array Edge} {gd : Option (Nat × Bool)} {x y z : Tmp} {r : TypeId}
theorem ak_f0 {g : Nat} (hx : a.eval (.tmp x) = .pointer (some ⟨g, 0, none⟩)) :
    (execOp a.eval { dst := d, op := .fieldAddr 26 (.tmp x) 0, type := r, pos := p, after := af, guard := gd }).run Tryd.prog w = .ok (.value (.pointer (some ⟨g, 0, none⟩))) w := by
  generalize a.eval = f at *
  go_simp
theorem ak_f1 {g : Nat} (hx : a.eval (.tmp x) = .pointer (some ⟨g, 0, none⟩)) :
    (execOp a.eval { dst := d, op := .fieldAddr 26 (.tmp x) 1, type := r, pos := p, after := af, guard := gd }).run Tryd.prog w = .ok (.value (.pointer (some ⟨g, 1, none⟩))) w := by
  generalize a.eval = f at *
  go_simp
theorem ak_f3 {g : Nat} (hx : a.eval (.tmp x) = .pointer (some ⟨g, 0, none⟩)) :
    (execOp a.eval { dst := d, op := .fieldAddr 26 (.tmp x) 3, type := r, pos := p, after := af, guard := gd }).run Tryd.prog w = .ok (.value (.pointer (some ⟨g, 3, none⟩))) w := by
  generalize a.eval = f at *
  go_simp
theorem ak_int {g j : Nat} {v : Int} (hx : a.eval (.tmp x) = .pointer (some ⟨g, j, none⟩)) (hc : w.cell? ⟨g, j, none⟩ = some (.int .i64 v)) :
    (execOp a.eval { dst := d, op := .load 3 (.tmp x), type := 3, pos := p, after := af, guard := gd }).run Tryd.prog w = .ok (.value (.int .i64 v)) w := by
  generalize a.eval = f at *
  go_simp
theorem ak_u64 {g j : Nat} {v : Int} (hx : a.eval (.tmp x) = .pointer (some ⟨g, j, none⟩)) (hc : w.cell? ⟨g, j, none⟩ = some (.int .u64 v)) :
    (execOp a.eval { dst := d, op := .load 23 (.tmp x), type := 23, pos := p, after := af, guard := gd }).run Tryd.prog w = .ok (.value (.int .u64 v)) w := by
  generalize a.eval = f at *
  go_simp
theorem ak_items {g j m c : Nat} {A : Option Addr} (hx : a.eval (.tmp x) = .pointer (some ⟨g, j, none⟩)) (hc : w.cell? ⟨g, j, none⟩ = some (.slice A m c)) :
    (execOp a.eval { dst := d, op := .load 24 (.tmp x), type := 24, pos := p, after := af, guard := gd }).run Tryd.prog w = .ok (.value (.slice A m c)) w := by
  generalize a.eval = f at *
  go_simp
theorem ak_len {m c : Nat} {A : Option Addr} (hx : a.eval (.tmp x) = .slice A m c) :
    (execOp a.eval { dst := d, op := .call { callee := .builtin .len, args := #[.tmp x], argTypes := #[24] }, type := 3, pos := p, after := af, guard := gd }).run Tryd.prog w = .ok (.value (.int .i64 (m : Nat))) w := by
  generalize a.eval = f at *
  go_simp
theorem ak_row {g : Nat} {C : Array Value} (hx : a.eval (.tmp x) = .pointer (some ⟨g, 0, none⟩)) (hs : C.size = 4) (hg : w.heap[g]? = some (.cells C 26 (0, 0))) :
    (execOp a.eval { dst := d, op := .load 26 (.tmp x), type := 26, pos := p, after := af, guard := gd }).run Tryd.prog w = .ok (.value (.agg C)) w := by
  have h := run_loadVar_row (P := Tryd.prog) w g 26 26 C (0, 0) _ hg Tryd.underlying26 rfl (by rw [hs]; exact info_va)
  simp [execOp, hx, Instr.loadAt, Instr.sureAddr, Sem.run_bind, Result.andThen, h]
theorem ak_not {b : Bool} (hx : a.eval (.tmp x) = .bool b) :
    (execOp a.eval { dst := d, op := .unOp .not 4 (.tmp x), type := r, pos := p, after := af, guard := gd }).run Tryd.prog w = .ok (.value (.bool !b)) w := by
  generalize a.eval = f at *
  go_simp
theorem ak_gtz {v : Int} {b : Bool} (hx : a.eval (.tmp x) = .int .i64 v) (hb : decide (0 < v) = b) :
    (execOp a.eval { dst := d, op := .binOp .gtr 3 (.tmp x) (.const (.int .i64 0)) 3, type := r, pos := p, after := af, guard := gd }).run Tryd.prog w = .ok (.value (.bool b)) w := by
  have h0 : a.eval (.const (.int .i64 0)) = .int .i64 0 := rfl
  subst hb
  generalize a.eval = f at *
  go_simp
theorem re_amqprim_widest {ts : Array TypeId} {u : Value} (hx : a.eval (.tmp x) = u) :
    (execOp a.eval { dst := d, op := .call { callee := .value (.func 33), args := #[.tmp x], argTypes := ts }, type := r, pos := p, after := af, guard := gd }).run Tryd.prog w = .ok (.enter 33 #[u]) w := by
  have hf : a.eval (.func 33) = .func (.func 33) #[] #[] := rfl
  generalize a.eval = f at *
  go_simp
theorem re_amqprim_room {ts : Array TypeId} {u v : Value} (hx : a.eval (.tmp x) = u) (hy : a.eval (.tmp y) = v) :
    (execOp a.eval { dst := d, op := .call { callee := .value (.func 32), args := #[.tmp x, .tmp y], argTypes := ts }, type := r, pos := p, after := af, guard := gd }).run Tryd.prog w = .ok (.enter 32 #[u, v]) w := by
  have hf : a.eval (.func 32) = .func (.func 32) #[] #[] := rfl
  generalize a.eval = f at *
  go_simp
theorem re_amqprim_numberOf {ts : Array TypeId} {u v : Value} (hx : a.eval (.tmp x) = u) (hy : a.eval (.tmp y) = v) :
    (execOp a.eval { dst := d, op := .call { callee := .value (.func 34), args := #[.tmp x, .tmp y], argTypes := ts }, type := r, pos := p, after := af, guard := gd }).run Tryd.prog w = .ok (.enter 34 #[u, v]) w := by
  have hf : a.eval (.func 34) = .func (.func 34) #[] #[] := rfl
  generalize a.eval = f at *
  go_simp
end
set_option maxRecDepth 100000 in
set_option maxHeartbeats 4000000 in
theorem chk_room {Q : Exit → Act → World → Prop} {S : World → Prop} {W : World} {g : Nat} {k : Int} {C D : Array Value} {x0 x3 x4 x5 x6 x7 x8 x9 x10 x11 x12 x13 x14 x15 x16 x17 x18 x19 x20 x21 x22 x23 x24 x25 x26 x27 x28 x29 x30 x31 x32 x33 x34 x35 x36 x37 x38 x39 x40 x41 x42 x43 x44 : Value}
    (hS : S W.drew) (hC : C.size = 4) (KR : ∀ w, S w → w.heap[g]? = some (.cells C 26 (0, 0))) (K0 : ∀ w, S w → w.cell? ⟨g, 0, none⟩ = some (.int .i64 k))
    (WD : ∀ w, S w → Calls Tryd.prog 33 #[.int .i64 k] w fun e w' => e = .returned (.agg D) ∧ S w')
    (RM : ∀ w, S w → Calls Tryd.prog 32 #[.agg D, .agg C] w fun e w' => e = .returned (.bool false) ∧ S w')
    (fin : ∀ w, S w → Q .normal ⟨#[x0, (.pointer (some ⟨g, 0, none⟩)), (.int .i64 0), x3, x4, x5, x6, x7, x8, x9, x10, x11, (.bool true), (.pointer (some ⟨g, 0, none⟩)), (.int .i64 k), (.agg D), (.agg C), (.bool false), (.bool true), (.bool true), undef, undef, undef, undef, undef, undef, (.bool true), (.bool true), undef, undef, undef, undef, (.bool true), x33, x34, x35, x36, x37, x38, x39, x40, x41, x42, x43, x44], []⟩ w) :
    (Code.region 3 (RegEnv.opsAt 3 Tryd.f12.body) true).wp Tryd.prog Q ⟨#[x0, (.pointer (some ⟨g, 0, none⟩)), (.int .i64 0), x3, x4, x5, x6, x7, x8, x9, x10, x11, x12, x13, x14, x15, x16, x17, x18, x19, x20, x21, x22, x23, x24, x25, x26, x27, x28, x29, x30, x31, x32, x33, x34, x35, x36, x37, x38, x39, x40, x41, x42, x43, x44], []⟩ W := by
  refine RegEnv.wp_in (ds := [13, 14, 15, 16, 17, 18, 19, 20, 21, 22, 23, 24, 25, 26, 27, 28, 29, 30, 31, 32, 12]) (A := [x0, (.pointer (some ⟨g, 0, none⟩)), (.int .i64 0), x3, x4, x5, x6, x7, x8, x9, x10, x11, x12, x13, x14, x15, x16, x17, x18, x19, x20, x21, x22, x23, x24, x25, x26, x27, x28, x29, x30, x31, x32, x33, x34, x35, x36, x37, x38, x39, x40, x41, x42, x43, x44]) (B := [x0, (.pointer (some ⟨g, 0, none⟩)), (.int .i64 0), x3, x4, x5, x6, x7, x8, x9, x10, x11, (.bool true), (.pointer (some ⟨g, 0, none⟩)), (.int .i64 k), (.agg D), (.agg C), (.bool false), (.bool true), (.bool true), undef, undef, undef, undef, undef, undef, (.bool true), (.bool true), undef, undef, undef, undef, (.bool true), x33, x34, x35, x36, x37, x38, x39, x40, x41, x42, x43, x44]) (D := []) (by kernel_rfl) (by kernel_rfl) (by kernel_rfl) ?_ hS ?_ fin
  · exact (by repeat (first | exact trivial | refine ⟨.inr rfl, ?_⟩ | refine ⟨.inl rfl, ?_⟩))
  refine RegEnv.All.step rfl (RegEnv.Does.pure rfl rfl rfl (fun w hS => ak_f0 rfl)) ?_
  refine RegEnv.All.step rfl (RegEnv.Does.pure rfl rfl rfl (fun w hS => ak_int rfl (K0 w hS))) ?_
  refine RegEnv.All.step rfl (RegEnv.Does.call rfl rfl rfl (fun w => re_amqprim_widest rfl) WD) ?_
  refine RegEnv.All.step rfl (RegEnv.Does.pure rfl rfl rfl (fun w hS => ak_row rfl hC (KR w hS))) ?_
  refine RegEnv.All.step rfl (RegEnv.Does.call rfl rfl rfl (fun w => re_amqprim_room rfl rfl) RM) ?_
  refine RegEnv.All.step rfl (RegEnv.Does.pure rfl rfl rfl (fun w hS => ak_not (b := false) rfl)) ?_
  refine RegEnv.All.step rfl (RegEnv.Does.pure rfl rfl rfl (fun w hS => rfl)) ?_
  refine RegEnv.All.step rfl (RegEnv.Does.skip rfl rfl rfl) ?_
  refine RegEnv.All.step rfl (RegEnv.Does.skip rfl rfl rfl) ?_
  refine RegEnv.All.step rfl (RegEnv.Does.skip rfl rfl rfl) ?_
  refine RegEnv.All.step rfl (RegEnv.Does.skip rfl rfl rfl) ?_
  refine RegEnv.All.step rfl (RegEnv.Does.skip rfl rfl rfl) ?_
  refine RegEnv.All.step rfl (RegEnv.Does.skip rfl rfl rfl) ?_
  refine RegEnv.All.step rfl (RegEnv.Does.pure rfl rfl rfl (fun w hS => rfl)) ?_
  refine RegEnv.All.step rfl (RegEnv.Does.pure rfl rfl rfl (fun w hS => rfl)) ?_
  refine RegEnv.All.step rfl (RegEnv.Does.skip rfl rfl rfl) ?_
  refine RegEnv.All.step rfl (RegEnv.Does.skip rfl rfl rfl) ?_
  refine RegEnv.All.step rfl (RegEnv.Does.skip rfl rfl rfl) ?_
  refine RegEnv.All.step rfl (RegEnv.Does.skip rfl rfl rfl) ?_
  refine RegEnv.All.step rfl (RegEnv.Does.pure rfl rfl rfl (fun w hS => rfl)) ?_
  refine RegEnv.All.step rfl (RegEnv.Does.pure rfl rfl rfl (fun w hS => rfl)) ?_
  exact RegEnv.All.fin rfl
set_option maxRecDepth 100000 in
set_option maxHeartbeats 4000000 in
theorem chk_num {Q : Exit → Act → World → Prop} {S : World → Prop} {W : World} {g : Nat} {k n : Int} {C D : Array Value} {x0 x3 x4 x5 x6 x7 x8 x9 x10 x11 x12 x13 x14 x15 x16 x17 x18 x19 x20 x21 x22 x23 x24 x25 x26 x27 x28 x29 x30 x31 x32 x33 x34 x35 x36 x37 x38 x39 x40 x41 x42 x43 x44 : Value}
    (hS : S W.drew) (hC : C.size = 4) (KR : ∀ w, S w → w.heap[g]? = some (.cells C 26 (0, 0))) (K0 : ∀ w, S w → w.cell? ⟨g, 0, none⟩ = some (.int .i64 k)) (K1 : ∀ w, S w → w.cell? ⟨g, 1, none⟩ = some (.int .u64 n))
    (WD : ∀ w, S w → Calls Tryd.prog 33 #[.int .i64 k] w fun e w' => e = .returned (.agg D) ∧ S w')
    (RM : ∀ w, S w → Calls Tryd.prog 32 #[.agg D, .agg C] w fun e w' => e = .returned (.bool true) ∧ S w')
    (NM : ∀ w, S w → Calls Tryd.prog 34 #[.int .i64 k, .int .u64 n] w fun e w' => e = .returned (.bool false) ∧ S w')
    (fin : ∀ w, S w → Q .normal ⟨#[x0, (.pointer (some ⟨g, 0, none⟩)), (.int .i64 0), x3, x4, x5, x6, x7, x8, x9, x10, x11, (.bool true), (.pointer (some ⟨g, 0, none⟩)), (.int .i64 k), (.agg D), (.agg C), (.bool true), (.bool false), (.bool false), (.pointer (some ⟨g, 0, none⟩)), (.int .i64 k), (.pointer (some ⟨g, 1, none⟩)), (.int .u64 n), (.bool false), (.bool true), (.bool true), (.bool true), undef, undef, undef, undef, (.bool true), x33, x34, x35, x36, x37, x38, x39, x40, x41, x42, x43, x44], []⟩ w) :
    (Code.region 3 (RegEnv.opsAt 3 Tryd.f12.body) true).wp Tryd.prog Q ⟨#[x0, (.pointer (some ⟨g, 0, none⟩)), (.int .i64 0), x3, x4, x5, x6, x7, x8, x9, x10, x11, x12, x13, x14, x15, x16, x17, x18, x19, x20, x21, x22, x23, x24, x25, x26, x27, x28, x29, x30, x31, x32, x33, x34, x35, x36, x37, x38, x39, x40, x41, x42, x43, x44], []⟩ W := by
  refine RegEnv.wp_in (ds := [13, 14, 15, 16, 17, 18, 19, 20, 21, 22, 23, 24, 25, 26, 27, 28, 29, 30, 31, 32, 12]) (A := [x0, (.pointer (some ⟨g, 0, none⟩)), (.int .i64 0), x3, x4, x5, x6, x7, x8, x9, x10, x11, x12, x13, x14, x15, x16, x17, x18, x19, x20, x21, x22, x23, x24, x25, x26, x27, x28, x29, x30, x31, x32, x33, x34, x35, x36, x37, x38, x39, x40, x41, x42, x43, x44]) (B := [x0, (.pointer (some ⟨g, 0, none⟩)), (.int .i64 0), x3, x4, x5, x6, x7, x8, x9, x10, x11, (.bool true), (.pointer (some ⟨g, 0, none⟩)), (.int .i64 k), (.agg D), (.agg C), (.bool true), (.bool false), (.bool false), (.pointer (some ⟨g, 0, none⟩)), (.int .i64 k), (.pointer (some ⟨g, 1, none⟩)), (.int .u64 n), (.bool false), (.bool true), (.bool true), (.bool true), undef, undef, undef, undef, (.bool true), x33, x34, x35, x36, x37, x38, x39, x40, x41, x42, x43, x44]) (D := []) (by kernel_rfl) (by kernel_rfl) (by kernel_rfl) ?_ hS ?_ fin
  · exact (by repeat (first | exact trivial | refine ⟨.inr rfl, ?_⟩ | refine ⟨.inl rfl, ?_⟩))
  refine RegEnv.All.step rfl (RegEnv.Does.pure rfl rfl rfl (fun w hS => ak_f0 rfl)) ?_
  refine RegEnv.All.step rfl (RegEnv.Does.pure rfl rfl rfl (fun w hS => ak_int rfl (K0 w hS))) ?_
  refine RegEnv.All.step rfl (RegEnv.Does.call rfl rfl rfl (fun w => re_amqprim_widest rfl) WD) ?_
  refine RegEnv.All.step rfl (RegEnv.Does.pure rfl rfl rfl (fun w hS => ak_row rfl hC (KR w hS))) ?_
  refine RegEnv.All.step rfl (RegEnv.Does.call rfl rfl rfl (fun w => re_amqprim_room rfl rfl) RM) ?_
  refine RegEnv.All.step rfl (RegEnv.Does.pure rfl rfl rfl (fun w hS => ak_not (b := true) rfl)) ?_
  refine RegEnv.All.step rfl (RegEnv.Does.pure rfl rfl rfl (fun w hS => rfl)) ?_
  refine RegEnv.All.step rfl (RegEnv.Does.pure rfl rfl rfl (fun w hS => ak_f0 rfl)) ?_
  refine RegEnv.All.step rfl (RegEnv.Does.pure rfl rfl rfl (fun w hS => ak_int rfl (K0 w hS))) ?_
  refine RegEnv.All.step rfl (RegEnv.Does.pure rfl rfl rfl (fun w hS => ak_f1 rfl)) ?_
  refine RegEnv.All.step rfl (RegEnv.Does.pure rfl rfl rfl (fun w hS => ak_u64 rfl (K1 w hS))) ?_
  refine RegEnv.All.step rfl (RegEnv.Does.call rfl rfl rfl (fun w => re_amqprim_numberOf rfl rfl) NM) ?_
  refine RegEnv.All.step rfl (RegEnv.Does.pure rfl rfl rfl (fun w hS => ak_not (b := false) rfl)) ?_
  refine RegEnv.All.step rfl (RegEnv.Does.pure rfl rfl rfl (fun w hS => rfl)) ?_
  refine RegEnv.All.step rfl (RegEnv.Does.pure rfl rfl rfl (fun w hS => rfl)) ?_
  refine RegEnv.All.step rfl (RegEnv.Does.skip rfl rfl rfl) ?_
  refine RegEnv.All.step rfl (RegEnv.Does.skip rfl rfl rfl) ?_
  refine RegEnv.All.step rfl (RegEnv.Does.skip rfl rfl rfl) ?_
  refine RegEnv.All.step rfl (RegEnv.Does.skip rfl rfl rfl) ?_
  refine RegEnv.All.step rfl (RegEnv.Does.pure rfl rfl rfl (fun w hS => rfl)) ?_
  refine RegEnv.All.step rfl (RegEnv.Does.pure rfl rfl rfl (fun w hS => rfl)) ?_
  exact RegEnv.All.fin rfl
set_option maxRecDepth 100000 in
set_option maxHeartbeats 4000000 in
theorem chk_len {Q : Exit → Act → World → Prop} {S : World → Prop} {W : World} {g : Nat} {k n : Int} {C D : Array Value} {m c : Nat} {A : Option Addr} {z : Bool} {x0 x3 x4 x5 x6 x7 x8 x9 x10 x11 x12 x13 x14 x15 x16 x17 x18 x19 x20 x21 x22 x23 x24 x25 x26 x27 x28 x29 x30 x31 x32 x33 x34 x35 x36 x37 x38 x39 x40 x41 x42 x43 x44 : Value}
    (hS : S W.drew) (hC : C.size = 4) (KR : ∀ w, S w → w.heap[g]? = some (.cells C 26 (0, 0))) (K0 : ∀ w, S w → w.cell? ⟨g, 0, none⟩ = some (.int .i64 k)) (K1 : ∀ w, S w → w.cell? ⟨g, 1, none⟩ = some (.int .u64 n)) (K3 : ∀ w, S w → w.cell? ⟨g, 3, none⟩ = some (.slice A m c)) (hz : decide (0 < ((m : Nat) : Int)) = z)
    (WD : ∀ w, S w → Calls Tryd.prog 33 #[.int .i64 k] w fun e w' => e = .returned (.agg D) ∧ S w')
    (RM : ∀ w, S w → Calls Tryd.prog 32 #[.agg D, .agg C] w fun e w' => e = .returned (.bool true) ∧ S w')
    (NM : ∀ w, S w → Calls Tryd.prog 34 #[.int .i64 k, .int .u64 n] w fun e w' => e = .returned (.bool true) ∧ S w')
    (fin : ∀ w, S w → Q .normal ⟨#[x0, (.pointer (some ⟨g, 0, none⟩)), (.int .i64 0), x3, x4, x5, x6, x7, x8, x9, x10, x11, (.bool z), (.pointer (some ⟨g, 0, none⟩)), (.int .i64 k), (.agg D), (.agg C), (.bool true), (.bool false), (.bool false), (.pointer (some ⟨g, 0, none⟩)), (.int .i64 k), (.pointer (some ⟨g, 1, none⟩)), (.int .u64 n), (.bool true), (.bool false), (.bool false), (.bool false), (.pointer (some ⟨g, 3, none⟩)), (.slice A m c), (.int .i64 (m : Nat)), (.bool z), (.bool z), x33, x34, x35, x36, x37, x38, x39, x40, x41, x42, x43, x44], []⟩ w) :
    (Code.region 3 (RegEnv.opsAt 3 Tryd.f12.body) true).wp Tryd.prog Q ⟨#[x0, (.pointer (some ⟨g, 0, none⟩)), (.int .i64 0), x3, x4, x5, x6, x7, x8, x9, x10, x11, x12, x13, x14, x15, x16, x17, x18, x19, x20, x21, x22, x23, x24, x25, x26, x27, x28, x29, x30, x31, x32, x33, x34, x35, x36, x37, x38, x39, x40, x41, x42, x43, x44], []⟩ W := by
  refine RegEnv.wp_in (ds := [13, 14, 15, 16, 17, 18, 19, 20, 21, 22, 23, 24, 25, 26, 27, 28, 29, 30, 31, 32, 12]) (A := [x0, (.pointer (some ⟨g, 0, none⟩)), (.int .i64 0), x3, x4, x5, x6, x7, x8, x9, x10, x11, x12, x13, x14, x15, x16, x17, x18, x19, x20, x21, x22, x23, x24, x25, x26, x27, x28, x29, x30, x31, x32, x33, x34, x35, x36, x37, x38, x39, x40, x41, x42, x43, x44]) (B := [x0, (.pointer (some ⟨g, 0, none⟩)), (.int .i64 0), x3, x4, x5, x6, x7, x8, x9, x10, x11, (.bool z), (.pointer (some ⟨g, 0, none⟩)), (.int .i64 k), (.agg D), (.agg C), (.bool true), (.bool false), (.bool false), (.pointer (some ⟨g, 0, none⟩)), (.int .i64 k), (.pointer (some ⟨g, 1, none⟩)), (.int .u64 n), (.bool true), (.bool false), (.bool false), (.bool false), (.pointer (some ⟨g, 3, none⟩)), (.slice A m c), (.int .i64 (m : Nat)), (.bool z), (.bool z), x33, x34, x35, x36, x37, x38, x39, x40, x41, x42, x43, x44]) (D := []) (by kernel_rfl) (by kernel_rfl) (by kernel_rfl) ?_ hS ?_ fin
  · exact (by repeat (first | exact trivial | refine ⟨.inr rfl, ?_⟩ | refine ⟨.inl rfl, ?_⟩))
  refine RegEnv.All.step rfl (RegEnv.Does.pure rfl rfl rfl (fun w hS => ak_f0 rfl)) ?_
  refine RegEnv.All.step rfl (RegEnv.Does.pure rfl rfl rfl (fun w hS => ak_int rfl (K0 w hS))) ?_
  refine RegEnv.All.step rfl (RegEnv.Does.call rfl rfl rfl (fun w => re_amqprim_widest rfl) WD) ?_
  refine RegEnv.All.step rfl (RegEnv.Does.pure rfl rfl rfl (fun w hS => ak_row rfl hC (KR w hS))) ?_
  refine RegEnv.All.step rfl (RegEnv.Does.call rfl rfl rfl (fun w => re_amqprim_room rfl rfl) RM) ?_
  refine RegEnv.All.step rfl (RegEnv.Does.pure rfl rfl rfl (fun w hS => ak_not (b := true) rfl)) ?_
  refine RegEnv.All.step rfl (RegEnv.Does.pure rfl rfl rfl (fun w hS => rfl)) ?_
  refine RegEnv.All.step rfl (RegEnv.Does.pure rfl rfl rfl (fun w hS => ak_f0 rfl)) ?_
  refine RegEnv.All.step rfl (RegEnv.Does.pure rfl rfl rfl (fun w hS => ak_int rfl (K0 w hS))) ?_
  refine RegEnv.All.step rfl (RegEnv.Does.pure rfl rfl rfl (fun w hS => ak_f1 rfl)) ?_
  refine RegEnv.All.step rfl (RegEnv.Does.pure rfl rfl rfl (fun w hS => ak_u64 rfl (K1 w hS))) ?_
  refine RegEnv.All.step rfl (RegEnv.Does.call rfl rfl rfl (fun w => re_amqprim_numberOf rfl rfl) NM) ?_
  refine RegEnv.All.step rfl (RegEnv.Does.pure rfl rfl rfl (fun w hS => ak_not (b := true) rfl)) ?_
  refine RegEnv.All.step rfl (RegEnv.Does.pure rfl rfl rfl (fun w hS => rfl)) ?_
  refine RegEnv.All.step rfl (RegEnv.Does.pure rfl rfl rfl (fun w hS => rfl)) ?_
  refine RegEnv.All.step rfl (RegEnv.Does.pure rfl rfl rfl (fun w hS => ak_f3 rfl)) ?_
  refine RegEnv.All.step rfl (RegEnv.Does.pure rfl rfl rfl (fun w hS => ak_items rfl (K3 w hS))) ?_
  refine RegEnv.All.step rfl (RegEnv.Does.pure rfl rfl rfl (fun w hS => ak_len rfl)) ?_
  refine RegEnv.All.step rfl (RegEnv.Does.pure rfl rfl rfl (fun w hS => ak_gtz rfl hz)) ?_
  refine RegEnv.All.step rfl (RegEnv.Does.pure rfl rfl rfl (fun w hS => rfl)) ?_
  refine RegEnv.All.step rfl (RegEnv.Does.pure rfl rfl rfl (fun w hS => rfl)) ?_
  exact RegEnv.All.fin rfl
end Go.Proofs.YtjbgnlnchchgcaaDoor
