/-
  OctetNames answers true: the examples of the chapter have the results that it states; the error of a cursor stays; an invalid cursor. No condition.
-/
import Derived.Test.YtecjlpkikagecaaOctLive
import Derived.Test.YtecjlpkikagecaaLawKit
namespace Go.Proofs.Ytecjlpkikagecaa
open Go.ChangeShapes Go.WideShapes Go.ChangeAt Go.RowKit

/-- Since w the call has made cursor B, and turned nothing that was there. -/
def St (w W : World) (B : Nat) (s : ByteArray) (i : Nat) (e : Int) : Prop := Below w.heap.size w W ∧ w.heap.size ≤ B ∧ Cur W B s i e
def St2 (w W : World) (B : Nat) (s : ByteArray) (i : Nat) (e : Int) (D : Nat) (t : ByteArray) (j : Nat) (f : Int) : Prop := St w W B s i e ∧ St w W D t j f ∧ B ≠ D

section
variable {w W W' : World} {B D : Nat} {s t : ByteArray} {i i' j j' : Nat} {e e2 f f2 : Int} {g : FuncId} {args : Array Value} {v v' : Value}
theorem below_draws {B : Nat} {a b : World} (h : Below B a b) (n : Nat) : Below B a (b.drewN n) := ⟨h.os, h.tape, h.output, h.size, h.block⟩
theorem St.draws (h : St w W B s i e) (n : Nat) : St w (W.drewN n) B s i e := ⟨below_draws h.1 n, h.2.1, h.2.2.draws n⟩
theorem St.step (h : St w W B s i e) (hc : Cur W' B s i' e2) (hg : W.grownBy W' (some B)) : St w W' B s i' e2 :=
  ⟨h.1.grown hg h.1.size (fun k hk => by cases hk; exact h.2.1), h.2.1, hc⟩
theorem St.other (h : St w W B s i e) (hD : w.heap.size ≤ D) (hne : B ≠ D) (hg : W.grownBy W' (some D)) : St w W' B s i e :=
  ⟨h.1.grown hg h.1.size (fun k hk => by cases hk; exact hD), h.2.1, h.2.2.of_block (hg.block B h.2.2.lt (fun e => hne (by injection e)))⟩
theorem St.below (h : St w W B s i e) (hb : Below W.heap.size W W') : St w W' B s i e :=
  ⟨h.1.trans (hb.mono h.1.size), h.2.1, h.2.2.of_block (hb.block B h.2.2.lt)⟩

theorem st_new (h : Below w.heap.size w W) (s : ByteArray) : Calls Try.prog 8 #[.string s] W fun e W' => ∃ B, e = .returned (.pointer (some ⟨B, 0, none⟩)) ∧ St w W' B s 0 0 :=
  (new_any s W).mono fun _ _ ⟨he, hc, hb, _⟩ => ⟨_, he, h.trans (hb.mono h.size), h.size, hc⟩
theorem st_new2 (h : St w W B s i e) (t : ByteArray) : Calls Try.prog 8 #[.string t] W fun e' W' => ∃ D, e' = .returned (.pointer (some ⟨D, 0, none⟩)) ∧ St2 w W' B s i e D t 0 0 :=
  (new_any t W).mono fun _ _ ⟨he, hc, hb, _⟩ => ⟨_, he, h.below hb, ⟨h.1.trans (hb.mono h.1.size), h.1.size, hc⟩, Nat.ne_of_lt h.2.2.lt⟩
theorem st_mut (h : St w W B s i e) (hv : v = v') (hcall : Calls Try.prog g args W fun e' W' => e' = .returned v ∧ Cur W' B s i' e2 ∧ W.grownBy W' (some B)) :
    Calls Try.prog g args W fun e' W' => e' = .returned v' ∧ St w W' B s i' e2 := hcall.mono fun _ _ ⟨he, hc, hg⟩ => ⟨hv ▸ he, h.step hc hg⟩
theorem st_quiet (h : St w W B s i e) (hv : v = v') (hcall : Calls Try.prog g args W fun e' W' => e' = .returned v ∧ ∃ n, W' = W.drewN n) :
    Calls Try.prog g args W fun e' W' => e' = .returned v' ∧ St w W' B s i e := hcall.mono fun _ _ ⟨he, n, hw⟩ => ⟨hv ▸ he, hw ▸ h.draws n⟩
theorem st_same (h : St w W B s i e) (hv : v = v') (hcall : Calls Try.prog g args W fun e' W' => e' = .returned v ∧ W = W') :
    Calls Try.prog g args W fun e' W' => e' = .returned v' ∧ St w W' B s i e := hcall.mono fun _ _ ⟨he, hw⟩ => ⟨hv ▸ he, hw ▸ h⟩
theorem st_mutD (h : St2 w W B s i e D t j f) (hv : v = v') (hcall : Calls Try.prog g args W fun e' W' => e' = .returned v ∧ Cur W' D t j' f2 ∧ W.grownBy W' (some D)) :
    Calls Try.prog g args W fun e' W' => e' = .returned v' ∧ St2 w W' B s i e D t j' f2 := hcall.mono fun _ _ ⟨he, hc, hg⟩ => ⟨hv ▸ he, h.1.other h.2.1.2.1 h.2.2 hg, h.2.1.step hc hg, h.2.2⟩
theorem st_quiet2 (h : St2 w W B s i e D t j f) (hv : v = v') (hcall : Calls Try.prog g args W fun e' W' => e' = .returned v ∧ ∃ n, W' = W.drewN n) :
    Calls Try.prog g args W fun e' W' => e' = .returned v' ∧ St2 w W' B s i e D t j f := hcall.mono fun _ _ ⟨he, n, hw⟩ => ⟨hv ▸ he, hw ▸ h.1.draws n, hw ▸ h.2.1.draws n, h.2.2⟩
theorem st_same2 (h : St2 w W B s i e D t j f) (hv : v = v') (hcall : Calls Try.prog g args W fun e' W' => e' = .returned v ∧ W = W') :
    Calls Try.prog g args W fun e' W' => e' = .returned v' ∧ St2 w W' B s i e D t j f := hcall.mono fun _ _ ⟨he, hw⟩ => ⟨hv ▸ he, hw ▸ h⟩
theorem bl_same (h : Below w.heap.size w W) (hv : v = v') (hcall : Calls Try.prog g args W fun e' W' => e' = .returned v ∧ W = W') :
    Calls Try.prog g args W fun e' W' => e' = .returned v' ∧ Below w.heap.size w W' := hcall.mono fun _ _ ⟨he, hw⟩ => ⟨hv ▸ he, hw ▸ h⟩
theorem bl_made (h : Below w.heap.size w W) (hv : v = v') (hcall : Calls Try.prog g args W fun e' W' => e' = .returned v ∧ Below W.heap.size W W') :
    Calls Try.prog g args W fun e' W' => e' = .returned v' ∧ Below w.heap.size w W' := hcall.mono fun _ _ ⟨he, hb⟩ => ⟨hv ▸ he, h.trans (hb.mono h.size)⟩
end

def S5 : ByteArray := ⟨#[1, 2, 3, 4, 5]⟩
def X1 : ByteArray := ⟨#[120]⟩
theorem S5_def : (⟨#[1, 2, 3, 4, 5]⟩ : ByteArray) = S5 := rfl
theorem X1_def : (⟨#[120]⟩ : ByteArray) = X1 := rfl

set_option maxRecDepth 100000 in
set_option maxHeartbeats 4000000 in
theorem names_walk (w : World) :
    Calls Try.prog 3 #[] w fun e w' => e = .returned (.bool true) ∧ Below w.heap.size w w' := by
  go_enter Try.func3, Try.ntmps3
  go_wp2_with fail
  refine (lives_any _).mono ?_
  rintro e W ⟨rfl, h⟩
  go_wp2_with fail
  rw [S5_def]
  refine (st_new h _).mono ?_
  rintro e W ⟨B, rfl, h⟩
  go_wp2_with fail
  refine (st_mut (v' := .string ⟨#[1]⟩) h (congrArg Value.string (by decide)) (take_ok 1 h.2.2 (by decide) (by decide))).mono ?_
  rintro e W ⟨rfl, h⟩
  go_wp2_with fail
  refine (st_mut (v' := .int .u64 515) h (congrArg (Value.int .u64) (by decide)) (number_ok 2 h.2.2 (by decide) (by decide))).mono ?_
  rintro e W ⟨rfl, h⟩
  go_wp2_with fail
  refine (st_quiet (v' := .string ⟨#[4, 5]⟩) h (congrArg Value.string (by decide)) (peek_ok 2 h.2.2 (by decide) (by decide))).mono ?_
  rintro e W ⟨rfl, h⟩
  go_wp2_with fail
  refine (st_quiet h rfl (peek_past 9 h.2.2 (by decide) (by decide) (by decide))).mono ?_
  rintro e W ⟨rfl, h⟩
  go_wp2_with fail
  refine (st_mut h rfl (take_past 3 h.2.2 (by decide) (by decide) (by decide))).mono ?_
  rintro e W ⟨rfl, h⟩
  go_wp2_with fail
  refine (st_same h rfl (err_yes h.2.2)).mono ?_
  rintro e W ⟨rfl, h⟩
  go_wp2_with fail
  refine (st_same h rfl (fail_no 5 h.2.2 (by decide))).mono ?_
  rintro e W ⟨rfl, h⟩
  go_wp2_with fail
  refine (st_same h rfl (take_err 1 h.2.2 (by decide))).mono ?_
  rintro e W ⟨rfl, h⟩
  go_wp2_with fail
  rw [X1_def]
  refine (st_new2 h _).mono ?_
  rintro e W ⟨D, rfl, h⟩
  go_wp2_with fail
  refine (st_mutD h rfl (fail_yes 0 h.2.1.2.2)).mono ?_
  rintro e W ⟨rfl, h⟩
  go_wp2_with fail
  refine (st_same2 h rfl (err_yes h.2.1.2.2)).mono ?_
  rintro e W ⟨rfl, h⟩
  go_wp2_with fail
  refine (st_mutD h rfl (fail_yes 5 h.2.1.2.2)).mono ?_
  rintro e W ⟨rfl, h⟩
  go_wp2_with fail
  refine (st_same2 h rfl (take_err (-1) h.2.1.2.2 (by decide))).mono ?_
  rintro e W ⟨rfl, h⟩
  go_wp2_with fail
  refine (st_same2 h rfl (fail_nil 5 _)).mono ?_
  rintro e W ⟨rfl, h⟩
  go_wp2_with fail
  refine (st_same2 h rfl (err_yes h.1.2.2)).mono ?_
  rintro e W ⟨rfl, h⟩
  go_wp2_with fail
  refine (st_same2 h rfl (at_yes h.1.2.2)).mono ?_
  rintro e W ⟨rfl, h⟩
  go_wp2_with fail
  refine (st_quiet2 (v' := .int .i64 2) h (congrArg (Value.int .i64) (by decide)) (left_yes h.1.2.2 (by decide) (by decide))).mono ?_
  rintro e W ⟨rfl, h⟩
  go_wp2_with fail
  refine (st_quiet2 (v' := .string ⟨#[4, 5]⟩) h (congrArg Value.string (by decide)) (rest_yes h.1.2.2 (by decide) (by decide))).mono ?_
  rintro e W ⟨rfl, h⟩
  go_wp2_with fail
  refine (st_quiet2 h rfl (peek_err 1 h.1.2.2 (by decide))).mono ?_
  rintro e W ⟨rfl, h⟩
  go_wp2_with fail
  refine (st_same2 h rfl (number_err 1 h.1.2.2 (by decide))).mono ?_
  rintro e W ⟨rfl, h⟩
  go_wp2_with fail
  refine (st_same2 h rfl (err_yes h.2.1.2.2)).mono ?_
  rintro e W ⟨rfl, h⟩
  go_wp2_with fail
  have hb := h.1.1
  clear h
  refine (bl_made (v' := .string ⟨#[]⟩) hb (congrArg Value.string (by decide)) (put_any 1 0 _ (by decide))).mono ?_
  rintro e W ⟨rfl, hb⟩
  go_wp2_with fail
  refine (bl_made (v' := .string ⟨#[]⟩) hb (congrArg Value.string (by decide)) (put_any 1 (-3) _ (by decide))).mono ?_
  rintro e W ⟨rfl, hb⟩
  go_wp2_with fail
  refine (bl_made (v' := .string ⟨#[0, 0, 0, 0, 0, 0, 0, 0, 0, 0, 0, 0, 0, 0, 0, 1]⟩) hb (congrArg Value.string (by decide)) (put_any 1 99 _ (by decide))).mono ?_
  rintro e W ⟨rfl, hb⟩
  go_wp2_with fail
  refine (bl_made (v' := .string ⟨#[255]⟩) hb (congrArg Value.string (by decide)) (put_any 511 1 _ (by decide))).mono ?_
  rintro e W ⟨rfl, hb⟩
  go_wp2_with fail
  refine (bl_same (v' := .int .u64 0) hb (congrArg (Value.int .u64) (by decide)) (get_of ⟨#[]⟩ _ (by decide))).mono ?_
  rintro e W ⟨rfl, hb⟩
  go_wp2_with fail
  refine (bl_same (v' := .int .u64 1) hb (congrArg (Value.int .u64) (by decide)) (get_of ⟨#[9, 0, 0, 0, 0, 0, 0, 0, 1]⟩ _ (by decide))).mono ?_
  rintro e W ⟨rfl, hb⟩
  go_wp2_with fail
  refine (bl_same hb rfl (take_nil 1 _)).mono ?_
  rintro e W ⟨rfl, hb⟩
  go_wp2_with fail
  refine (bl_same hb rfl (number_nil 1 _)).mono ?_
  rintro e W ⟨rfl, hb⟩
  go_wp2_with fail
  refine (bl_same hb rfl (peek_nil 1 _)).mono ?_
  rintro e W ⟨rfl, hb⟩
  go_wp2_with fail
  refine (bl_same hb rfl (at_nil _)).mono ?_
  rintro e W ⟨rfl, hb⟩
  go_wp2_with fail
  refine (bl_same hb rfl (left_nil _)).mono ?_
  rintro e W ⟨rfl, hb⟩
  go_wp2_with fail
  refine (bl_same hb rfl (rest_nil _)).mono ?_
  rintro e W ⟨rfl, hb⟩
  go_wp2_with fail
  refine (bl_same hb rfl (err_nil _)).mono ?_
  rintro e W ⟨rfl, hb⟩
  go_wp2_with fail
  go_ret
  exact ⟨rfl, hb⟩

set_option maxRecDepth 100000 in
theorem names_lifted (os : Os) (started : os.Started) (H : Type) (enc : TypeId × Value → H) :
    ReturnsInHanded {} Try.checked os 3 .any (Rows.octetNamesSpec.pre6 enc Try.prog Try.f3 Rows.octetNamesRow.domain false) (Rows.octetNamesSpec.post enc Try.prog Try.f3 false true false false) := by
  refine returnsInHanded_of_change (C := Try.checked) own started (by kernel_rfl) Try.func3
    (ChangeSpec.witness6 (enc := enc) (C := Try.checked) false ⟨#[], #[], []⟩ 8 (by kernel_rfl) (by kernel_rfl) (by kernel_rfl) (by kernel_rfl)) ?_
  intro W base args ds gs before hval0 hW hcnd _
  have hW' := hW
  obtain ⟨p, q, hA0, hV, rfl, hfz, hnd⟩ := hW
  have hA : DataW.TrodAll enc Try.prog W 0 (fun _ => true) true Try.f3.params.toList args.toList ds p := hA0
  rw [Try.params3] at hA
  obtain ⟨hargs, rfl, rfl⟩ := trodAll_nil hA
  obtain rfl : args = #[] := by cases args; simp_all
  obtain ⟨rfl, rfl⟩ := trodVars_none hV
  refine (names_walk W).mono fun e W' ⟨he, hb⟩ => ?_
  subst he
  exact ⟨_, rfl, law_post (tb := 4) laidOut (by decide +kernel) (by kernel_rfl) Try.underlying4 rfl hW' rfl hb⟩

theorem octetNames_holds : Rows.OctetNamesSaid :=
  OpenClaim.holds_of_wide 3 Try.f3 rfl rfl rfl rfl rfl rfl rfl ⟨rfl, rfl, rfl, rfl, rfl⟩ rfl rfl rfl rfl rfl (by kernel_rfl) Try.func3 (by kernel_rfl)
    (of_decide_eq_true (by kernel_rfl)) (by unfold Func.isWrapper; first | (rw [if_pos (by decide +kernel)]; kernel_rfl) | (rw [if_neg (by decide +kernel)]; exact ⟨rfl, rfl⟩))
    (fun os started H enc _ => names_lifted os started H enc)
end Go.Proofs.Ytecjlpkikagecaa
