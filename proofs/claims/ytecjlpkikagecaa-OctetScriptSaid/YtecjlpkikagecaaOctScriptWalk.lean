/-
  The walk of OctetScript. No condition but its arguments' own.
-/
import Derived.Test.YtecjlpkikagecaaOctOps
import Derived.Test.YtecjlpkikagecaaLawKit
namespace Go.Proofs.Ytecjlpkikagecaa
open Go.RowKit

theorem quiet_same {P : Program} {f : FuncId} {args : Array Value} {w : World} {n : Nat} {v : Value}
    (h : Calls P f args (w.drewN n) fun e w' => e = .returned v ∧ w.drewN n = w') : Calls P f args (w.drewN n) fun e w'' => e = .returned v ∧ ∃ m, w'' = w.drewN m :=
  h.mono fun _ _ ⟨he, hm⟩ => ⟨he, n, hm.symm⟩
def Sc (w W : World) (B D : Nat) (s : ByteArray) (i : Nat) (e : Int) (j : Nat) (f : Int) : Prop :=
  Below w.heap.size w W ∧ w.heap.size ≤ B ∧ w.heap.size ≤ D ∧ B ≠ D ∧ Cur W B s i e ∧ Ref W D s j f

section
variable {w W W' : World} {B D : Nat} {s : ByteArray} {i j i' j' : Nat} {e f e' f' : Int} {g : FuncId} {args : Array Value} {v : Value}
theorem Sc.draws (h : Sc w W B D s i e j f) (n : Nat) : Sc w (W.drewN n) B D s i e j f := ⟨below_draws h.1 n, h.2.1, h.2.2.1, h.2.2.2.1, h.2.2.2.2.1, h.2.2.2.2.2⟩
theorem sc_cur (h : Sc w W B D s i e j f) (hcall : Calls Try.prog g args W fun x W' => x = .returned v ∧ Cur W' B s i' e' ∧ W.grownBy W' (some B)) :
    Calls Try.prog g args W fun x W' => x = .returned v ∧ Sc w W' B D s i' e' j f := hcall.mono fun _ _ ⟨hx, hc, hg⟩ =>
  ⟨hx, h.1.grown hg h.1.size (fun k hk => by cases hk; exact h.2.1), h.2.1, h.2.2.1, h.2.2.2.1, hc, h.2.2.2.2.2.of_block (hg.block D h.2.2.2.2.2.lt (fun e => h.2.2.2.1 (by injection e with e; exact e.symm)))⟩
theorem sc_ref (h : Sc w W B D s i e j f) (hcall : Calls Try.prog g args W fun x W' => x = .returned v ∧ Ref W' D s j' f' ∧ W.grownBy W' (some D)) :
    Calls Try.prog g args W fun x W' => x = .returned v ∧ Sc w W' B D s i e j' f' := hcall.mono fun _ _ ⟨hx, hc, hg⟩ =>
  ⟨hx, h.1.grown hg h.1.size (fun k hk => by cases hk; exact h.2.2.1), h.2.1, h.2.2.1, h.2.2.2.1, h.2.2.2.2.1.of_block (hg.block B h.2.2.2.2.1.lt (fun e => h.2.2.2.1 (by injection e))), hc⟩
theorem sc_quiet (h : Sc w W B D s i e j f) (hcall : Calls Try.prog g args W fun x W' => x = .returned v ∧ ∃ n, W' = W.drewN n) :
    Calls Try.prog g args W fun x W' => x = .returned v ∧ Sc w W' B D s i e j f := hcall.mono fun _ _ ⟨hx, n, hw⟩ => ⟨hx, hw ▸ h.draws n⟩
end

theorem sc_new {w W : World} {B : Nat} {s : ByteArray} {i : Nat} {e : Int} (h : St w W B s i e) : Calls Try.prog 19 #[.string s] W fun x W' => ∃ D, x = .returned (.pointer (some ⟨D, 0, none⟩)) ∧ Sc w W' B D s i e 0 0 :=
  (ref_new s W).mono fun _ _ ⟨hx, hc, hb⟩ => ⟨_, hx, h.1.trans (hb.mono h.1.size), h.2.1, h.1.size, Nat.ne_of_lt h.2.2.lt, h.2.2.of_block (hb.block B h.2.2.lt), hc⟩

def ScriptAt (w : World) (B D : Nat) (s : ByteArray) (wr : World) : Prop := ∃ (j : Nat) (e : Int), j ≤ s.size ∧ Sc w wr B D s j e j e

set_option maxRecDepth 100000 in
set_option maxHeartbeats 1000000 in
theorem script_round (w : World) (s : ByteArray) (A : Option Addr) (n cap : Nat) (ks zs : Nat → Int) (hs : s.size ≤ 200) (hn : n ≤ 60)
    (hz : 0 < n → ∃ a, A = some a ∧ a.block < w.heap.size ∧ ∀ i, i < n → w.cell? (a.add (i * 2)) = some (.int .i64 (ks i)) ∧ w.cell? ((a.add (i * 2)).add 1) = some (.int .i64 (zs i))) :
    Calls Try.prog 4 #[.string s, .slice A n cap] w fun e w' => e = .returned (.bool true) ∧ Below w.heap.size w w' := by
  have HZ := Lib.hid hz
  clear hz
  go_enter Try.func4, Try.ntmps4
  go_wp2_with fail
  refine (lives_any _).mono ?_
  rintro e W ⟨rfl, h⟩
  go_wp2_with fail
  refine (st_new h _).mono ?_
  rintro e W ⟨B, rfl, h⟩
  go_wp2_with fail
  refine (sc_new h).mono ?_
  rintro e W ⟨D, rfl, h⟩
  go_wp2_with fail
  go_loopw [7] (fun i wr => ∃ k : Nat, k ≤ n ∧ i = .int .i64 k ∧ ScriptAt w B D s wr) (fun i _ => n - (intOf i).toNat)
  case atStart => exact ⟨0, Nat.zero_le _, rfl, 0, 0, Nat.zero_le _, h⟩
  case round =>
    obtain ⟨k, hk, rfl, j, e, hj, hst⟩ := hrel
    by_cases hlt : k < n
    · obtain ⟨a, rfl, hab, hcell⟩ := HZ.out (by omega)
      have hx1 : wr.cell? (a.add (k * 2)) = some (.int .i64 (ks k)) := by
        rw [hst.1.cell (p := a.add (k * 2)) (by rw [add_block]; exact hab)]; exact (hcell k hlt).1
      have hx2 : wr.cell? ⟨(a.add (k * 2)).block, (a.add (k * 2)).off + 1, none⟩ = some (.int .i64 (zs k)) := by
        rw [hst.1.cell (p := ⟨(a.add (k * 2)).block, (a.add (k * 2)).off + 1, none⟩) (by rw [add_block]; exact hab)]; exact (hcell k hlt).2
      clear hcell
      generalize zs k = z at hx2
      generalize ks k = t at hx1
      go_wp2_with fail
      refine (pick_any t 4 _ (by decide) (by decide)).mono ?_
      rintro e' W1 ⟨rfl, rfl⟩
      have ht : t % 4 = 0 ∨ t % 4 = 1 ∨ t % 4 = 2 ∨ t % 4 = 3 := by omega
      rcases ht with ht | ht | ht | ht <;> rw [ht]
      · skip
        go_wp2_with fail
        refine (sc_cur hst (take_all z hst.2.2.2.2.1 (by omega) (by omega))).mono ?_
        rintro e' W ⟨rfl, hst⟩
        go_wp2_with fail
        refine (sc_ref hst (ref_take_all z hst.2.2.2.2.2 (by omega) (by omega))).mono ?_
        rintro e' W ⟨rfl, hst⟩
        go_wp2_with fail
        have hjj : (ti s j e z) ≤ s.size := by first | exact ti_le _ _ _ _ hj | exact hj
        have r1 := hst.2.2.2.2.2.c1
        have r2 := hst.2.2.2.2.2.c2
        have hc := hst.2.2.2.2.1
        have hd := hst.2.2.2.2.2
        go_quiet (first
          | (go_at_call 14; exact quiet_same (at_yes (hc.draws _)))
          | (go_at_call 15; exact Calls.quiet_of (left_yes (hc.draws _) hjj (by omega)))
          | (go_at_call 25; exact Calls.quiet_of (ref_left (hd.draws _) hjj (by omega)))
          | (go_at_call 16; exact Calls.quiet_of (rest_yes (hc.draws _) hjj (by omega)))
          | (go_at_call 26; exact Calls.quiet_of (ref_rest (hd.draws _) hjj))
          | (go_at_call 12; exact quiet_same (err_yes (hc.draws _))))
        go_wp2
        go_roundw
        case rel => exact ⟨k + 1, by omega, by go_num, (ti s j e z), (te s j e z), hjj, hst.draws _⟩
        case measure => simp [intOf]; omega
      · skip
        go_wp2_with fail
        refine (sc_cur hst (number_all z hst.2.2.2.2.1 (by omega) (by omega))).mono ?_
        rintro e' W ⟨rfl, hst⟩
        go_wp2_with fail
        refine (sc_ref hst (ref_number_all z hst.2.2.2.2.2 (by omega) (by omega))).mono ?_
        rintro e' W ⟨rfl, hst⟩
        go_wp2_with fail
        have hjj : (ti s j e z) ≤ s.size := by first | exact ti_le _ _ _ _ hj | exact hj
        have r1 := hst.2.2.2.2.2.c1
        have r2 := hst.2.2.2.2.2.c2
        have hc := hst.2.2.2.2.1
        have hd := hst.2.2.2.2.2
        go_quiet (first
          | (go_at_call 14; exact quiet_same (at_yes (hc.draws _)))
          | (go_at_call 15; exact Calls.quiet_of (left_yes (hc.draws _) hjj (by omega)))
          | (go_at_call 25; exact Calls.quiet_of (ref_left (hd.draws _) hjj (by omega)))
          | (go_at_call 16; exact Calls.quiet_of (rest_yes (hc.draws _) hjj (by omega)))
          | (go_at_call 26; exact Calls.quiet_of (ref_rest (hd.draws _) hjj))
          | (go_at_call 12; exact quiet_same (err_yes (hc.draws _))))
        go_wp2
        go_roundw
        case rel => exact ⟨k + 1, by omega, by go_num, (ti s j e z), (te s j e z), hjj, hst.draws _⟩
        case measure => simp [intOf]; omega
      · skip
        go_wp2_with fail
        refine (sc_quiet hst (peek_all z hst.2.2.2.2.1 (by omega) (by omega))).mono ?_
        rintro e' W ⟨rfl, hst⟩
        go_wp2_with fail
        refine (sc_quiet hst (ref_peek_all z hst.2.2.2.2.2 (by omega) (by omega))).mono ?_
        rintro e' W ⟨rfl, hst⟩
        go_wp2_with fail
        have hjj : j ≤ s.size := by first | exact ti_le _ _ _ _ hj | exact hj
        have r1 := hst.2.2.2.2.2.c1
        have r2 := hst.2.2.2.2.2.c2
        have hc := hst.2.2.2.2.1
        have hd := hst.2.2.2.2.2
        go_quiet (first
          | (go_at_call 14; exact quiet_same (at_yes (hc.draws _)))
          | (go_at_call 15; exact Calls.quiet_of (left_yes (hc.draws _) hjj (by omega)))
          | (go_at_call 25; exact Calls.quiet_of (ref_left (hd.draws _) hjj (by omega)))
          | (go_at_call 16; exact Calls.quiet_of (rest_yes (hc.draws _) hjj (by omega)))
          | (go_at_call 26; exact Calls.quiet_of (ref_rest (hd.draws _) hjj))
          | (go_at_call 12; exact quiet_same (err_yes (hc.draws _))))
        go_wp2
        go_roundw
        case rel => exact ⟨k + 1, by omega, by go_num, j, e, hjj, hst.draws _⟩
        case measure => simp [intOf]; omega
      · skip
        go_wp2_with fail
        refine (sc_cur hst (fail_all z hst.2.2.2.2.1)).mono ?_
        rintro e' W ⟨rfl, hst⟩
        go_wp2_with fail
        refine (sc_ref hst (ref_fail_all z hst.2.2.2.2.2)).mono ?_
        rintro e' W ⟨rfl, hst⟩
        go_wp2_with fail
        have hjj : j ≤ s.size := by first | exact ti_le _ _ _ _ hj | exact hj
        have r1 := hst.2.2.2.2.2.c1
        have r2 := hst.2.2.2.2.2.c2
        have hc := hst.2.2.2.2.1
        have hd := hst.2.2.2.2.2
        go_quiet (first
          | (go_at_call 14; exact quiet_same (at_yes (hc.draws _)))
          | (go_at_call 15; exact Calls.quiet_of (left_yes (hc.draws _) hjj (by omega)))
          | (go_at_call 25; exact Calls.quiet_of (ref_left (hd.draws _) hjj (by omega)))
          | (go_at_call 16; exact Calls.quiet_of (rest_yes (hc.draws _) hjj (by omega)))
          | (go_at_call 26; exact Calls.quiet_of (ref_rest (hd.draws _) hjj))
          | (go_at_call 12; exact quiet_same (err_yes (hc.draws _))))
        go_wp2
        go_roundw
        case rel => exact ⟨k + 1, by omega, by go_num, j, (fe e z), hjj, hst.draws _⟩
        case measure => simp [intOf]; omega
    · go_wp2_with fail
      go_ret
      exact ⟨rfl, hst.1⟩
end Go.Proofs.Ytecjlpkikagecaa
