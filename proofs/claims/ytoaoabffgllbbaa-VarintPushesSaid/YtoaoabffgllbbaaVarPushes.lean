/-
  VarintPushes answers true for every input: byte by byte a reader returns, and has, what the document says, also when it is restarted. No condition.
-/
import Derived.Test.YtoaoabffgllbbaaVarSt
import Derived.Test.YtoaoabffgllbbaaVarRefRd
import Derived.Test.YtoaoabffgllbbaaLawKit
import Derived.Deep.LoopGhost
namespace Go.Proofs.Ytoaoabffgllbbaa
open Go.ChangeShapes Go.WideShapes Go.ChangeAt Go.RowKit
open Go.ChangeMaps (open_string)

/-- Since w the call has made reader R and the reference's reader O, and turned nothing that was there. -/
def Two (w W : World) (R O v n st : Nat) (S : ByteArray) (E : Int) : Prop :=
  Below w.heap.size w W ∧ w.heap.size ≤ R ∧ w.heap.size ≤ O ∧ R ≠ O ∧ Rd W R v n st ∧ Rr W O S E

section
variable {w W W' : World} {R O v n st v' n' st' : Nat} {S S' : ByteArray} {E E' : Int} {g : FuncId} {args : Array Value} {x : Value}
theorem Two.rd (h : Two w W R O v n st S E) : Rd W R v n st := h.2.2.2.2.1
theorem Two.rr (h : Two w W R O v n st S E) : Rr W O S E := h.2.2.2.2.2
theorem two_new (h : VSt w W R v n st) : Calls Try.prog 20 #[] W fun x W' => ∃ O, x = .returned (.pointer (some ⟨O, 0, none⟩)) ∧ Two w W' R O v n st ⟨#[]⟩ 0 :=
  (rr_new W).mono fun _ _ ⟨hx, hc, hb⟩ => ⟨_, hx, h.1.trans (hb.mono h.1.size), h.2.1, h.1.size, Nat.ne_of_lt h.2.2.lt, h.2.2.of_block (hb.block R h.2.2.lt), hc⟩
theorem two_r (h : Two w W R O v n st S E) (hcall : Calls Try.prog g args W fun e W' => e = .returned x ∧ Rd W' R v' n' st' ∧ W.grownBy W' (some R)) :
    Calls Try.prog g args W fun e W' => e = .returned x ∧ Two w W' R O v' n' st' S E := hcall.mono fun _ _ ⟨he, hc, hg⟩ =>
  ⟨he, h.1.grown hg h.1.size (fun k hk => by cases hk; exact h.2.1), h.2.1, h.2.2.1, h.2.2.2.1, hc, h.rr.of_block (hg.block O h.rr.lt (fun e => h.2.2.2.1 (by injection e with e; exact e.symm)))⟩
theorem two_o (h : Two w W R O v n st S E) (hcall : Calls Try.prog g args W fun e W' => e = .returned x ∧ Rr W' O S' E' ∧ W.grownBy W' (some O)) :
    Calls Try.prog g args W fun e W' => e = .returned x ∧ Two w W' R O v n st S' E' := hcall.mono fun _ _ ⟨he, hc, hg⟩ =>
  ⟨he, h.1.grown hg h.1.size (fun k hk => by cases hk; exact h.2.2.1), h.2.1, h.2.2.1, h.2.2.2.1, h.rd.of_block (hg.block R h.rd.lt (fun e => h.2.2.2.1 (by injection e))), hc⟩
theorem two_same (h : Two w W R O v n st S E) (hcall : Calls Try.prog g args W fun e W' => e = .returned x ∧ W = W') :
    Calls Try.prog g args W fun e W' => e = .returned x ∧ Two w W' R O v n st S E := hcall.mono fun _ _ ⟨he, hw⟩ => ⟨he, hw ▸ h⟩
end
theorem rr_size_of {w : World} {b n : Nat} {s : ByteArray} {e : Int} (hc : Rr w b s e) (h : s.size = n) :
    Calls Try.prog 24 #[.pointer (some ⟨b, 0, none⟩)] w fun e' w' => e' = .returned (.int .i64 n) ∧ w = w' := by
  subst h; exact rr_size hc

/-- Both readers have taken the same bytes. -/
def PuAt (w : World) (R O : Nat) (W : World) : Prop := ∃ (v n st : Nat) (S : ByteArray), Two w W R O v n st S (if st = 2 then 5 else 0) ∧ run 0 0 S.data.toList = (v, n, st) ∧ S.size = n ∧ n ≤ 4

theorem puAt_new {w W : World} {R O : Nat} (h : Two w W R O 0 0 0 ⟨#[]⟩ 0) : PuAt w R O W := ⟨0, 0, 0, ⟨#[]⟩, h, rfl, rfl, by decide⟩

set_option maxRecDepth 100000 in
theorem pushes_long (s : ByteArray) (A : Option Addr) (n cap : Nat) (w : World) (h : 40 < s.size ∨ 40 < n) :
    Calls Try.prog 5 #[.string s, .slice A n cap] w fun e w' => e = .returned (.bool true) ∧ Below w.heap.size w w' := by
  by_cases h1 : 40 < s.size
  · have hd : decide ((40 : Int) < (s.size : Int)) = true := decide_eq_true (by omega)
    clear h h1
    go_enter Try.func5, Try.ntmps5
    go_wp2_with fail
    refine (lives2 _).mono ?_
    rintro e W ⟨rfl, hb⟩
    go_wp2_with fail
    go_ret
    exact ⟨rfl, hb⟩
  · have hd : decide ((40 : Int) < (s.size : Int)) = false := decide_eq_false (by omega)
    have hd2 : decide ((40 : Int) < (n : Int)) = true := decide_eq_true (by omega)
    clear h h1
    go_enter Try.func5, Try.ntmps5
    go_wp2_with fail
    refine (lives2 _).mono ?_
    rintro e W ⟨rfl, hb⟩
    go_wp2_with fail
    go_ret
    exact ⟨rfl, hb⟩

set_option maxRecDepth 100000 in
set_option maxHeartbeats 4000000 in
theorem pushes_short (s : ByteArray) (A : Option Addr) (n cap : Nat) (zs : Nat → Int) (w : World) (hs : s.size ≤ 40) (hn : n ≤ 40)
    (hz : 0 < n → ∃ a, A = some a ∧ a.block < w.heap.size ∧ ∀ i, i < n → w.cell? (a.add i) = some (.int .i64 (zs i))) :
    Calls Try.prog 5 #[.string s, .slice A n cap] w fun e w' => e = .returned (.bool true) ∧ Below w.heap.size w w' := by
    have hd : decide ((40 : Int) < (s.size : Int)) = false := decide_eq_false (by omega)
    have hd2 : decide ((40 : Int) < (n : Int)) = false := decide_eq_false (by omega)
    have HZ := Lib.hid hz
    clear hz
    go_enter Try.func5, Try.ntmps5
    go_wp2_with fail
    refine (lives2 _).mono ?_
    rintro e W ⟨rfl, hb⟩
    go_wp2_with fail
    refine (vst_new hb).mono ?_
    rintro e W ⟨R, rfl, hv⟩
    clear hb
    go_wp2_with fail
    refine (two_new hv).mono ?_
    rintro e W ⟨O, rfl, ht⟩
    clear hv
    have PA := Lib.hid (puAt_new ht)
    clear ht
    go_wp2_with fail
    go_loopg [7] s.size (fun g i wr => ∃ k : Nat, k ≤ s.size ∧ g = s.size - k ∧ i = .int .i64 k ∧ PuAt w R O wr)
    case atStart => exact ⟨0, Nat.zero_le _, rfl, rfl, PA.out⟩
    case round =>
      obtain ⟨k, hk, rfl, rfl, hat⟩ := hrel
      clear PA
      by_cases hlt : k < s.size
      · have PA := Lib.hid hat
        clear hat
        go_wp2_with fail
        go_loopg [8] n (fun g j wr => ∃ m : Nat, m ≤ n ∧ g = n - m ∧ j = .int .i64 m ∧ PuAt w R O wr)
        case atStart => exact ⟨0, Nat.zero_le _, rfl, rfl, PA.out⟩
        case round =>
          obtain ⟨m, hm, rfl, rfl, hat⟩ := hrel
          clear PA
          by_cases hmn : m < n
          · obtain ⟨a, rfl, hab, hcell⟩ := HZ.out (by omega)
            obtain ⟨v, u, st, S, ht, hr, hsz, hu⟩ := hat
            have hx1 : wr.cell? (a.add m) = some (.int .i64 (zs m)) := by
              rw [ht.1.cell (p := a.add m) (by rw [add_block]; exact hab)]; exact hcell m hmn
            clear hcell
            generalize zs m = z at hx1
            have RN := Lib.hid hr
            have SZ := Lib.hid hsz
            clear hr hsz
            by_cases hzk : z = k
            · subst hzk
              go_wp2_with fail
              refine (two_r ht (rd_reset ht.rd)).mono ?_
              rintro e W ⟨rfl, ht⟩
              go_wp2_with fail
              refine (two_o ht (rr_reset ht.rr)).mono ?_
              rintro e W ⟨rfl, ht⟩
              go_wp2_with fail
              go_roundg (n - (m + 1))
              case measure => omega
              case rel => exact ⟨m + 1, by omega, rfl, by go_num, puAt_new ht⟩
            · have hne : (z == (k : Int)) = false := by simpa using hzk
              go_wp2_with fail
              go_roundg (n - (m + 1))
              case measure => omega
              case rel => exact ⟨m + 1, by omega, rfl, by go_num, v, u, st, S, ht, RN.out, SZ.out, hu⟩
          · obtain rfl : m = n := by omega
            clear hmn
            obtain ⟨v, u, st, S, ht, hr, hsz, hu⟩ := hat
            have h3 := run_state S.data.toList 0 0
            rw [hr] at h3
            rcases h3 with h3 | h3 | h3
            · obtain rfl : st = 0 := h3
              rw [if_neg (by decide)] at ht
              obtain ⟨hu1, hu4, hv⟩ := run_zero _ _ _ _ _ (by decide) (by decide) hr
              have hS4 : S.size ≤ 4 := by omega
              have NU := Lib.hid hu4
              have VV := Lib.hid hv
              have SZ := Lib.hid hsz
              have RN := Lib.hid hr
              clear hu1 hv hsz hr
              rcases nxt_cases s[k] (u + 1) with hx | hx | hx
              · have NX := Lib.hid hx
                have RM := Lib.hid (show run 0 0 (S ++ ⟨#[s[k]]⟩ : ByteArray).data.toList = (grow v u s[k], u + 1, 0) by rw [one_more, run_snoc _ _ _ _ _ _ RN.out, NX.out])
                have SM := Lib.hid (show (S ++ ⟨#[s[k]]⟩ : ByteArray).size = u + 1 by rw [one_size, SZ.out])
                have hS5 : (S ++ ⟨#[s[k]]⟩ : ByteArray).size ≤ 9223372036854775807 := by rw [one_size]; omega
                clear hx
                go_wp2_with fail
                refine (two_r ht (rd_push_more s[k] ht.rd VV.out NU.out NX.out)).mono ?_
                rintro e W ⟨rfl, ht⟩
                go_wp2_with fail
                refine (two_o ht (rr_push_more s[k] ht.rr hS4 RN.out NX.out)).mono ?_
                rintro e W ⟨rfl, ht⟩
                go_wp2_with fail
                refine (two_same ht (rd_value_no ht.rd (by decide))).mono ?_
                rintro e W ⟨rfl, ht⟩
                go_wp2_with fail
                refine (two_same ht (rr_value_no ht.rr hS5 RM.out (.inl rfl))).mono ?_
                rintro e W ⟨rfl, ht⟩
                go_wp2_with fail
                refine (two_same ht (rd_size ht.rd)).mono ?_
                rintro e W ⟨rfl, ht⟩
                go_wp2_with fail
                refine (two_same ht (rr_size_of ht.rr SM.out)).mono ?_
                rintro e W ⟨rfl, ht⟩
                go_wp2_with fail
                go_roundg (s.size - (k + 1))
                case measure => omega
                case rel => exact ⟨k + 1, by omega, rfl, by go_num, _, _, 0, _, ht, RM.out, SM.out, by have := NU.out; omega⟩
              · have NX := Lib.hid hx
                have RM := Lib.hid (show run 0 0 (S ++ ⟨#[s[k]]⟩ : ByteArray).data.toList = (grow v u s[k], u + 1, 1) by rw [one_more, run_snoc _ _ _ _ _ _ RN.out, NX.out])
                have SM := Lib.hid (show (S ++ ⟨#[s[k]]⟩ : ByteArray).size = u + 1 by rw [one_size, SZ.out])
                have hS5 : (S ++ ⟨#[s[k]]⟩ : ByteArray).size ≤ 9223372036854775807 := by rw [one_size]; omega
                clear hx
                go_wp2_with fail
                refine (two_r ht (rd_push_last s[k] ht.rd VV.out NU.out NX.out)).mono ?_
                rintro e W ⟨rfl, ht⟩
                go_wp2_with fail
                refine (two_o ht (rr_push_last s[k] ht.rr hS4 RN.out NX.out)).mono ?_
                rintro e W ⟨rfl, ht⟩
                go_wp2_with fail
                refine (two_same ht (rd_value_yes ht.rd)).mono ?_
                rintro e W ⟨rfl, ht⟩
                go_wp2_with fail
                refine (two_same ht (rr_value_yes ht.rr hS5 RM.out)).mono ?_
                rintro e W ⟨rfl, ht⟩
                go_wp2_with fail
                refine (two_same ht (rd_size ht.rd)).mono ?_
                rintro e W ⟨rfl, ht⟩
                go_wp2_with fail
                refine (two_same ht (rr_size_of ht.rr SM.out)).mono ?_
                rintro e W ⟨rfl, ht⟩
                go_wp2_with fail
                go_roundg (s.size - (k + 1))
                case measure => omega
                case rel => exact ⟨k + 1, by omega, rfl, by go_num, _, _, 1, _, ht, RM.out, SM.out, by have := NU.out; omega⟩
              · have NX := Lib.hid hx
                have RM := Lib.hid (show run 0 0 (S ++ ⟨#[s[k]]⟩ : ByteArray).data.toList = (grow v u s[k], u + 1, 2) by rw [one_more, run_snoc _ _ _ _ _ _ RN.out, NX.out])
                have SM := Lib.hid (show (S ++ ⟨#[s[k]]⟩ : ByteArray).size = u + 1 by rw [one_size, SZ.out])
                have hS5 : (S ++ ⟨#[s[k]]⟩ : ByteArray).size ≤ 9223372036854775807 := by rw [one_size]; omega
                clear hx
                go_wp2_with fail
                refine (two_r ht (rd_push_bad s[k] ht.rd VV.out NU.out NX.out)).mono ?_
                rintro e W ⟨rfl, ht⟩
                go_wp2_with fail
                refine (two_o ht (rr_push_bad s[k] ht.rr hS4 RN.out NX.out)).mono ?_
                rintro e W ⟨rfl, ht⟩
                go_wp2_with fail
                refine (two_same ht (rd_value_no ht.rd (by decide))).mono ?_
                rintro e W ⟨rfl, ht⟩
                go_wp2_with fail
                refine (two_same ht (rr_value_no ht.rr hS5 RM.out (.inr rfl))).mono ?_
                rintro e W ⟨rfl, ht⟩
                go_wp2_with fail
                refine (two_same ht (rd_size ht.rd)).mono ?_
                rintro e W ⟨rfl, ht⟩
                go_wp2_with fail
                refine (two_same ht (rr_size_of ht.rr SM.out)).mono ?_
                rintro e W ⟨rfl, ht⟩
                go_wp2_with fail
                go_roundg (s.size - (k + 1))
                case measure => omega
                case rel => exact ⟨k + 1, by omega, rfl, by go_num, _, _, 2, _, ht, RM.out, SM.out, by have := NU.out; omega⟩
            · obtain rfl : st = 1 := h3
              rw [if_neg (by decide)] at ht
              have hS4 : S.size ≤ 9223372036854775807 := by omega
              have SZ := Lib.hid hsz
              have RN := Lib.hid hr
              clear hsz hr
              go_wp2_with fail
              refine (two_same ht (rd_push_shut s[k] ht.rd (by decide))).mono ?_
              rintro e W ⟨rfl, ht⟩
              go_wp2_with fail
              refine (two_same ht (rr_push_whole s[k] ht.rr hS4 RN.out)).mono ?_
              rintro e W ⟨rfl, ht⟩
              go_wp2_with fail
              refine (two_same ht (rd_value_yes ht.rd)).mono ?_
              rintro e W ⟨rfl, ht⟩
              go_wp2_with fail
              refine (two_same ht (rr_value_yes ht.rr hS4 RN.out)).mono ?_
              rintro e W ⟨rfl, ht⟩
              go_wp2_with fail
              refine (two_same ht (rd_size ht.rd)).mono ?_
              rintro e W ⟨rfl, ht⟩
              go_wp2_with fail
              refine (two_same ht (rr_size_of ht.rr SZ.out)).mono ?_
              rintro e W ⟨rfl, ht⟩
              go_wp2_with fail
              go_roundg (s.size - (k + 1))
              case measure => omega
              case rel => exact ⟨k + 1, by omega, rfl, by go_num, _, _, 1, _, ht, RN.out, SZ.out, hu⟩
            · obtain rfl : st = 2 := h3
              rw [if_pos rfl] at ht
              have hS4 : S.size ≤ 9223372036854775807 := by omega
              have SZ := Lib.hid hsz
              have RN := Lib.hid hr
              clear hsz hr
              go_wp2_with fail
              refine (two_same ht (rd_push_shut s[k] ht.rd (by decide))).mono ?_
              rintro e W ⟨rfl, ht⟩
              go_wp2_with fail
              refine (two_same ht (rr_push_broken s[k] ht.rr hS4 RN.out)).mono ?_
              rintro e W ⟨rfl, ht⟩
              go_wp2_with fail
              refine (two_same ht (rd_value_no ht.rd (by decide))).mono ?_
              rintro e W ⟨rfl, ht⟩
              go_wp2_with fail
              refine (two_same ht (rr_value_no ht.rr hS4 RN.out (.inr rfl))).mono ?_
              rintro e W ⟨rfl, ht⟩
              go_wp2_with fail
              refine (two_same ht (rd_size ht.rd)).mono ?_
              rintro e W ⟨rfl, ht⟩
              go_wp2_with fail
              refine (two_same ht (rr_size_of ht.rr SZ.out)).mono ?_
              rintro e W ⟨rfl, ht⟩
              go_wp2_with fail
              go_roundg (s.size - (k + 1))
              case measure => omega
              case rel => exact ⟨k + 1, by omega, rfl, by go_num, _, _, 2, _, ht, RN.out, SZ.out, hu⟩
      · go_wp2_with fail
        go_ret
        obtain ⟨v, u, st, S, ht, _⟩ := hat
        exact ⟨rfl, ht.1⟩

theorem pushes_walk (s : ByteArray) (A : Option Addr) (n cap : Nat) (zs : Nat → Int) (w : World)
    (hz : 0 < n → ∃ a, A = some a ∧ a.block < w.heap.size ∧ ∀ i, i < n → w.cell? (a.add i) = some (.int .i64 (zs i))) :
    Calls Try.prog 5 #[.string s, .slice A n cap] w fun e w' => e = .returned (.bool true) ∧ Below w.heap.size w w' := by
  by_cases h : 40 < s.size ∨ 40 < n
  · exact pushes_long s A n cap w h
  · exact pushes_short s A n cap zs w (by omega) (by omega) hz

set_option maxRecDepth 100000 in
theorem pushes_lifted (os : Os) (started : os.Started) (H : Type) (enc : TypeId × Value → H) :
    ReturnsInHanded {} Try.checked os 5 .any (Rows.varintPushesSpec.pre6 enc Try.prog Try.f5 Rows.varintPushesRow.domain false) (Rows.varintPushesSpec.post enc Try.prog Try.f5 false true false false) := by
  refine returnsInHanded_of_change (C := Try.checked) own started (by kernel_rfl) Try.func5
    (ChangeSpec.witness6 (enc := enc) (C := Try.checked) false ⟨#[], #[.string .empty, .slice none 0 0], []⟩ 8 (by kernel_rfl) (by kernel_rfl) (by kernel_rfl) (by kernel_rfl)) ?_
  intro W base args ds gs before hval0 hW hcnd _
  have hval : ∀ (j : Nat) t v, Try.f5.params[j]? = some t → args[j]? = some v → Value.okWide Try.prog W .any base t v := hval0
  have hW' := hW
  obtain ⟨p, q, hA0, hV, rfl, hfz, hnd⟩ := hW
  have hA : DataW.TrodAll enc Try.prog W 0 (fun _ => true) true Try.f5.params.toList args.toList ds p := hA0
  rw [Try.params5] at hA hval
  obtain ⟨v0, vs0, d0, ds0, p0, q0, hargs0, rfl, rfl, h0, r0⟩ := trodAll_cons hA
  obtain ⟨v1, vs1, d1, ds1, p1, q1, rfl, rfl, rfl, h1, r1⟩ := trodAll_cons r0
  obtain ⟨rfl, rfl, rfl⟩ := trodAll_nil r1
  obtain rfl : args = #[v0, v1] := by cases args; simp_all
  obtain ⟨rfl, rfl⟩ := trodVars_none hV
  obtain ⟨a0, rfl, rfl, rfl, w0⟩ := open_string Try.underlying9 (hval 0 9 v0 rfl rfl) h0
  unfold maxLen at w0
  obtain ⟨A1, n1, c1, zs1, rfl, hn1, hz1, hc1⟩ := ints_arg Try.underlying37 Try.underlying3 (by kernel_rfl) (hval 1 37 v1 rfl rfl) h1
  refine (pushes_walk a0 A1 n1 c1 (fun i => zs1.getD i 0) W hc1).mono fun e W' ⟨he, hb⟩ => ?_
  subst he
  exact ⟨_, rfl, law_post (tb := 4) laidOut (by decide +kernel) (by kernel_rfl) Try.underlying4 rfl hW' rfl hb⟩

theorem varintPushes_holds : Rows.VarintPushesSaid :=
  OpenClaim.holds_of_wide 5 Try.f5 rfl rfl rfl rfl rfl rfl rfl ⟨rfl, rfl, rfl, rfl, rfl⟩ rfl rfl rfl rfl rfl (by kernel_rfl) Try.func5 (by kernel_rfl)
    (of_decide_eq_true (by kernel_rfl)) (by unfold Func.isWrapper; first | (rw [if_pos (by decide +kernel)]; kernel_rfl) | (rw [if_neg (by decide +kernel)]; exact ⟨rfl, rfl⟩))
    (fun os started H enc _ => pushes_lifted os started H enc)
end Go.Proofs.Ytoaoabffgllbbaa
