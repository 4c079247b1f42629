/-
  The contract of polyglotref05.Check. Condition: strings of up to 200,000 bytes.
-/
import Derived.Test.YtaahhbjnflimnaaGreatK31
import Derived.Test.YtaahhbjnflimnaaGreatK28
namespace Go.Proofs.YtaahhbjnflimnaaGreat
open Go.RowKit

theorem v_empty : validOf [] = true := by
  have e : cbs [] = [] := rfl
  have h := valid_cbs (cs := []) (fun c hc => by simp at hc) (by rw [e]; decide)
  rwa [e] at h
set_option maxRecDepth 100000 in
set_option maxHeartbeats 1000000 in
theorem ref_check (kind : Int) (p : Pr) (w : World) (ht : p.text.length ≤ 200000) :
    Calls Tryz.prog 177 #[.int .i64 kind, propV p] w fun e w' => e = .returned (.int .i64 ((checkP kind p : Nat) : Int)) ∧ Below w.heap.size w w' := by
  have MY := ref_may kind p.id
  have LK := fun W => (look_any p.id W).mono (R' := fun e w' => ∃ A m, e = .returned (.agg #[.int .i64 ((shapeP p.id : Nat) : Int), .slice A m m, .int .u32 (((prow p.id).least : Nat) : Int), .int .u32 (((prow p.id).most : Nat) : Int)]) ∧ Below W.heap.size W w') (fun e w' ⟨A, h1, h2, _⟩ => ⟨A, _, h1, h2⟩)
  have VT := ref_valid_all (bs p.text)
  have VV := ref_valid_all (bs p.value)
  have NM := fun W => ref_name (bs p.text) W (by rw [bs_size]; exact ht)
  rw [bs_data] at VT VV NM
  have hst := str_empty p.text
  have hsv := str_empty p.value
  have kst : (bs p.text).toList.isEmpty = decide (p.text = []) := by rw [bs_toList]; cases p.text <;> simp
  have ksv : (bs p.value).toList.isEmpty = decide (p.value = []) := by rw [bs_toList]; cases p.value <;> simp
  have hsz : (bs p.text).size = p.text.length := bs_size _
  unfold propV
  cases hm : mayP kind p.id with
  | false =>
    rw [hm] at MY
    have hV : checkP kind p = 9 := by unfold checkP; rw [if_pos hm]
    rw [hV]
    exact rc_no MY w
  | true =>
    rw [hm] at MY
    obtain ⟨r1, r2, _, _, _, _, r8⟩ := row_fits hm
    have hcp : checkP kind p = (if shapeP p.id ≤ 4 then
      if p.text ≠ [] ∨ p.value ≠ [] then 2 else if p.n < (prow p.id).least ∨ (prow p.id).most < p.n then 9 else 0
      else if p.n ≠ 0 ∨ (shapeP p.id ≠ 7 ∧ p.value ≠ []) then 2
      else if shapeP p.id = 6 then (if 65535 < p.text.length then 2 else 0)
      else if validOf p.text = false ∨ validOf p.value = false then 6
      else if p.id = 8 ∧ nameL p.text = false then 9 else 0) := by unfold checkP; rw [if_neg (by simp [hm])]
    by_cases h4 : shapeP p.id ≤ 4
    · rw [hcp, if_pos h4]
      have q4 : ((shapeP p.id : Nat) : Int) ≤ 4 := by omega
      have e5 : (((shapeP p.id : Nat) : Int) == 5) = false := by rw [beq_eq_false_iff_ne]; omega
      have e6 : (((shapeP p.id : Nat) : Int) == 6) = false := by rw [beq_eq_false_iff_ne]; omega
      have e7 : (((shapeP p.id : Nat) : Int) == 7) = false := by rw [beq_eq_false_iff_ne]; omega
      have e7n : (((shapeP p.id : Nat) : Int) != 7) = true := by rw [bne_iff_ne]; omega
      by_cases h1 : p.text = []
      · rw [decide_eq_true h1] at hst kst
        by_cases h2 : p.value = []
        · rw [decide_eq_true h2] at hsv ksv
          rw [if_neg (by simp [h1, h2])]
          by_cases h3 : p.n < (prow p.id).least
          · rw [if_pos (.inl h3)]
            exact rc_lo_least MY LK q4 e5 e6 e7 e7n hst kst hsv ksv (by omega) w
          · by_cases h5 : (prow p.id).most < p.n
            · rw [if_pos (.inr h5)]
              exact rc_lo_most MY LK q4 e5 e6 e7 e7n hst kst hsv ksv (by omega) (by omega) w
            · rw [if_neg (by omega)]
              exact rc_lo_ok MY LK q4 e5 e6 e7 e7n hst kst hsv ksv (by omega) (by omega) (by rw [beq_eq_false_iff_ne]; intro h; have := r8 h; omega) w
        · rw [decide_eq_false h2] at hsv ksv
          rw [if_pos (.inr h2)]
          exact rc_lo_value MY LK q4 e5 e6 e7 e7n hst kst hsv ksv w
      · rw [decide_eq_false h1] at hst kst
        rw [if_pos (.inl h1)]
        exact rc_lo_text MY LK q4 e5 e6 e7 e7n hst kst w
    · have hs : shapeP p.id = 5 ∨ shapeP p.id = 6 ∨ shapeP p.id = 7 := by omega
      by_cases h0 : p.n = 0
      · have n0 : (((p.n : Nat) : Int) != 0) = false := by rw [h0]; rfl
        rcases hs with s | s | s
        · rw [s, show ((5 : Nat) : Int) = 5 from rfl] at LK
          have hx : checkP kind p = (if p.value ≠ [] then 2 else if validOf p.text = false ∨ validOf p.value = false then 6 else if p.id = 8 ∧ nameL p.text = false then 9 else 0) := by
            rw [hcp, if_neg h4, s, h0]
            by_cases hv : p.value = [] <;> simp [hv]
          rw [hx]
          by_cases h2 : p.value = []
          · rw [decide_eq_true h2] at hsv ksv
            rw [if_neg (by simp [h2])]
            have hvv : validOf p.value = true := by rw [h2]; exact v_empty
            rw [hvv] at VV ⊢
            cases ht' : validOf p.text with
            | false => rw [ht'] at VT; rw [if_pos (.inl rfl)]; exact rc_s5_bad MY LK VT n0 hsv ksv w
            | true =>
              rw [ht'] at VT
              rw [if_neg (by simp)]
              by_cases h8 : p.id = 8
              · have e8 : (p.id == 8) = true := by simpa using h8
                cases hnm : nameL p.text with
                | false => rw [hnm] at NM; rw [if_pos ⟨h8, rfl⟩]; exact rc_s5_name MY LK VT VV NM n0 hsv ksv e8 w
                | true => rw [hnm] at NM; rw [if_neg (by simp)]; exact rc_s5_named MY LK VT VV NM n0 hsv ksv e8 w
              · have e8 : (p.id == 8) = false := by simpa using h8
                rw [if_neg (fun h => h8 h.1)]
                exact rc_s5_ok MY LK VT VV n0 hsv ksv e8 w
          · rw [decide_eq_false h2] at hsv ksv
            rw [if_pos h2]
            exact rc_s5_value MY LK n0 hsv ksv w
        · rw [s, show ((6 : Nat) : Int) = 6 from rfl] at LK
          have e8 : (p.id == 8) = false := by rw [beq_eq_false_iff_ne]; intro h; have := r8 h; omega
          have hx : checkP kind p = (if p.value ≠ [] then 2 else if 65535 < p.text.length then 2 else 0) := by
            rw [hcp, if_neg h4, s, h0]
            by_cases hv : p.value = [] <;> simp [hv]
          rw [hx]
          by_cases h2 : p.value = []
          · rw [decide_eq_true h2] at hsv ksv
            rw [if_neg (by simp [h2])]
            by_cases hb : 65535 < p.text.length
            · rw [if_pos hb]; exact rc_s6_big MY LK n0 hsv ksv e8 (by rw [hsz]; omega) w
            · rw [if_neg hb]; exact rc_s6_ok MY LK n0 hsv ksv e8 (by rw [hsz]; omega) w
          · rw [decide_eq_false h2] at hsv ksv
            rw [if_pos h2]
            exact rc_s6_value MY LK n0 hsv ksv w
        · rw [s, show ((7 : Nat) : Int) = 7 from rfl] at LK
          have e8 : (p.id == 8) = false := by rw [beq_eq_false_iff_ne]; intro h; have := r8 h; omega
          have h8 : ¬ p.id = 8 := by simpa using e8
          have hx : checkP kind p = (if validOf p.text = false ∨ validOf p.value = false then 6 else if p.id = 8 ∧ nameL p.text = false then 9 else 0) := by
            rw [hcp, if_neg h4, s, h0]
            simp
          rw [hx]
          cases ht' : validOf p.text with
          | false => rw [ht'] at VT; rw [if_pos (.inl rfl)]; exact rc_s7_bad MY LK VT n0 w
          | true =>
            rw [ht'] at VT
            cases hv' : validOf p.value with
            | false => rw [hv'] at VV; rw [if_pos (.inr rfl)]; exact rc_s7_bad2 MY LK VT VV n0 w
            | true =>
              rw [hv'] at VV
              rw [if_neg (by simp), if_neg (fun h => h8 h.1)]
              exact rc_s7_ok MY LK VT VV n0 e8 w
      · have n0 : (((p.n : Nat) : Int) != 0) = true := by rw [bne_iff_ne]; omega
        rw [hcp, if_neg h4, if_pos (.inl h0)]
        rcases hs with s | s | s
        · rw [s, show ((5 : Nat) : Int) = 5 from rfl] at LK; exact rc_s5_n MY LK n0 w
        · rw [s, show ((6 : Nat) : Int) = 6 from rfl] at LK; exact rc_s6_n MY LK n0 w
        · rw [s, show ((7 : Nat) : Int) = 7 from rfl] at LK; exact rc_s7_n MY LK n0 w
end Go.Proofs.YtaahhbjnflimnaaGreat
