/-
  The contract of connect.Valid. Condition: at most 70,000 elements a list, no more than their capacities; the fields are what their types hold.
-/
import Derived.Test.YtbgpcmbaodjibaaGreatK29
import Derived.Test.YtbgpcmbaodjibaaGreatK30
import Derived.Test.YtbgpcmbaodjibaaGreatK32
import Derived.Test.YtbgpcmbaodjibaaGreatK34
namespace Go.Proofs.YtbgpcmbaodjibaaGreat
open Go.RowKit

/-- What is wrong with a packet's lists of properties, as the program asks: whatever the version. -/
theorem right_v {v : Int} {kind : Int} (l : List Pr) (hv : v = 4 ∨ v = 5) (h4 : v = 4 → l = []) : validP kind l = rightC v kind l := by
  unfold rightC
  rcases hv with rfl | rfl
  · rw [if_neg (by decide), h4 rfl]; rfl
  · rw [if_pos rfl]
set_option maxHeartbeats 4000000 in
set_option maxRecDepth 100000 in
theorem con_valid (v : Int) (p : Pk) (a : Ad) (w : World) (hp : PkAt w p a) (sp : Short p) (ok : PkOk p) (ca : PkCap p a) :
    Calls Tryz.prog 13 #[.int .i64 v, pkV p a] w fun e w' => e = .returned (.int .i64 ((validC v p : Nat) : Int)) ∧ Below w.heap.size w w' := by
  have S0 := Lib.hid (BxS.made w p a)
  have FI := con_fits v p a
  have FI := fun W (h : BxS w p a W) => FI W (hp.below h.low) sp
  have hsz : ∀ t ∈ p.texts, (bs t).size ≤ 9223372036854775807 := fun t ht => by rw [bs_len]; have := ok.texts t ht; omega
  have VC := fun W => valid_any (bs p.client) W (hsz _ (by simp [Pk.texts]))
  have VU := fun W => valid_any (bs p.user) W (hsz _ (by simp [Pk.texts]))
  have NT := fun W => name_any (bs p.wTopic) W (hsz _ (by simp [Pk.texts]))
  have PV := fun W (h : BxS w p a W) => valid_list p.kind a.ps p.props.length a.pc p.props W ok.kind.1 ok.kind.2 (hp.below h.low).ps rfl ca.pc (fun x hx => (ok.pps x hx).1)
  have WV := fun W (h : BxS w p a W) => valid_list 16 a.w p.wProps.length a.wc p.wProps W (by decide) (by decide) (hp.below h.low).w rfl ca.wc (fun x hx => (ok.wps x hx).1)
  rw [bs_data] at VC VU NT
  obtain ⟨R, hR⟩ : ∃ R, validC v p = R := ⟨_, rfl⟩
  rw [hR]
  have hL1 : (bs p.wPayload).size = p.wPayload.length := bs_len _
  have hL2 : (bs p.pass).size = p.pass.length := bs_len _
  have C1 := Lib.hid (pkC_size p a)
  cases hok : okC v p with
  | false =>
    have HR := Lib.hid (show 2 = R by rw [← hR, validC, if_pos hok])
    rw [hok] at FI
    have FI := Lib.hid FI
    clear hok hR VC VU NT PV WV hsz hL1 hL2
    unfold pkV at *
    go_enter Tryz.func13, Tryz.ntmps13
    go_wp2_with (refine wpList_load_row rfl _ _ rfl w.heap.size rfl 32 _ (0, 0) _ S0.out.box Tryz.underlying32 rfl (by rw [C1.out]; exact info_pk) ?_)
    refine (FI.out _ S0.out).mono ?_
    rintro e W ⟨rfl, hb⟩
    have LO := Lib.hid (below_then S0.out.low hb)
    clear hb
    go_wp2_with fail
    go_ret
    exact ⟨congrArg (fun n : Nat => Ending.returned (Value.int .i64 (n : Int))) HR.out, LO.out⟩
  | true =>
    obtain ⟨b1, h1⟩ : ∃ b, (!validOf p.client || !validOf p.user) = b := ⟨_, rfl⟩
    obtain ⟨b2, h2⟩ : ∃ b, (p.hasWill && !nameL p.wTopic) = b := ⟨_, rfl⟩
    obtain ⟨b3, h3⟩ : ∃ b, (decide (65535 < p.wPayload.length) || decide (65535 < p.pass.length)) = b := ⟨_, rfl⟩
    have hv := (ok_c hok).1
    have h4 := (ok_c hok).2.2.2.1
    obtain ⟨X, hX⟩ : ∃ X, validP p.kind p.props = X := ⟨_, rfl⟩
    obtain ⟨Y, hY⟩ : ∃ Y, validP 16 p.wProps = Y := ⟨_, rfl⟩
    have hr : R = if b1 = true then 6 else if b2 = true then 10 else if b3 = true then 2 else if X ≠ 0 then X else Y := by
      rw [← hR, validC, if_neg (by rw [hok]; decide), ← h1, ← h2, ← h3, ← hX, ← hY, right_v p.props hv (fun e => (h4 e).1), right_v p.wProps hv (fun e => (h4 e).2)]
      have e1 : ((validOf p.client && validOf p.user) = false) = ((!validOf p.client || !validOf p.user) = true) := by
        cases validOf p.client <;> cases validOf p.user <;> simp
      have e3 : (65535 < p.wPayload.length ∨ 65535 < p.pass.length) = ((decide (65535 < p.wPayload.length) || decide (65535 < p.pass.length)) = true) := by simp
      simp only [e1, e3]
    rw [hok] at FI
    rw [hX] at PV
    rw [hY] at WV
    have HR := Lib.hid hr
    have H1 := Lib.hid h1
    have H2 := Lib.hid h2
    have H3 := Lib.hid h3
    have FI := Lib.hid FI
    have PV := Lib.hid PV
    have WV := Lib.hid WV
    have HL1 := Lib.hid hL1
    have HL2 := Lib.hid hL2
    generalize validOf p.client = cl at *
    generalize validOf p.user = us at *
    generalize nameL p.wTopic = nm at *
    have VC := Lib.hid VC
    have VU := Lib.hid VU
    have NT := Lib.hid NT
    clear hok hR hsz hL1 hL2 h1 h2 h3 hX hY hr hv h4 hp sp ok ca
    unfold pkV at *
    go_enter Tryz.func13, Tryz.ntmps13
    go_upto_region 1 with fail
    go_wp2_with (refine wpList_load_row rfl _ _ rfl w.heap.size rfl 32 _ (0, 0) _ S0.out.box Tryz.underlying32 rfl (by rw [C1.out]; exact info_pk) ?_)
    refine (FI.out _ S0.out).mono ?_
    rintro e W ⟨rfl, hb⟩
    have S1 := Lib.hid (S0.out.call hb)
    clear hb
    have k9 : W.cell? ⟨w.heap.size, 9, none⟩ = some (.string (bs p.client)) := S1.out.cell 9
    go_upto_region 3 with fail
    go_cut [11] (fun s11 wx => s11 = .bool b1 ∧ BxS w p a wx)
    case first =>
      cases cl with
      | false =>
        have HB := Lib.hid (show true = b1 by rw [← H1.out]; rfl)
        go_wp2_with fail
        refine (VC.out _).mono ?_
        rintro e W2 ⟨rfl, hb⟩
        have S2 := Lib.hid (S1.out.call hb)
        clear hb
        go_wp2_with fail
        go_meet
        exact ⟨congrArg Value.bool HB.out, S2.out⟩
      | true =>
        have HB := Lib.hid (show (!us) = b1 by rw [← H1.out]; rfl)
        go_wp2_with fail
        refine (VC.out _).mono ?_
        rintro e W2 ⟨rfl, hb⟩
        have S2 := Lib.hid (S1.out.call hb)
        clear hb
        have k11 : W2.cell? ⟨w.heap.size, 11, none⟩ = some (.string (bs p.user)) := S2.out.cell 11
        go_wp2_with fail
        refine (VU.out _).mono ?_
        rintro e W3 ⟨rfl, hb⟩
        have S3 := Lib.hid (S2.out.call hb)
        clear hb
        go_wp2_with fail
        go_meet
        exact ⟨congrArg Value.bool HB.out, S3.out⟩
    case rest =>
      clear k9 S1 S0
      obtain ⟨rfl, hS⟩ := hcut
      have S1 := Lib.hid hS
      clear hS
      cases b1 with
      | true =>
        have HRa := Lib.hid (show 6 = R by rw [HR.out]; rfl)
        have LO := Lib.hid S1.out.low
        go_wp2_with fail
        go_ret
        exact ⟨congrArg (fun n : Nat => Ending.returned (Value.int .i64 (n : Int))) HRa.out, LO.out⟩
      | false =>
        have k14 : wc.cell? ⟨w.heap.size, 14, none⟩ = some (.bool p.hasWill) := S1.out.cell 14
        have k15 : wc.cell? ⟨w.heap.size, 15, none⟩ = some (.string (bs p.wTopic)) := S1.out.cell 15
        go_upto_region 5 with fail
        go_cut [22] (fun s22 wx => s22 = .bool b2 ∧ BxS w p a wx)
        case first =>
          cases hw : p.hasWill with
          | false =>
            rw [hw] at k14
            have HB := Lib.hid (show false = b2 by rw [← H2.out, hw]; rfl)
            clear hw
            go_wp2_with fail
            go_meet
            exact ⟨congrArg Value.bool HB.out, S1.out⟩
          | true =>
            rw [hw] at k14
            have HB := Lib.hid (show (!nm) = b2 by rw [← H2.out, hw]; rfl)
            clear hw
            go_wp2_with fail
            refine (NT.out _).mono ?_
            rintro e W3 ⟨rfl, hb⟩
            have S3 := Lib.hid (S1.out.call hb)
            clear hb
            go_wp2_with fail
            go_meet
            exact ⟨congrArg Value.bool HB.out, S3.out⟩
        case rest =>
          clear k14 k15 S1
          obtain ⟨rfl, hS⟩ := hcut
          have S1 := Lib.hid hS
          clear hS
          cases b2 with
          | true =>
            have HRa := Lib.hid (show 10 = R by rw [HR.out]; rfl)
            have LO := Lib.hid S1.out.low
            go_wp2_with fail
            go_ret
            exact ⟨congrArg (fun n : Nat => Ending.returned (Value.int .i64 (n : Int))) HRa.out, LO.out⟩
          | false =>
            have k16 : wc.cell? ⟨w.heap.size, 16, none⟩ = some (.string (bs p.wPayload)) := S1.out.cell 16
            have k13 : wc.cell? ⟨w.heap.size, 13, none⟩ = some (.string (bs p.pass)) := S1.out.cell 13
            go_upto_region 7 with fail
            go_cut [32] (fun s32 wx => s32 = .bool b3 ∧ BxS w p a wx)
            case first =>
              by_cases l1 : 65535 < p.wPayload.length
              · have HB := Lib.hid (show true = b3 by rw [← H3.out, decide_eq_true l1]; rfl)
                have l1' : decide ((65535 : Int) < ((bs p.wPayload).size : Int)) = true := decide_eq_true (by rw [HL1.out]; omega)
                clear l1
                go_wp2_with fail
                go_meet
                exact ⟨congrArg Value.bool HB.out, S1.out⟩
              · have l1' : decide ((65535 : Int) < ((bs p.wPayload).size : Int)) = false := decide_eq_false (by rw [HL1.out]; omega)
                have HB := Lib.hid (show decide (65535 < p.pass.length) = b3 by rw [← H3.out, decide_eq_false l1]; rfl)
                clear l1
                by_cases l2 : 65535 < p.pass.length
                · have l2' : decide ((65535 : Int) < ((bs p.pass).size : Int)) = true := decide_eq_true (by rw [HL2.out]; omega)
                  rw [decide_eq_true l2] at HB
                  clear l2
                  go_wp2_with fail
                  go_meet
                  exact ⟨congrArg Value.bool HB.out, S1.out⟩
                · have l2' : decide ((65535 : Int) < ((bs p.pass).size : Int)) = false := decide_eq_false (by rw [HL2.out]; omega)
                  rw [decide_eq_false l2] at HB
                  clear l2
                  go_wp2_with fail
                  go_meet
                  exact ⟨congrArg Value.bool HB.out, S1.out⟩
            case rest =>
              clear k16 k13 S1
              obtain ⟨rfl, hS⟩ := hcut
              have S1 := Lib.hid hS
              clear hS
              cases b3 with
              | true =>
                have HRa := Lib.hid (show 2 = R by rw [HR.out]; rfl)
                have LO := Lib.hid S1.out.low
                go_wp2_with fail
                go_ret
                exact ⟨congrArg (fun n : Nat => Ending.returned (Value.int .i64 (n : Int))) HRa.out, LO.out⟩
              | false =>
                have k0 : wc.cell? ⟨w.heap.size, 0, none⟩ = some (.int .i64 p.kind) := S1.out.cell 0
                have k24 : wc.cell? ⟨w.heap.size, 24, none⟩ = some (.slice a.ps p.props.length a.pc) := S1.out.cell 24
                have HRb := Lib.hid (show R = if X ≠ 0 then X else Y by rw [HR.out]; rfl)
                go_wp2_with fail
                refine (PV.out _ S1.out).mono ?_
                rintro e W4 ⟨rfl, hb⟩
                have S4 := Lib.hid (S1.out.call hb)
                clear hb k0 k24
                by_cases hx : X = 0
                · have HRa := Lib.hid (show Y = R by rw [HRb.out, if_neg (by simpa using hx)])
                  subst hx
                  have k19 : W4.cell? ⟨w.heap.size, 19, none⟩ = some (.slice a.w p.wProps.length a.wc) := S4.out.cell 19
                  go_wp2_with fail
                  refine (WV.out _ S4.out).mono ?_
                  rintro e W5 ⟨rfl, hb⟩
                  have LO := Lib.hid (below_then S4.out.low hb)
                  clear hb
                  go_wp2_with fail
                  go_ret
                  exact ⟨congrArg (fun n : Nat => Ending.returned (Value.int .i64 (n : Int))) HRa.out, LO.out⟩
                · have HRa := Lib.hid (show X = R by rw [HRb.out, if_pos hx])
                  have hx' : ((X : Int) == 0) = false := by simp; omega
                  have hx2 : ((X : Int) != 0) = true := by simp; omega
                  have LO := Lib.hid S4.out.low
                  clear hx
                  go_wp2_with fail
                  go_ret
                  exact ⟨congrArg (fun n : Nat => Ending.returned (Value.int .i64 (n : Int))) HRa.out, LO.out⟩
end Go.Proofs.YtbgpcmbaodjibaaGreat
