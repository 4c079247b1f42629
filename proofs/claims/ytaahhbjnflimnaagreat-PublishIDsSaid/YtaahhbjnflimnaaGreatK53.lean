/-
  The walk of PublishIDs. Condition: the id is what its type holds; the strings' lengths.
-/
import Derived.Deep.DeepCutAuto
import Derived.Test.YtaahhbjnflimnaaGreatK52
import Derived.Test.YtaahhbjnflimnaaGreatK46
import Derived.Test.YtaahhbjnflimnaaGreatK23
namespace Go.Proofs.YtaahhbjnflimnaaGreat
open Go.RowKit

def idP (s t : List UInt8) (q n : Int) : Pk := { Pk.zero with kind := 3, qos := q, id := n, topic := s, payload := t }
theorem id_valid {s t : List UInt8} {q n : Int} (hs : nameL s = true) (hq : 0 ≤ q ∧ q ≤ 2) (hn : 0 ≤ n ∧ n ≤ 65535) : validU 4 (idP s t q n) = if (decide (0 < q) == decide (0 < n)) = true then 0 else 2 := by
  have e1 : (flagsF 4 3 (idP s t q n).dup (idP s t q n).retain (idP s t q n).qos).2 = 0 := flags_u.2 ⟨rfl, by
    have h1 : decide (0 ≤ q) = true := decide_eq_true hq.1
    have h2 : decide (q ≤ 2) = true := decide_eq_true hq.2
    show (decide (0 ≤ q) && decide (q ≤ 2) && !(false && q == 0)) = true
    rw [h1, h2]; rfl⟩
  have e2 : decide (idP s t q n = usedU 4 (idP s t q n)) = true := decide_eq_true rfl
  have e3 : topicU (idP s t q n) = true := by unfold topicU; rw [show (idP s t q n).topic = s from rfl, hs]; rfl
  have e4 : idU (idP s t q n) = (decide (0 < q) == decide (0 < n)) := by
    unfold idU
    rw [show (idP s t q n).qos = q from rfl, show (idP s t q n).id = n from rfl]
    by_cases h0 : q = 0
    · subst h0
      by_cases h1 : n = 0
      · subst h1; rfl
      · have : 0 < n := by omega
        simp [h1, this]
    · have h1 : 0 < q := by omega
      rw [if_neg h0, decide_eq_true h1]
      by_cases h2 : 0 < n
      · have : n ≤ 65535 := hn.2
        simp [h2, this]
      · simp [h2]
  unfold validU
  rw [e1, e2, e3, e4, Bool.and_true]
  generalize (decide (0 < q) == decide (0 < n)) = b
  cases b
  · rfl
  · rfl
theorem id_ok {s t : List UInt8} {q n : Int} (hs : s.length ≤ 300) (ht : t.length ≤ 300) (hq : 0 ≤ q ∧ q ≤ 2) : PkOk (idP s t q n) := by
  refine ⟨by show _ ≤ (3 : Int) ∧ (3 : Int) ≤ _; decide, ⟨by show _ ≤ q; omega, by show q ≤ _; omega⟩, fun x hx => ?_, fun x hx => (nomatch hx), fun x hx => (nomatch hx), fun x hx => (nomatch hx)⟩
  simp only [Pk.texts, idP, Pk.zero, List.mem_cons, List.not_mem_nil, or_false] at hx
  rcases hx with rfl | rfl | rfl | rfl | rfl | rfl | rfl
  · omega
  · omega
  all_goals exact Nat.zero_le _
theorem id_raw (s t : List UInt8) (q n : Int) : rawU 4 (idP s t q n) = enc2 s ++ ((if q = 0 then [] else be n.toNat 2) ++ t) := by
  show enc2 s ++ ((if q = 0 then [] else be n.toNat 2) ++ ([] ++ t)) = _
  rfl
theorem be_two (n : Nat) : be n 2 = [UInt8.ofNat (n / 256), UInt8.ofNat n] := by
  simp [be]
theorem drop_enc (x y : List UInt8) : (enc2 x ++ y).drop 2 = x ++ y := by
  rw [enc2, List.append_assoc, List.drop_left' (be_length 2 _)]
theorem u16_nat {a : Int} (h : Lit.wf (.int .u16 a)) : ∃ n : Nat, a = n ∧ n ≤ 65535 := by
  have h2 : 0 ≤ a ∧ a ≤ 65535 := by simpa [Lit.wf, IntKind.min, IntKind.max, IntKind.signed, IntKind.bits] using h
  exact ⟨a.toNat, by omega, by omega⟩
theorem cut_two (l : List UInt8) : (bs l).extract 2 (bs l).size = bs (l.drop 2) := by
  apply ByteArray.ext
  apply Array.ext'
  rw [bs_size]
  simp [bs, List.extract_eq_take_drop]
  exact List.take_of_length_le (by simp)
set_option maxHeartbeats 2000000 in
set_option maxRecDepth 100000 in
theorem pubids_main (s t : ByteArray) (n : Nat) (k q : Int) (w : World) (hs : s.size ≤ 300) (ht : t.size ≤ 300) (hN : nameL s.data.toList = true) (hn : n ≤ 65535) (hk : k % 3 = q) :
    Calls Tryz.prog 7 #[.string s, .string t, .int .u16 n, .int .i64 k] w fun e w' => e = .returned (.bool true) ∧ Below w.heap.size w w' := by
  have hq0 : 0 ≤ q := by rw [← hk]; exact Int.emod_nonneg _ (by decide)
  have hq2 : q < 3 := by rw [← hk]; exact Int.emod_lt_of_pos _ (by decide)
  have NM := fun W => (ref_name s W (by omega)).mono fun e W' (hh : _ ∧ W = W') => hh
  rw [hN] at NM
  have PI := fun W => pick_any k 3 W (by decide) (by decide)
  rw [hk] at PI
  have hl1 : s.data.toList.length ≤ 300 := by rw [← size_list]; exact hs
  have hl2 : t.data.toList.length ≤ 300 := by rw [← size_list]; exact ht
  have BO := fun W => pub_body 4 (idP s.data.toList t.data.toList q n) adZ W (plain_at _ W ⟨rfl, rfl, rfl, rfl⟩) ⟨Nat.zero_le _, Nat.zero_le _, Nat.zero_le _, Nat.zero_le _⟩ (id_ok hl1 hl2 ⟨hq0, by omega⟩) (Nat.zero_le _)
  have hv := id_valid (t := t.data.toList) (n := n) hN ⟨hq0, by omega⟩ ⟨by omega, by omega⟩
  obtain ⟨D, hD⟩ : ∃ D, pkC (idP s.data.toList t.data.toList q n) adZ = D := ⟨_, rfl⟩
  have hD1 : D.size = 25 := by rw [← hD]; exact pkC_size _ _
  have hD2 : D.all (·.oneCell') = true := by rw [← hD]; exact pkC_one _ _
  rw [hD] at BO
  have HD := Lib.hid hD
  have HD1 := Lib.hid hD1
  have HD2 := Lib.hid hD2
  have HZ := Lib.hid pkZ_size
  have hzv := zero_pk
  have hne : ¬ pkZ = #[] := by intro h; have := pkZ_size; rw [h] at this; cases this
  have hB : bodyU 4 (idP s.data.toList t.data.toList q n) = if (decide (0 < q) == decide ((0 : Int) < (n : Int))) = true then (enc2 s.data.toList ++ ((if q = 0 then [] else be n 2) ++ t.data.toList), 0) else ([], 2) := by
    unfold bodyU
    rw [hv, id_raw, Int.toNat_natCast]
    split <;> rfl
  rw [hB] at BO
  have g1 : decide ((300 : Int) < (s.size : Int)) = false := decide_eq_false (by omega)
  have g2 : decide ((300 : Int) < (t.size : Int)) = false := decide_eq_false (by omega)
  have hw : IntKind.i64.wrap (n : Int) = (n : Int) := by rw [IntKind.wrap_i64]; omega
  have LB := Lib.hid (fun W => belowRow (below_box (w := W) (.cells pkZ 28)) (Nat.le_refl _) D)
  replace NM := Lib.hid NM
  replace PI := Lib.hid PI
  have HL := Lib.hid (And.intro hl1 hl2)
  by_cases hr : (decide (0 < q) == decide ((0 : Int) < (n : Int))) = true
  · rw [if_pos hr] at BO
    by_cases h0 : q = 0
    · subst h0
      have hz : n = 0 := by
        rw [beq_iff_eq, decide_eq_decide] at hr
        omega
      subst hz
      rw [if_pos rfl, List.nil_append] at BO
      have hc : (bs (enc2 s.data.toList ++ t.data.toList)).extract 2 (bs (enc2 s.data.toList ++ t.data.toList)).size = s ++ t := by
        rw [cut_two _, drop_enc, ← bs_append]; rfl
      have hz : ((bs (enc2 s.data.toList ++ t.data.toList)).size : Int) = (s.size : Int) + 2 + (t.size : Int) := by rw [bs_size, List.length_append, enc2_length, size_list, size_list]; omega
      have hs0 : (s.size : Int) ≤ 300 := by omega
      have ht0 : (t.size : Int) ≤ 300 := by omega
      generalize bs (enc2 s.data.toList ++ t.data.toList) = Z at *
      replace BO := Lib.hid BO
      clear hs ht hN hn hk hl1 hl2 hv hB hD hD1 hD2 hq0 hq2 hr
      go_enter Tryz.func7, Tryz.ntmps7
      go_wp2_with fail
      refine (lives_pub _).mono ?_
      rintro e W ⟨rfl, hb⟩
      have L1 := Lib.hid hb
      clear hb
      go_wp2_with fail
      refine (NM.out _).mono ?_
      rintro e W' ⟨rfl, rfl⟩
      go_wp2_with fail
      refine (PI.out _).mono ?_
      rintro e W' ⟨rfl, rfl⟩
      have L2 := Lib.hid (below_then L1.out (LB.out W))
      have G2 := Lib.hid (setRow_heap _ _ _ D _ _ (heap_alloc_new W (.cells pkZ 28)))
      go_wp2_with (first
        | (refine wpList_buildTo rfl 28 _ rfl (some _) rfl D (by rw [← HD.out]; kernel_rfl) ?_)
        | (refine wpList_store_row rfl _ _ _ rfl W.heap.size D rfl rfl 28 _ (heap_alloc_new W _) (by rw [HD1.out]; exact info_pk) (by rw [HZ.out, HD1.out]) HD2.out ?_)
        | (refine wpList_load_row rfl _ _ rfl W.heap.size rfl 28 D (0, 0) _ G2.out Tryz.underlying28 rfl (by rw [HD1.out]; exact info_pk) ?_))
      refine (BO.out _).mono ?_
      rintro e W3 ⟨rfl, hb⟩
      have L3 := Lib.hid (below_then L2.out hb)
      clear hb
      go_wp2_with fail
      go_ret
      exact ⟨rfl, L3.out⟩
    · have h1 : 0 < q := by omega
      have h2 : (0 : Int) < (n : Int) := by
        rw [beq_iff_eq, decide_eq_decide] at hr
        exact hr.1 h1
      have h3 : decide (0 < n) = true := decide_eq_true (by omega)
      have h4 : decide ((0 : Int) < (n : Int)) = true := decide_eq_true h2
      have h5 : decide (0 < q) = true := decide_eq_true h1
      rw [if_neg h0, be_two] at BO
      have hc : (bs (enc2 s.data.toList ++ ([UInt8.ofNat (n / 256), UInt8.ofNat n] ++ t.data.toList))).extract 2 (bs (enc2 s.data.toList ++ ([UInt8.ofNat (n / 256), UInt8.ofNat n] ++ t.data.toList))).size = s ++ bs [UInt8.ofNat (n / 256), UInt8.ofNat n] ++ t := by
        rw [cut_two _, drop_enc, ← bs_append, ← bs_append, ← ByteArray.append_assoc]; rfl
      have hz : ((bs (enc2 s.data.toList ++ ([UInt8.ofNat (n / 256), UInt8.ofNat n] ++ t.data.toList))).size : Int) = (s.size : Int) + 4 + (t.size : Int) := by rw [bs_size, List.length_append, enc2_length, List.length_append, size_list, size_list, List.length_cons, List.length_cons, List.length_nil]; omega
      have hs0 : (s.size : Int) ≤ 300 := by omega
      have ht0 : (t.size : Int) ≤ 300 := by omega
      generalize bs (enc2 s.data.toList ++ ([UInt8.ofNat (n / 256), UInt8.ofNat n] ++ t.data.toList)) = Z at *
      replace BO := Lib.hid BO
      clear hs ht hN hn hk hl1 hl2 hv hB hD hD1 hD2 hq0 hq2 hr h0
      go_enter Tryz.func7, Tryz.ntmps7
      go_wp2_with fail
      refine (lives_pub _).mono ?_
      rintro e W ⟨rfl, hb⟩
      have L1 := Lib.hid hb
      clear hb
      go_wp2_with fail
      refine (NM.out _).mono ?_
      rintro e W' ⟨rfl, rfl⟩
      go_wp2_with fail
      refine (PI.out _).mono ?_
      rintro e W' ⟨rfl, rfl⟩
      have L2 := Lib.hid (below_then L1.out (LB.out W))
      have G2 := Lib.hid (setRow_heap _ _ _ D _ _ (heap_alloc_new W (.cells pkZ 28)))
      go_wp2_with (first
        | (refine wpList_buildTo rfl 28 _ rfl (some _) rfl D (by rw [← HD.out]; kernel_rfl) ?_)
        | (refine wpList_store_row rfl _ _ _ rfl W.heap.size D rfl rfl 28 _ (heap_alloc_new W _) (by rw [HD1.out]; exact info_pk) (by rw [HZ.out, HD1.out]) HD2.out ?_)
        | (refine wpList_load_row rfl _ _ rfl W.heap.size rfl 28 D (0, 0) _ G2.out Tryz.underlying28 rfl (by rw [HD1.out]; exact info_pk) ?_))
      refine (BO.out _).mono ?_
      rintro e W3 ⟨rfl, hb⟩
      have L3 := Lib.hid (below_then L2.out hb)
      clear hb
      have CV : (convert 51 9 (.slice (some ⟨W3.heap.size, 0, none⟩) 2 2)).run Tryz.prog (W3.alloc (.cells #[.int .u8 ((UInt8.ofNat (n / 256)).toNat : Int), .int .u8 ((UInt8.ofNat n).toNat : Int)] 5)) = .ok (.string (bs [UInt8.ofNat (n / 256), UInt8.ofNat n])) (W3.alloc (.cells #[.int .u8 ((UInt8.ofNat (n / 256)).toNat : Int), .int .u8 ((UInt8.ofNat n).toNat : Int)] 5)) :=
        conv_own (base := W3.heap.size) [UInt8.ofNat (n / 256), UInt8.ofNat n] ⟨rfl, .inr ⟨_, 2, _, rfl, Nat.le_refl _, heap_alloc_new W3 _, Nat.le_refl _, by decide, rfl, rfl⟩⟩
      rw [show (((UInt8.ofNat (n / 256)).toNat : Nat) : Int) = (n : Int) / 256 % 256 by rw [UInt8.toNat_ofNat']; omega, show (((UInt8.ofNat n).toNat : Nat) : Int) = (n : Int) % 256 by rw [UInt8.toNat_ofNat']; omega] at CV
      have L4 := Lib.hid (below_then L3.out (below_box (.cells #[.int .u8 ((n : Int) / 256 % 256), .int .u8 ((n : Int) % 256)] 5)))
      have hy : (bs [UInt8.ofNat (n / 256), UInt8.ofNat n]).size = 2 := rfl
      generalize bs [UInt8.ofNat (n / 256), UInt8.ofNat n] = Y at *
      have hy1 : ¬ 9223372036854775807 < s.size + Y.size := by omega
      have hy2 : ¬ 9223372036854775807 < (s ++ Y).size + t.size := by rw [ByteArray.size_append]; omega
      go_wp2_with fail
      go_ret
      exact ⟨rfl, L4.out⟩
  · have hrr : (decide (0 < q) == decide ((0 : Int) < (n : Int))) = false := by simpa using hr
    clear hr
    rw [hrr, if_neg (by decide)] at BO
    replace BO := Lib.hid BO
    have hx : (decide (0 < q) = true ∧ n = 0) ∨ (decide (0 < q) = false ∧ 0 < n) := by
      rw [beq_eq_false_iff_ne] at hrr
      by_cases h1 : 0 < q
      · refine .inl ⟨decide_eq_true h1, ?_⟩
        rw [decide_eq_true h1] at hrr
        by_cases h2 : (0 : Int) < (n : Int)
        · exact absurd (decide_eq_true h2).symm hrr
        · omega
      · refine .inr ⟨decide_eq_false h1, ?_⟩
        rw [decide_eq_false h1] at hrr
        by_cases h2 : (0 : Int) < (n : Int)
        · omega
        · exact absurd (decide_eq_false h2).symm hrr
    rcases hx with ⟨h5, rfl⟩ | ⟨h5, h2⟩
    · clear hrr
      clear hs ht hN hn hk hl1 hl2 hv hB hD hD1 hD2 hq0 hq2 
      go_enter Tryz.func7, Tryz.ntmps7
      go_wp2_with fail
      refine (lives_pub _).mono ?_
      rintro e W ⟨rfl, hb⟩
      have L1 := Lib.hid hb
      clear hb
      go_wp2_with fail
      refine (NM.out _).mono ?_
      rintro e W' ⟨rfl, rfl⟩
      go_wp2_with fail
      refine (PI.out _).mono ?_
      rintro e W' ⟨rfl, rfl⟩
      have L2 := Lib.hid (below_then L1.out (LB.out W))
      have G2 := Lib.hid (setRow_heap _ _ _ D _ _ (heap_alloc_new W (.cells pkZ 28)))
      go_wp2_with (first
        | (refine wpList_buildTo rfl 28 _ rfl (some _) rfl D (by rw [← HD.out]; kernel_rfl) ?_)
        | (refine wpList_store_row rfl _ _ _ rfl W.heap.size D rfl rfl 28 _ (heap_alloc_new W _) (by rw [HD1.out]; exact info_pk) (by rw [HZ.out, HD1.out]) HD2.out ?_)
        | (refine wpList_load_row rfl _ _ rfl W.heap.size rfl 28 D (0, 0) _ G2.out Tryz.underlying28 rfl (by rw [HD1.out]; exact info_pk) ?_))
      refine (BO.out _).mono ?_
      rintro e W3 ⟨rfl, hb⟩
      have L3 := Lib.hid (below_then L2.out hb)
      clear hb
      go_wp2_with fail
      go_ret
      exact ⟨congrArg (fun b => Ending.returned (Value.bool b)) (show (bs []).toList.isEmpty = true by rw [bs_toList]; rfl), L3.out⟩
    · have h3 : decide (0 < n) = true := decide_eq_true h2
      have h4 : decide ((0 : Int) < (n : Int)) = true := decide_eq_true (by omega)
      clear hrr h2
      clear hs ht hN hn hk hl1 hl2 hv hB hD hD1 hD2 hq0 hq2 
      go_enter Tryz.func7, Tryz.ntmps7
      go_wp2_with fail
      refine (lives_pub _).mono ?_
      rintro e W ⟨rfl, hb⟩
      have L1 := Lib.hid hb
      clear hb
      go_wp2_with fail
      refine (NM.out _).mono ?_
      rintro e W' ⟨rfl, rfl⟩
      go_wp2_with fail
      refine (PI.out _).mono ?_
      rintro e W' ⟨rfl, rfl⟩
      have L2 := Lib.hid (below_then L1.out (LB.out W))
      have G2 := Lib.hid (setRow_heap _ _ _ D _ _ (heap_alloc_new W (.cells pkZ 28)))
      go_wp2_with (first
        | (refine wpList_buildTo rfl 28 _ rfl (some _) rfl D (by rw [← HD.out]; kernel_rfl) ?_)
        | (refine wpList_store_row rfl _ _ _ rfl W.heap.size D rfl rfl 28 _ (heap_alloc_new W _) (by rw [HD1.out]; exact info_pk) (by rw [HZ.out, HD1.out]) HD2.out ?_)
        | (refine wpList_load_row rfl _ _ rfl W.heap.size rfl 28 D (0, 0) _ G2.out Tryz.underlying28 rfl (by rw [HD1.out]; exact info_pk) ?_))
      refine (BO.out _).mono ?_
      rintro e W3 ⟨rfl, hb⟩
      have L3 := Lib.hid (below_then L2.out hb)
      clear hb
      go_wp2_with fail
      go_ret
      exact ⟨congrArg (fun b => Ending.returned (Value.bool b)) (show (bs []).toList.isEmpty = true by rw [bs_toList]; rfl), L3.out⟩
set_option maxHeartbeats 2000000 in
set_option maxRecDepth 100000 in
theorem pubids_walk (s t : ByteArray) (n : Nat) (k : Int) (w : World) (hn : n ≤ 65535) (hS : s.size ≤ 9223372036854775807) (hT : t.size ≤ 9223372036854775807) :
    Calls Tryz.prog 7 #[.string s, .string t, .int .u16 n, .int .i64 k] w fun e w' => e = .returned (.bool true) ∧ Below w.heap.size w w' := by
  by_cases h1 : 300 < s.size
  · have g1 : decide ((300 : Int) < (s.size : Int)) = true := decide_eq_true (by omega)
    clear h1 hn hS hT
    go_enter Tryz.func7, Tryz.ntmps7
    go_wp2_with fail
    refine (lives_pub _).mono ?_
    rintro e W ⟨rfl, hb⟩
    have L1 := Lib.hid hb
    clear hb
    go_wp2_with fail
    go_ret
    exact ⟨rfl, L1.out⟩
  by_cases h2 : 300 < t.size
  · have g1 : decide ((300 : Int) < (s.size : Int)) = false := decide_eq_false (by omega)
    have g2 : decide ((300 : Int) < (t.size : Int)) = true := decide_eq_true (by omega)
    clear h1 h2 hn hS hT
    go_enter Tryz.func7, Tryz.ntmps7
    go_wp2_with fail
    refine (lives_pub _).mono ?_
    rintro e W ⟨rfl, hb⟩
    have L1 := Lib.hid hb
    clear hb
    go_wp2_with fail
    go_ret
    exact ⟨rfl, L1.out⟩
  cases hN : nameL s.data.toList with
  | true => exact pubids_main s t n k _ w (by omega) (by omega) hN hn rfl
  | false =>
    have g1 : decide ((300 : Int) < (s.size : Int)) = false := decide_eq_false (by omega)
    have g2 : decide ((300 : Int) < (t.size : Int)) = false := decide_eq_false (by omega)
    have NM := fun W => (ref_name s W (by omega)).mono fun e W' (hh : _ ∧ W = W') => hh
    rw [hN] at NM
    replace NM := Lib.hid NM
    clear h1 h2 hn hS hT hN
    go_enter Tryz.func7, Tryz.ntmps7
    go_wp2_with fail
    refine (lives_pub _).mono ?_
    rintro e W ⟨rfl, hb⟩
    have L1 := Lib.hid hb
    clear hb
    go_wp2_with fail
    refine (NM.out _).mono ?_
    rintro e W' ⟨rfl, rfl⟩
    go_wp2_with fail
    go_ret
    exact ⟨rfl, L1.out⟩
end Go.Proofs.YtaahhbjnflimnaaGreat
