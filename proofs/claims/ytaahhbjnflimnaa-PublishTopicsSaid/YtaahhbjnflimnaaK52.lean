/-
  The contract of publish.Body. Condition: the packet's fields are what their types hold; at most 70,000 properties, within their capacity.
  The chapter's example of layer 9: polyglotlaw09.one and lives. No condition.
-/
import Derived.Deep.DeepCutAuto
import Derived.Test.YtaahhbjnflimnaaK51
import Derived.Test.YtaahhbjnflimnaaK49
import Derived.Test.YtaahhbjnflimnaaK16
import Derived.Test.YtaahhbjnflimnaaK37
import Derived.Test.YtaahhbjnflimnaaK23
import Derived.Test.YtaahhbjnflimnaaK45
import Derived.Test.YtaahhbjnflimnaaK30
namespace Go.Proofs.Ytaahhbjnflimnaa
open Go.RowKit

theorem id_range {p : Pk} (h : idU p = true) : p.qos = 0 ∨ (p.qos ≠ 0 ∧ 0 < p.id ∧ p.id ≤ 65535) := by
  unfold idU at h
  by_cases hq : p.qos = 0
  · exact .inl hq
  · rw [if_neg hq, Bool.and_eq_true, decide_eq_true_eq, decide_eq_true_eq] at h
    exact .inr ⟨hq, h.1, h.2⟩
def idL (p : Pk) : List UInt8 := if p.qos = 0 then [] else be p.id.toNat 2
set_option maxRecDepth 100000 in
theorem pub_id (p : Pk) (a : Ad) (w : World) (hi : idU p = true) : Calls Try.prog 27 #[.agg (pkC p a)] w fun e w' => e = .returned (.string (bs (idL p))) ∧ Below w.heap.size w w' := by
  have S0 := Lib.hid (BxS.made w p a)
  have c3 : (w.alloc (.cells (pkC p a) 30)).cell? ⟨w.heap.size, 3, none⟩ = some (.int .i64 p.qos) := S0.out.cell 3
  have c4 : (w.alloc (.cells (pkC p a) 30)).cell? ⟨w.heap.size, 4, none⟩ = some (.int .i64 p.id) := S0.out.cell 4
  unfold idL
  rcases id_range hi with hq | ⟨hq, h0, h1⟩
  · rw [if_pos hq]
    have e1 : (p.qos == 0) = true := by simpa using hq
    clear hq hi
    generalize p.qos = q at *
    go_enter Try.func27, Try.ntmps27
    go_wp2_with fail
    go_ret
    exact ⟨rfl, S0.out.low⟩
  · rw [if_neg hq]
    have e1 : (p.qos == 0) = false := by simpa using hq
    obtain ⟨n, hn⟩ : ∃ n : Nat, p.id = n := ⟨p.id.toNat, by omega⟩
    rw [hn] at c4 h0 h1 ⊢
    have PU := Lib.hid (fun W => put_any n 2 W (by omega))
    have h2 : (n : Int) < 65536 := by omega
    rw [Int.toNat_natCast]
    clear hq hi hn
    generalize p.qos = q at *
    go_enter Try.func27, Try.ntmps27
    go_wp2_with fail
    refine (PU.out _).mono ?_
    rintro e W ⟨rfl, hb⟩
    have L := Lib.hid (S0.out.call hb)
    clear hb
    go_wp2_with fail
    go_ret
    exact ⟨rfl, L.out.low⟩
set_option maxRecDepth 100000 in
theorem pub_props (v : Int) (p : Pk) (a : Ad) (w : World) (hp : PkAt w p a) (ok : PkOk p) (hc : p.props.length ≤ a.pc) : Calls Try.prog 28 #[.int .i64 v, .agg (pkC p a)] w fun e w' => e = .returned (.string (bs (tailC v 3 p.props))) ∧ Below w.heap.size w w' := by
  have S0 := Lib.hid (BxS.made w p a)
  have c24 : (w.alloc (.cells (pkC p a) 30)).cell? ⟨w.heap.size, 24, none⟩ = some (.slice a.ps p.props.length a.pc) := S0.out.cell 24
  have BY := Lib.hid (bytes_list 3 a.ps p.props.length a.pc p.props (w.alloc (.cells (pkC p a) 30)) (by decide) (by decide) (hp.below S0.out.low).ps rfl hc (fun x hx => (ok.pps x hx).1))
  unfold tailC
  by_cases h5 : v = 5
  · rw [if_pos h5]
    have e1 : (v == 5) = true := by simpa using h5
    have e2 : (v != 5) = false := by simpa using h5
    clear h5 hp ok hc
    go_enter Try.func28, Try.ntmps28
    go_wp2_with fail
    refine (BY.out).mono ?_
    rintro e W ⟨rfl, hb⟩
    have L := Lib.hid (below_then S0.out.low hb)
    clear hb
    go_wp2_with fail
    go_ret
    exact ⟨rfl, L.out⟩
  · rw [if_neg h5]
    have e1 : (v == 5) = false := by simpa using h5
    have e2 : (v != 5) = true := by simpa using h5
    clear h5 hp ok hc BY
    go_enter Try.func28, Try.ntmps28
    go_wp2_with fail
    go_ret
    exact ⟨rfl, S0.out.low⟩
theorem raw_u (v : Int) (p : Pk) : rawU v p = enc2 p.topic ++ idL p ++ tailC v 3 p.props ++ p.payload := by simp [rawU, idL]
theorem id_len (p : Pk) : (idL p).length ≤ 2 := by
  unfold idL
  split
  · exact Nat.zero_le _
  · rw [be_length]; exact Nat.le_refl _
theorem raw_u_len {v : Int} {p : Pk} (ok : PkOk p) (h : validU v p = 0) : (enc2 p.topic).length ≤ 65537 ∧ (tailC v 3 p.props).length ≤ 300000000 ∧ p.payload.length ≤ 140737488351232 := by
  obtain ⟨_, _, _, _, _, ht, hp, _⟩ := valid_u h
  have hl := ((validOf_iff _).1 (topic_u ht)).1
  refine ⟨by rw [enc2_length]; omega, ?_, ok.texts _ (by simp [Pk.texts])⟩
  refine tail_len ?_
  unfold rightC
  split
  · exact hp
  · rfl
set_option maxRecDepth 100000 in
set_option maxHeartbeats 2000000 in
theorem pub_body (v : Int) (p : Pk) (a : Ad) (w : World) (hp : PkAt w p a) (sp : Short p) (ok : PkOk p) (hc : p.props.length ≤ a.pc) :
    Calls Try.prog 8 #[.int .i64 v, .agg (pkC p a)] w fun e w' => e = .returned (.tuple #[.string (bs (bodyU v p).1), .int .i64 ((bodyU v p).2 : Nat)]) ∧ Below w.heap.size w w' := by
  have S0 := Lib.hid (BxS.made w p a)
  have C1 := Lib.hid (pkC_size p a)
  have VA := fun W (h : BxS w p a W) => pub_valid v p a W (hp.below h.low) sp ok hc
  unfold bodyU
  by_cases hv : validU v p = 0
  · rw [if_neg (by simpa using hv), raw_u]
    rw [hv] at VA
    obtain ⟨l1, l2, l3⟩ := raw_u_len ok hv
    have hi := (valid_u hv).2.2.2.1
    have ht := (valid_u hv).2.2.2.2.2.1
    have l4 := id_len p
    have TX := fun W => text_yes (bs p.topic) W (by rw [bs_data]; exact topic_u ht)
    rw [bs_data] at TX
    have ID := fun W (h : BxS w p a W) => (pub_id p a W hi).mono fun e W' hh => (⟨hh.1, h.call hh.2⟩ : _ ∧ BxS w p a W')
    have PR := fun W (h : BxS w p a W) => (pub_props v p a W (hp.below h.low) ok hc).mono fun e W' hh => (⟨hh.1, h.call hh.2⟩ : _ ∧ BxS w p a W')
    have K5 := Lib.hid (fun W (h : BxS w p a W) => (h.cell 5 : W.cell? ⟨w.heap.size, 5, none⟩ = some (.string (bs p.topic))))
    have e1 : bs (enc2 p.topic) ++ bs (idL p) = bs (enc2 p.topic ++ idL p) := bs_append _ _
    have e2 : bs (enc2 p.topic ++ idL p) ++ bs (tailC v 3 p.props) = bs (enc2 p.topic ++ idL p ++ tailC v 3 p.props) := bs_append _ _
    have e3 : bs (enc2 p.topic ++ idL p ++ tailC v 3 p.props) ++ bs p.payload = bs (enc2 p.topic ++ idL p ++ tailC v 3 p.props ++ p.payload) := bs_append _ _
    have s1 : (bs (enc2 p.topic ++ idL p)).size ≤ 9223372036854775807 := by rw [bs_size]; simp only [List.length_append]; omega
    have s2 : (bs (enc2 p.topic ++ idL p ++ tailC v 3 p.props)).size ≤ 9223372036854775807 := by rw [bs_size]; simp only [List.length_append]; omega
    have s3 : (bs (enc2 p.topic ++ idL p ++ tailC v 3 p.props ++ p.payload)).size ≤ 9223372036854775807 := by rw [bs_size]; simp only [List.length_append]; omega
    have AD := Lib.hid (And.intro (And.intro e1 s1) (And.intro (And.intro e2 s2) (And.intro e3 s3)))
    replace VA := Lib.hid VA
    replace TX := Lib.hid TX
    replace ID := Lib.hid ID
    replace PR := Lib.hid PR
    clear hp sp ok hc hv l1 l2 l3 l4 hi ht e1 e2 e3 s1 s2 s3
    go_enter Try.func8, Try.ntmps8
    go_wp2_with (refine wpList_load_row rfl _ _ rfl w.heap.size rfl 30 _ (0, 0) _ S0.out.box Try.underlying30 rfl (by rw [C1.out]; exact info_pk) ?_)
    refine (VA.out _ S0.out).mono ?_
    rintro e W ⟨rfl, hb⟩
    have S1 := Lib.hid (S0.out.call hb)
    have k5 : W.cell? ⟨w.heap.size, 5, none⟩ = some (.string (bs p.topic)) := K5.out W S1.out
    clear hb S0
    go_wp2_with fail
    refine (TX.out _).mono ?_
    rintro e W2 ⟨rfl, hb⟩
    have S2 := Lib.hid (S1.out.call hb)
    clear hb S1 k5
    go_upto_region 5 with fail
    refine pb_body (S := BxS w p a) (b := w.heap.size) (v := v) (C := pkC p a) S2.out.draw C1.out (fun W h => h.box) (fun W h => h.cell 6) ID.out PR.out AD.out.1.1 AD.out.1.2 AD.out.2.1.1 AD.out.2.1.2 AD.out.2.2.1 AD.out.2.2.2 ?_
    intro W h
    have LO := Lib.hid h.low
    clear h
    go_wp2_with fail
    go_ret2
    exact ⟨rfl, LO.out⟩
  · rw [if_pos hv]
    generalize validU v p = R at *
    have hr1 : ((R : Int) == 0) = false := by simp; omega
    have hr2 : ((R : Int) != 0) = true := by simp; omega
    replace VA := Lib.hid VA
    clear hv hp sp ok hc
    go_enter Try.func8, Try.ntmps8
    go_wp2_with (refine wpList_load_row rfl _ _ rfl w.heap.size rfl 30 _ (0, 0) _ S0.out.box Try.underlying30 rfl (by rw [C1.out]; exact info_pk) ?_)
    refine (VA.out _ S0.out).mono ?_
    rintro e W ⟨rfl, hb⟩
    have LO := Lib.hid (below_then S0.out.low hb)
    clear hb
    go_wp2_with fail
    go_ret2
    exact ⟨rfl, LO.out⟩
end Go.Proofs.Ytaahhbjnflimnaa
namespace Go.Proofs.Ytaahhbjnflimnaa
open Go.RowKit

def oneU : Pk := { Pk.zero with kind := 3, qos := 1, id := 10, topic := [97, 47, 98], payload := [104, 105] }
theorem plain_at (p : Pk) (W : World) (h : p.wProps = [] ∧ p.codes = [] ∧ p.filters = [] ∧ p.props = []) : PkAt W p adZ :=
  ⟨by rw [h.1]; exact fun e => absurd rfl e, by rw [h.2.1]; exact fun e => absurd rfl e, by rw [h.2.2.1]; exact fun e => absurd rfl e, by rw [h.2.2.2]; exact fun e => absurd rfl e⟩
theorem one_ok : PkOk oneU := by
  refine ⟨by decide, by decide, fun t ht => ?_, fun x hx => (nomatch hx), fun x hx => (nomatch hx), fun x hx => (nomatch hx)⟩
  simp only [Pk.texts, oneU, Pk.zero, List.mem_cons, List.not_mem_nil, or_false] at ht
  rcases ht with rfl | rfl | rfl | rfl | rfl | rfl | rfl <;> decide
theorem one_body (v : Int) (w : World) : Calls Try.prog 8 #[.int .i64 v, .agg (pkC oneU adZ)] w fun e w' => e = .returned (.tuple #[.string (bs (bodyU v oneU).1), .int .i64 ((bodyU v oneU).2 : Nat)]) ∧ Below w.heap.size w w' :=
  pub_body v oneU adZ w (plain_at oneU w ⟨rfl, rfl, rfl, rfl⟩) ⟨by decide, by decide, by decide, by decide⟩ one_ok (Nat.zero_le _)
set_option maxRecDepth 100000 in
theorem pub_one (w : World) : Calls Try.prog 9 #[] w fun e w' => e = .returned (.agg (pkC oneU adZ)) ∧ Below w.heap.size w w' := by
  obtain ⟨D, hD⟩ : ∃ D, pkC oneU adZ = D := ⟨_, rfl⟩
  have hD1 : D.size = 25 := by rw [← hD]; exact pkC_size _ _
  have hD2 : D.all (·.oneCell') = true := by rw [← hD]; exact pkC_one _ _
  rw [hD]
  have HD := Lib.hid hD
  have HD1 := Lib.hid hD1
  have HD2 := Lib.hid hD2
  have HZ := Lib.hid pkZ_size
  have hzv := zero_pk
  have hne : ¬ pkZ = #[] := by intro h; have := pkZ_size; rw [h] at this; cases this
  have LO := Lib.hid (belowRow (below_box (w := w) (.cells pkZ 30)) (Nat.le_refl _) D)
  clear hD hD1 hD2
  go_enter Try.func9, Try.ntmps9
  go_wp2_with (first
    | (refine wpList_buildTo rfl 30 _ rfl (some _) rfl D (by rw [← HD.out]; kernel_rfl) ?_)
    | (refine wpList_store_row rfl _ _ _ rfl w.heap.size D rfl rfl 30 _ (heap_alloc_new w _) (by rw [HD1.out]; exact info_pk) (by rw [HZ.out, HD1.out]) HD2.out ?_))
  exact ret_row (cs := D) rfl rfl rfl Try.underlying30 rfl (by rw [HD1.out]; exact info_pk) (setRow_heap _ _ _ _ _ _ (heap_alloc_new w _)) ⟨rfl, LO.out⟩
theorem one_raw : bodyU 4 oneU = ([0, 3, 97, 47, 98, 0, 10, 104, 105], 0) := by decide +kernel
set_option maxRecDepth 100000 in
theorem lives_pub (w : World) : Calls Try.prog 4 #[] w fun e w' => e = .returned (.bool true) ∧ Below w.heap.size w w' := by
  have BO := fun W => one_body 4 W
  rw [one_raw] at BO
  replace BO := Lib.hid BO
  go_enter Try.func4, Try.ntmps4
  go_wp2_with fail
  refine (pub_one _).mono ?_
  rintro e W ⟨rfl, hb⟩
  have L1 := Lib.hid hb
  clear hb
  go_wp2_with fail
  refine (BO.out _).mono ?_
  rintro e W2 ⟨rfl, hb⟩
  have L2 := Lib.hid (below_then L1.out hb)
  clear hb
  have hs : ((bs [0, 3, 97, 47, 98, 0, 10, 104, 105]).toList == [0, 3, 97, 47, 98, 0, 10, 104, 105]) = true := by rw [bs_toList]; decide
  go_wp2_with fail
  go_ret
  exact ⟨rfl, L2.out⟩
end Go.Proofs.Ytaahhbjnflimnaa
