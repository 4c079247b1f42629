/-
  The walk of PublishNames. No condition.
-/
import Derived.Deep.DeepCutAuto
import Derived.Test.YtaahhbjnflimnaaGreatK21
import Derived.Test.YtaahhbjnflimnaaGreatK28
import Derived.Test.YtaahhbjnflimnaaGreatK42
import Derived.Test.YtaahhbjnflimnaaGreatK52
import Derived.Test.YtaahhbjnflimnaaGreatK27
namespace Go.Proofs.YtaahhbjnflimnaaGreat
open Go.RowKit

/-- The law's packets: one without an ID; of QoS 0 with an ID; a duplicate of QoS 0; with a client's name; with properties; with a wrong topic; of an alias. -/
def noneU : Pk := { oneU with id := 0 }
def zeroU : Pk := { Pk.zero with kind := 3, topic := [97], id := 1 }
def dupU : Pk := { Pk.zero with kind := 3, topic := [97], dup := true }
def cliU : Pk := { oneU with client := [99] }
def proU : Pk := { oneU with props := [⟨1, 1, [], []⟩] }
def plusU : Pk := { Pk.zero with kind := 3, topic := [97, 43] }
def aliU : Pk := { Pk.zero with kind := 3, retain := true, payload := [120], props := [⟨35, 7, [], []⟩] }
theorem un_valid {p : Pk} (hb : bareP p = true) (v : Int) {k : Int} (h : ((validU v p : Nat) : Int) = k) : ∀ W, Calls Tryz.prog 25 #[.int .i64 v, .agg (pkC p adZ)] W fun e w' => e = .returned (.int .i64 k) ∧ Below W.heap.size W w' := fun W => by
  obtain ⟨h1, h2, h3, h4⟩ := bare_parts hb
  have := pub_valid v p adZ W (h1 W) h2 h3 h4.pc
  rw [h] at this
  exact this
theorem pro_ok : PkOk proU := by
  refine ⟨by decide, by decide, fun t ht => ?_, fun x hx => (nomatch hx), fun x hx => ?_, fun x hx => (nomatch hx)⟩
  · simp only [Pk.texts, proU, oneU, Pk.zero, List.mem_cons, List.not_mem_nil, or_false] at ht
    rcases ht with rfl | rfl | rfl | rfl | rfl | rfl | rfl <;> decide
  · obtain rfl : x = ⟨1, 1, [], []⟩ := by simpa [proU] using hx
    exact ⟨⟨by decide, by decide, by decide, by decide, by decide⟩, by decide, by decide⟩
def proA (g : Nat) : Ad := { adZ with ps := some ⟨g, 0, none⟩, pc := 1 }
theorem pro_valid (v : Int) (g : Nat) {k : Int} (h : ((validU v proU : Nat) : Int) = k) : ∀ W, PL W (some ⟨g, 0, none⟩) proU.props → Calls Tryz.prog 25 #[.int .i64 v, .agg (pkC proU (proA g))] W fun e w' => e = .returned (.int .i64 k) ∧ Below W.heap.size W w' := fun W hp => by
  have := pub_valid v proU (proA g) W ⟨fun e => absurd rfl e, CL.nil, CL.nil, hp⟩ ⟨by decide, by decide, by decide, by decide⟩ pro_ok (Nat.le_refl _)
  rw [h] at this
  exact this
theorem un_read (v f : Int) (s : ByteArray) {n : Nat} {E : Int} (hm : s.size ≤ 100) (h : (readU v f s.data.toList).2 = n) (hn : n ≠ 0) (he : (n : Int) = E) : ∀ W, Calls Tryz.prog 23 #[.int .i64 v, .int .i64 f, .string s] W fun e w' => e = .returned (.tuple #[.agg pkZ, .int .i64 E]) ∧ Below W.heap.size W w' := fun W => by
  refine (pub_read v f s W (by omega)).mono ?_
  rintro e w' ⟨a, rfl, _, _, _, hb, hz⟩
  refine ⟨?_, hb⟩
  have h0 : (readU v f s.data.toList).2 ≠ 0 := by rw [h]; exact hn
  rw [hz h0, readU_err h0, h, he]
  rfl
theorem un_read0 (v f : Int) (s : ByteArray) (p : Pk) (hm : s.size ≤ 100) (h : readU v f s.data.toList = (p, 0)) : ∀ W, Calls Tryz.prog 23 #[.int .i64 v, .int .i64 f, .string s] W fun e w' => ∃ a, e = .returned (.tuple #[.agg (pkC p a), .int .i64 0]) ∧ PkAt w' p a ∧ Below W.heap.size W w' := fun W => by
  refine (pub_read v f s W (by omega)).mono ?_
  rw [h]
  rintro e w' ⟨a, rfl, h1, _, _, hb, _⟩
  exact ⟨a, rfl, h1, hb⟩
/-- What stands at the law's end: the packets, and the properties of one of them. -/
def PnS (V : World) (g : Nat) (L : List (Nat × Array Value)) (W : World) : Prop := NmS V L W ∧ PL W (some ⟨g, 0, none⟩) proU.props
theorem PnS.call {V W W' : World} {g : Nat} {L : List (Nat × Array Value)} (h : PnS V g L W) (hb : Below W.heap.size W W') : PnS V g L W' := ⟨h.1.call hb, h.2.below hb⟩
theorem pro_made (W : World) (b : Nat) (hb : b < W.heap.size) (u : Value) : PL ((W.alloc (.cells #[.int .i64 1, .int .u32 1, .string ⟨#[]⟩, .string ⟨#[]⟩] 46)).setCell ⟨b, 24, none⟩ u) (some ⟨W.heap.size, 0, none⟩) proU.props := by
  refine (PL.made W proU.props #[.int .i64 1, .int .u32 1, .string ⟨#[]⟩, .string ⟨#[]⟩] 46 ?_).kept (by simp) (fun g' i e _ => ?_)
  · rfl
  · have hh : g' = W.heap.size := by have := Option.some.inj e; exact (congrArg Addr.block this).symm
    subst hh
    exact heap_setCell_other _ ⟨b, 24, none⟩ _ u (by show W.heap.size ≠ b; omega)
set_option maxHeartbeats 8000000 in
set_option maxRecDepth 100000 in
theorem pubname_walk (w : World) :
    Calls Tryz.prog 4 #[] w fun e w' => e = .returned (.bool true) ∧ Below w.heap.size w w' := by
  have HZ := Lib.hid pkZ_size
  have hzv := zero_pk
  have hne : ¬ pkZ = #[] := by intro h; have := pkZ_size; rw [h] at this; cases this
  have ZO : pkZ.all (·.oneCell') = true := pkC_one Pk.zero adZ
  have PO := Lib.hid pub_one
  have BO := fun W => one_body 5 W
  rw [show bodyU 5 oneU = ([0, 3, 97, 47, 98, 0, 10, 0, 104, 105], 0) by decide +kernel] at BO
  obtain ⟨A, hA⟩ : ∃ A, bs [0, 3, 97, 47, 98, 0, 10, 0, 104, 105] = A := ⟨_, rfl⟩
  simp only [hA] at BO
  replace BO := Lib.hid BO
  have IA := Lib.hid (show A = ⟨#[0, 3, 97, 47, 98, 0, 10, 0, 104, 105]⟩ by rw [← hA]; rfl)
  clear hA
  have R3 := Lib.hid (un_read0 4 2 ⟨#[0, 3, 97, 47, 98, 0, 10, 104, 105]⟩ oneU (by decide) (by decide +kernel))
  have RQ := Lib.hid (un_read0 5 1 ⟨#[0, 0, 3, 35, 0, 7, 120]⟩ aliU (by decide) (by decide +kernel))
  have R5 := Lib.hid (un_read 4 6 ⟨#[]⟩ (n := 7) (by decide) (by decide +kernel) (by decide) (E := 7) rfl)
  have R6 := Lib.hid (un_read 4 2 ⟨#[0, 3, 97, 47, 98, 0]⟩ (n := 3) (by decide) (by decide +kernel) (by decide) (E := 3) rfl)
  have R7 := Lib.hid (un_read 4 2 ⟨#[0, 3, 97, 47, 98, 0, 0]⟩ (n := 2) (by decide) (by decide +kernel) (by decide) (E := 2) rfl)
  have R8 := Lib.hid (un_read 4 0 ⟨#[0, 1, 35]⟩ (n := 10) (by decide) (by decide +kernel) (by decide) (E := 10) rfl)
  have R9 := Lib.hid (un_read 5 0 ⟨#[0, 0, 0, 120]⟩ (n := 10) (by decide) (by decide +kernel) (by decide) (E := 10) rfl)
  have VN := Lib.hid (un_valid (p := noneU) (by decide +kernel) 5 (k := 2) (by decide +kernel))
  have VZ := Lib.hid (un_valid (p := zeroU) (by decide +kernel) 5 (k := 2) (by decide +kernel))
  have VD := Lib.hid (un_valid (p := dupU) (by decide +kernel) 5 (k := 7) (by decide +kernel))
  have VC := Lib.hid (un_valid (p := cliU) (by decide +kernel) 5 (k := 2) (by decide +kernel))
  have VP4 := Lib.hid (fun g => pro_valid 4 g (k := 2) (by decide +kernel))
  have VP5 := Lib.hid (fun g => pro_valid 5 g (k := 0) (by decide +kernel))
  have VE := Lib.hid (un_valid (p := oneU) (by decide +kernel) 3 (k := 2) (by decide +kernel))
  have VA := Lib.hid (un_valid (p := plusU) (by decide +kernel) 5 (k := 10) (by decide +kernel))
  go_enter Tryz.func4, Tryz.ntmps4
  go_wp2_with fail
  refine (lives_pub _).mono ?_
  rintro e W0 ⟨rfl, hb⟩
  have S0 : Hid (NmS w [] W0) := Lib.hid ⟨hb, (fun x hx => nomatch hx), .nil⟩
  clear hb
  go_wp2_with fail
  refine (PO.out _).mono ?_
  rintro e Wa ⟨rfl, hb⟩
  have Sa := Lib.hid (S0.out.call hb)
  clear hb S0
  go_wp2_with fail
  refine (BO.out _).mono ?_
  rintro e Wb ⟨rfl, hb⟩
  have Sb := Lib.hid (Sa.out.call hb)
  clear hb Sa
  go_wp2_with fail
  refine (R3.out _).mono ?_
  rintro e W3 ⟨a3, rfl, at3, hb⟩
  have P1 := Lib.hid (pkC_size oneU a3)
  have P2 := Lib.hid (pkC_one oneU a3)
  have T3 := Lib.hid (at3.below (nm_box W3 (pkC oneU a3)))
  have S3 := Lib.hid ((Sb.out.call hb).put (pkC oneU a3))
  clear hb at3 Sb
  have SM := fun W (h : PkAt W oneU a3) => ksame_pk oneU a3 adZ W h (plain_at oneU W ⟨rfl, rfl, rfl, rfl⟩) (by decide) (by decide) (by decide) (by decide)
  unfold pkV at SM
  generalize hD3 : pkC oneU a3 = D3 at *
  replace SM := Lib.hid SM
  clear hD3
  go_upto_region 5 with (refine wpList_store_row rfl _ _ _ rfl W3.heap.size D3 rfl rfl 28 _ (heap_alloc_new W3 _) (by rw [P1.out]; exact info_pk) (by first | rfl | (rw [HZ.out, P1.out]) | (rw [HZ.out, Q1.out])) P2.out ?_)
  obtain ⟨V3, hV3⟩ : ∃ V, (W3.alloc (.cells pkZ 28)).setRow W3.heap.size D3 = V := ⟨_, rfl⟩
  rw [hV3] at S3 T3 ⊢
  have S3 := Lib.hid S3.out
  have T3 := Lib.hid T3.out
  clear hV3
  have U3 : Hid (NmS V3 [] V3) := Lib.hid ⟨Below.refl _ _, (fun x hx => nomatch hx), .nil⟩
  go_wp2_with fail
  refine (R5.out _).mono ?_
  rintro e W5 ⟨rfl, hb⟩
  have U5 := Lib.hid (U3.out.call hb).junk
  clear hb U3
  go_wp2_with (refine wpList_store_row rfl _ _ _ rfl W5.heap.size pkZ rfl rfl 28 _ (heap_alloc_new W5 _) (by rw [HZ.out]; exact info_pk) (by first | rfl | (rw [HZ.out, P1.out]) | (rw [HZ.out, Q1.out])) ZO ?_)
  refine (R6.out _).mono ?_
  rintro e W6 ⟨rfl, hb⟩
  have U6 := Lib.hid (U5.out.call hb).junk
  clear hb U5
  go_wp2_with (refine wpList_store_row rfl _ _ _ rfl W6.heap.size pkZ rfl rfl 28 _ (heap_alloc_new W6 _) (by rw [HZ.out]; exact info_pk) (by first | rfl | (rw [HZ.out, P1.out]) | (rw [HZ.out, Q1.out])) ZO ?_)
  refine (R7.out _).mono ?_
  rintro e W7 ⟨rfl, hb⟩
  have U7 := Lib.hid (U6.out.call hb).junk
  clear hb U6
  go_wp2_with (refine wpList_store_row rfl _ _ _ rfl W7.heap.size pkZ rfl rfl 28 _ (heap_alloc_new W7 _) (by rw [HZ.out]; exact info_pk) (by first | rfl | (rw [HZ.out, P1.out]) | (rw [HZ.out, Q1.out])) ZO ?_)
  refine (R8.out _).mono ?_
  rintro e W8 ⟨rfl, hb⟩
  have U8 := Lib.hid (U7.out.call hb).junk
  clear hb U7
  go_wp2_with (refine wpList_store_row rfl _ _ _ rfl W8.heap.size pkZ rfl rfl 28 _ (heap_alloc_new W8 _) (by rw [HZ.out]; exact info_pk) (by first | rfl | (rw [HZ.out, P1.out]) | (rw [HZ.out, Q1.out])) ZO ?_)
  refine (R9.out _).mono ?_
  rintro e W9 ⟨rfl, hb⟩
  have U9 := Lib.hid (U8.out.call hb).junk
  clear hb U8
  go_wp2_with (refine wpList_store_row rfl _ _ _ rfl W9.heap.size pkZ rfl rfl 28 _ (heap_alloc_new W9 _) (by rw [HZ.out]; exact info_pk) (by first | rfl | (rw [HZ.out, P1.out]) | (rw [HZ.out, Q1.out])) ZO ?_)
  refine (RQ.out _).mono ?_
  rintro e W10 ⟨aq, rfl, atq, hb⟩
  have Q1 := Lib.hid (pkC_size aliU aq)
  have Q2 := Lib.hid (pkC_one aliU aq)
  have AL := fun W (h : PkAt W aliU aq) => pub_alias aliU aq W h ⟨by decide, by decide, by decide, by decide⟩ (fun x hx => by
    obtain rfl : x = ⟨35, 7, [], []⟩ := by simpa [aliU] using hx
    exact ⟨by decide, by decide, by decide, by decide, by decide⟩)
  rw [show (getP aliU.props 35).1.n = 7 from rfl, show hasP aliU.props 35 = true from rfl] at AL
  have TQ := Lib.hid (atq.below (nm_box W10 (pkC aliU aq)))
  have U10 := Lib.hid ((U9.out.call hb).put (pkC aliU aq))
  have K2 := Lib.hid (show (pkC aliU aq)[2]? = some (.bool true) from rfl)
  have K5 := Lib.hid (show (pkC aliU aq)[5]? = some (.string ⟨#[]⟩) from rfl)
  have K6 := Lib.hid (show (pkC aliU aq)[6]? = some (.string ⟨#[120]⟩) from rfl)
  clear hb atq U9
  generalize hDQ : pkC aliU aq = DQ at *
  replace AL := Lib.hid AL
  clear hDQ
  go_upto_region 11 with (refine wpList_store_row rfl _ _ _ rfl W10.heap.size DQ rfl rfl 28 _ (heap_alloc_new W10 _) (by rw [Q1.out]; exact info_pk) (by first | rfl | (rw [HZ.out, P1.out]) | (rw [HZ.out, Q1.out])) Q2.out ?_)
  obtain ⟨VQ, hVQ⟩ : ∃ U, ((W10.alloc (.cells pkZ 28)).setRow W10.heap.size DQ) = U := ⟨_, rfl⟩
  rw [hVQ] at U10 TQ ⊢
  have UQ := Lib.hid U10.out
  have TQ := Lib.hid TQ.out
  clear hVQ U10
  have GQ := Lib.hid UQ.out.hd
  go_wp2_with (refine wpList_load_row rfl _ _ rfl W10.heap.size rfl 28 DQ (0, 0) _ GQ.out Tryz.underlying28 rfl (by rw [Q1.out]; exact info_pk) ?_)
  refine (AL.out _ TQ.out).mono ?_
  rintro e W11 ⟨rfl, hb⟩
  have U11 := Lib.hid (UQ.out.call hb)
  clear hb UQ GQ AL TQ
  generalize W10.heap.size = gQ at *
  go_wp2_with fail
  refine (PO.out _).mono ?_
  rintro e W12 ⟨rfl, hb⟩
  have U12 := Lib.hid ((U11.out.call hb).put (pkC oneU adZ))
  clear hb U11
  go_upto_region 13 with (refine wpList_store_row rfl _ _ _ rfl W12.heap.size (pkC oneU adZ) rfl rfl 28 _ (heap_alloc_new W12 _) (by rw [pkC_size]; exact info_pk) (by rw [HZ.out, pkC_size]) (pkC_one _ _) ?_)
  obtain ⟨X12, hX12⟩ : ∃ U, ((W12.alloc (.cells pkZ 28)).setRow W12.heap.size (pkC oneU adZ)) = U := ⟨_, rfl⟩
  rw [hX12] at U12  ⊢
  have Y12 := Lib.hid U12.out
  skip
  clear hX12 U12
  generalize W12.heap.size = gN at *
  have cX124 : X12.cell? ⟨gN, 4, none⟩ = some (.int .i64 10) := Y12.out.cell 4
  have fX124 := Y12.out.open 4
  have Y13 := Y12.out.set 4 (.int .i64 0)
  rw [show (pkC oneU adZ).setIfInBounds 4 (.int .i64 0) = pkC noneU adZ by kernel_rfl] at Y13
  replace Y13 := Lib.hid Y13
  go_upto_region 14 with fail
  obtain ⟨X13, hX13⟩ : ∃ U, (X12.setCell ⟨gN, 4, none⟩ (.int .i64 0)) = U := ⟨_, rfl⟩
  rw [hX13] at Y13 ⊢
  have Y13 := Lib.hid Y13.out
  clear hX13 Y12 cX124 fX124
  have U14 := Lib.hid (Y13.out.put (pkC zeroU adZ))
  go_upto_region 15 with (first
    | (refine wpList_buildTo rfl 28 _ rfl (some _) rfl (pkC zeroU adZ) (by kernel_rfl) ?_)
    | (refine wpList_store_row rfl _ _ _ rfl X13.heap.size (pkC zeroU adZ) rfl rfl 28 _ (heap_alloc_new X13 _) (by rw [pkC_size]; exact info_pk) (by rw [HZ.out, pkC_size]) (pkC_one _ _) ?_))
  obtain ⟨X14, hX14⟩ : ∃ U, ((X13.alloc (.cells pkZ 28)).setRow X13.heap.size (pkC zeroU adZ)) = U := ⟨_, rfl⟩
  rw [hX14] at U14 ⊢
  have Y14 := Lib.hid U14.out
  clear hX14 U14 Y13
  generalize X13.heap.size = gZ at *
  have U15 := Lib.hid (Y14.out.put (pkC dupU adZ))
  go_upto_region 16 with (first
    | (refine wpList_buildTo rfl 28 _ rfl (some _) rfl (pkC dupU adZ) (by kernel_rfl) ?_)
    | (refine wpList_store_row rfl _ _ _ rfl X14.heap.size (pkC dupU adZ) rfl rfl 28 _ (heap_alloc_new X14 _) (by rw [pkC_size]; exact info_pk) (by rw [HZ.out, pkC_size]) (pkC_one _ _) ?_))
  obtain ⟨X15, hX15⟩ : ∃ U, ((X14.alloc (.cells pkZ 28)).setRow X14.heap.size (pkC dupU adZ)) = U := ⟨_, rfl⟩
  rw [hX15] at U15 ⊢
  have Y15 := Lib.hid U15.out
  clear hX15 U15 Y14
  generalize X14.heap.size = gD at *
  go_wp2_with fail
  refine (PO.out _).mono ?_
  rintro e W16 ⟨rfl, hb⟩
  have U16 := Lib.hid ((Y15.out.call hb).put (pkC oneU adZ))
  clear hb Y15
  go_upto_region 17 with (refine wpList_store_row rfl _ _ _ rfl W16.heap.size (pkC oneU adZ) rfl rfl 28 _ (heap_alloc_new W16 _) (by rw [pkC_size]; exact info_pk) (by rw [HZ.out, pkC_size]) (pkC_one _ _) ?_)
  obtain ⟨X16, hX16⟩ : ∃ U, ((W16.alloc (.cells pkZ 28)).setRow W16.heap.size (pkC oneU adZ)) = U := ⟨_, rfl⟩
  rw [hX16] at U16  ⊢
  have Y16 := Lib.hid U16.out
  skip
  clear hX16 U16
  generalize W16.heap.size = gC at *
  have cX169 : X16.cell? ⟨gC, 9, none⟩ = some (.string ⟨#[]⟩) := Y16.out.cell 9
  have fX169 := Y16.out.open 9
  have Y17 := Y16.out.set 9 (.string ⟨#[99]⟩)
  rw [show (pkC oneU adZ).setIfInBounds 9 (.string ⟨#[99]⟩) = pkC cliU adZ by kernel_rfl] at Y17
  replace Y17 := Lib.hid Y17
  go_upto_region 18 with fail
  obtain ⟨X17, hX17⟩ : ∃ U, (X16.setCell ⟨gC, 9, none⟩ (.string ⟨#[99]⟩)) = U := ⟨_, rfl⟩
  rw [hX17] at Y17 ⊢
  have Y17 := Lib.hid Y17.out
  clear hX17 Y16 cX169 fX169
  go_wp2_with fail
  refine (PO.out _).mono ?_
  rintro e W18 ⟨rfl, hb⟩
  have U18 := Lib.hid ((Y17.out.call hb).put (pkC oneU adZ))
  clear hb Y17
  go_upto_region 19 with (refine wpList_store_row rfl _ _ _ rfl W18.heap.size (pkC oneU adZ) rfl rfl 28 _ (heap_alloc_new W18 _) (by rw [pkC_size]; exact info_pk) (by rw [HZ.out, pkC_size]) (pkC_one _ _) ?_)
  obtain ⟨X18, hX18⟩ : ∃ U, ((W18.alloc (.cells pkZ 28)).setRow W18.heap.size (pkC oneU adZ)) = U := ⟨_, rfl⟩
  rw [hX18] at U18  ⊢
  have Y18 := Lib.hid U18.out
  skip
  clear hX18 U18
  generalize W18.heap.size = gP at *
  have H18 := Lib.hid (lt_of_block Y18.out.hd)
  have YA := Lib.hid (Y18.out.call (below_box (.cells #[.int .i64 1, .int .u32 1, .string ⟨#[]⟩, .string ⟨#[]⟩] 46)))
  have PL0 := Lib.hid (pro_made X18 gP H18.out (.slice (some ⟨X18.heap.size, 0, none⟩) 1 1))
  have cY : (X18.alloc (.cells #[.int .i64 1, .int .u32 1, .string ⟨#[]⟩, .string ⟨#[]⟩] 46)).cell? ⟨gP, 24, none⟩ = some (.slice none 0 0) := YA.out.cell 24
  have fY := YA.out.open 24
  have YB := YA.out.set 24 (.slice (some ⟨X18.heap.size, 0, none⟩) 1 1)
  rw [show (pkC oneU adZ).setIfInBounds 24 (.slice (some ⟨X18.heap.size, 0, none⟩) 1 1) = pkC proU (proA X18.heap.size) by kernel_rfl] at YB
  replace YB := Lib.hid YB
  clear Y18 H18 YA
  go_upto_region 20 with fail
  obtain ⟨X19, hX19⟩ : ∃ U, (X18.alloc (.cells #[.int .i64 1, .int .u32 1, .string ⟨#[]⟩, .string ⟨#[]⟩] 46)).setCell ⟨gP, 24, none⟩ (.slice (some ⟨X18.heap.size, 0, none⟩) 1 1) = U := ⟨_, rfl⟩
  rw [hX19] at YB PL0 ⊢
  have YB := Lib.hid YB.out
  have PL0 := Lib.hid PL0.out
  clear hX19 cY fY
  generalize X18.heap.size = gL at *
  have G3 := Lib.hid S3.out.hd
  have LV := Lib.hid S3.out.low
  refine pubname_last (T := PnS V3 gL [(gP, pkC proU (proA gL)), (gC, pkC cliU adZ), (gD, pkC dupU adZ), (gZ, pkC zeroU adZ), (gN, pkC noneU adZ), (gQ, DQ)]) (E := pkC oneU adZ) (D3 := D3) (DA := pkC plusU adZ) (PnS.call (V := V3) (g := gL) (L := [(gP, pkC proU (proA gL)), (gC, pkC cliU adZ), (gD, pkC dupU adZ), (gZ, pkC zeroU adZ), (gN, pkC noneU adZ), (gQ, DQ)]) (W := X19) ⟨YB.out, PL0.out⟩ (Below.refl _ _).drew) IA.out (by kernel_rfl) P1.out (pkC_size _ _) (pkC_size _ _) (pkC_size _ _) (pkC_size _ _) (pkC_size _ _)
    (fun W h => (h.1.low.block _ (lt_of_block G3.out)).trans G3.out) (fun W h => (h.1.row (gN, pkC noneU adZ) (by simp)).2) (fun W h => (h.1.row (gZ, pkC zeroU adZ) (by simp)).2) (fun W h => (h.1.row (gD, pkC dupU adZ) (by simp)).2) (fun W h => (h.1.row (gC, pkC cliU adZ) (by simp)).2) (fun W h => (h.1.row (gP, pkC proU (proA gL)) (by simp)).2)
    (fun W h => (cell_of_row _ _ 2 _ _ _ (h.1.row (gQ, DQ) (by simp)).2).trans K2.out) (fun W h => (cell_of_row _ _ 6 _ _ _ (h.1.row (gQ, DQ) (by simp)).2).trans K6.out) (fun W h => (cell_of_row _ _ 5 _ _ _ (h.1.row (gQ, DQ) (by simp)).2).trans K5.out)
    (fun W h => (PO.out W).mono fun e w' ⟨he, hb⟩ => ⟨he, h.call hb⟩) (fun W h => (SM.out W (T3.out.below h.1.low)).mono fun e w' ⟨he, hb⟩ => ⟨he, h.call hb⟩)
    (fun W h => (VN.out W).mono fun e w' ⟨he, hb⟩ => ⟨he, h.call hb⟩) (fun W h => (VZ.out W).mono fun e w' ⟨he, hb⟩ => ⟨he, h.call hb⟩) (fun W h => (VD.out W).mono fun e w' ⟨he, hb⟩ => ⟨he, h.call hb⟩) (fun W h => (VC.out W).mono fun e w' ⟨he, hb⟩ => ⟨he, h.call hb⟩) (fun W h => (VP4.out gL W h.2).mono fun e w' ⟨he, hb⟩ => ⟨he, h.call hb⟩) (fun W h => (VP5.out gL W h.2).mono fun e w' ⟨he, hb⟩ => ⟨he, h.call hb⟩) (fun W h => (VE.out W).mono fun e w' ⟨he, hb⟩ => ⟨he, h.call hb⟩) (fun W h => (VA.out W).mono fun e w' ⟨he, hb⟩ => ⟨he, h.call hb⟩) ?_
  intro W h
  have LE := Lib.hid (below_then LV.out h.1.low)
  clear h
  go_wp2_with fail
  go_ret
  exact ⟨rfl, LE.out⟩
end Go.Proofs.YtaahhbjnflimnaaGreat
