/-
  The walk of PublishTopics. Condition: the alias is what its type holds; the strings' lengths.
-/
import Derived.Deep.DeepCutAuto
import Derived.Test.YtaahhbjnflimnaaK52
import Derived.Test.YtaahhbjnflimnaaK27
import Derived.Test.YtaahhbjnflimnaaK17
namespace Go.Proofs.Ytaahhbjnflimnaa
open Go.RowKit

def topP (s t : List UInt8) (l : List Pr) : Pk := { Pk.zero with kind := 3, topic := s, payload := t, props := l }
def aliasP (n : Nat) : List Pr := [⟨35, n, [], []⟩]
theorem top_valid {s t : List UInt8} {v : Int} (hv : v = 4 ∨ v = 5) : validU v (topP s t []) = if nameL s then 0 else 10 := by
  have e1 : (flagsF v 3 (topP s t []).dup (topP s t []).retain (topP s t []).qos).2 = 0 := flags_u.2 ⟨by rcases hv with rfl | rfl <;> rfl, rfl⟩
  have e2 : (idU (topP s t []) && decide (topP s t [] = usedU v (topP s t []))) = true := by
    have h1 : topP s t [] = usedU v (topP s t []) := by
      unfold usedU topP
      split <;> rfl
    rw [decide_eq_true h1]; rfl
  have e3 : topicU (topP s t []) = nameL s := by
    unfold topicU
    rw [show (topP s t []).topic = s from rfl, show hasP (topP s t []).props 35 = false from rfl, Bool.and_false, Bool.or_false]
  have e4 : validP 3 (topP s t []).props = 0 := by show validP 3 [] = 0; decide
  unfold validU
  rw [if_neg (show ¬ (topP s t []).kind ≠ 3 from fun h => h rfl), e1, e2, e3, e4]
  cases nameL s <;> rfl
theorem alias_valid {n : Nat} (hn : n ≤ 65535) : validP 3 (aliasP n) = if n = 0 then 9 else 0 := by
  have hp : prow 35 = ⟨2, [3], 1, 65535⟩ := rfl
  have hs : shapeP 35 = 2 := by decide
  have hm : mayP 3 35 = true := by decide
  have hc : checkP 3 ⟨35, n, [], []⟩ = if n = 0 then 9 else 0 := by
    unfold checkP
    simp only [hm, hs, hp]
    by_cases h : n = 0
    · subst h; rfl
    · rw [if_neg h]
      simp
      omega
  have hb : (bodyP (aliasP n)).length = 3 := by
    simp [aliasP, bodyP, oneP, valueP, hs, be_length]
  unfold validP
  rw [hb, show (aliasP n).length = 1 from rfl, show loneP (aliasP n) = false from rfl]
  have he : eachP 3 [] (aliasP n) = if n = 0 then 9 else 0 := by
    unfold aliasP eachP
    rw [hc]
    by_cases h : n = 0
    · simp [h]
    · simp [h, twiceP, hasP, eachP]
  rw [he]
  by_cases h : n = 0
  · simp [h]
  · simp [h]
theorem alias_top {s t : List UInt8} {n : Nat} (hn : n ≤ 65535) : validU 5 (topP s t (aliasP n)) = if nameL s || s.isEmpty then (if n = 0 then 9 else 0) else 10 := by
  have e1 : (flagsF 5 3 (topP s t (aliasP n)).dup (topP s t (aliasP n)).retain (topP s t (aliasP n)).qos).2 = 0 := flags_u.2 ⟨rfl, rfl⟩
  have e2 : (idU (topP s t (aliasP n)) && decide (topP s t (aliasP n) = usedU 5 (topP s t (aliasP n)))) = true := by
    have h1 : topP s t (aliasP n) = usedU 5 (topP s t (aliasP n)) := rfl
    rw [decide_eq_true h1]; rfl
  have e3 : topicU (topP s t (aliasP n)) = (nameL s || s.isEmpty) := by
    unfold topicU
    rw [show (topP s t (aliasP n)).topic = s from rfl, show hasP (topP s t (aliasP n)).props 35 = true from rfl, Bool.and_true]
  unfold validU
  rw [if_neg (show ¬ (topP s t (aliasP n)).kind ≠ 3 from fun h => h rfl), e1, e2, e3, show (topP s t (aliasP n)).props = aliasP n from rfl, alias_valid hn]
  cases (nameL s || s.isEmpty) <;> rfl
theorem top_ok {s t : List UInt8} {l : List Pr} (hs : s.length ≤ 300) (ht : t.length ≤ 300) (hl : ∀ x ∈ l, PrOk x ∧ x.text.length ≤ 140737488351232 ∧ x.value.length ≤ 140737488351232) : PkOk (topP s t l) := by
  refine ⟨by show _ ≤ (3 : Int) ∧ (3 : Int) ≤ _; decide, by show _ ≤ (0 : Int) ∧ (0 : Int) ≤ _; decide, fun x hx => ?_, fun x hx => (nomatch hx), hl, fun x hx => (nomatch hx)⟩
  simp only [Pk.texts, topP, Pk.zero, List.mem_cons, List.not_mem_nil, or_false] at hx
  rcases hx with rfl | rfl | rfl | rfl | rfl | rfl | rfl
  · omega
  · omega
  all_goals exact Nat.zero_le _
theorem alias_ok {n : Nat} (hn : n ≤ 65535) : ∀ x ∈ aliasP n, PrOk x ∧ x.text.length ≤ 140737488351232 ∧ x.value.length ≤ 140737488351232 := fun x hx => by
  obtain rfl : x = ⟨35, n, [], []⟩ := by simpa [aliasP] using hx
  exact ⟨⟨by show (-9223372036854775808 : Int) ≤ 35; decide, by show (35 : Int) ≤ _; decide, by show n < 4294967296; omega, Nat.zero_le _, Nat.zero_le _⟩, Nat.zero_le _, Nat.zero_le _⟩
def topA (g : Nat) : Ad := { adZ with ps := some ⟨g, 0, none⟩, pc := 1 }
/-- What stands while the law runs: the packet's block. -/
structure ToS (w : World) (b : Nat) (D : Array Value) (W : World) : Prop where
  low : Below w.heap.size w W
  bx : W.heap[b]? = some (.cells D 30 (0, 0))
  c1 : w.heap.size ≤ b
theorem ToS.call {w W W' : World} {b : Nat} {D : Array Value} (h : ToS w b D W) (hb : Below W.heap.size W W') : ToS w b D W' := ⟨below_then h.low hb, (hb.block _ (lt_of_block h.bx)).trans h.bx, h.c1⟩
theorem ToS.put {w W : World} {b : Nat} {D D' : Array Value} (h : ToS w b D W) (j : Nat) (u : Value) (he : D.setIfInBounds j u = D') : ToS w b D' (W.setCell ⟨b, j, none⟩ u) := by
  have hk := setCell_block h.bx j u
  rw [he] at hk
  exact ⟨h.low.setCell (show w.heap.size ≤ (⟨b, j, none⟩ : Addr).block from h.c1) u, hk, h.c1⟩
theorem top_pl (W : World) (b n g : Nat) (u : Value) (hb : b < W.heap.size) (hg : g = W.heap.size) : PL ((W.alloc (.cells #[.int .i64 35, .int .u32 n, .string ⟨#[]⟩, .string ⟨#[]⟩] 36)).setCell ⟨b, 24, none⟩ u) (some ⟨g, 0, none⟩) (aliasP n) := by
  subst hg
  refine (PL.made W (aliasP n) #[.int .i64 35, .int .u32 n, .string ⟨#[]⟩, .string ⟨#[]⟩] 36 ?_).kept (by simp) (fun g' i e _ => ?_)
  · rfl
  · have hh : g' = W.heap.size := by have := Option.some.inj e; exact (congrArg Addr.block this).symm
    subst hh
    exact heap_setCell_other _ ⟨b, 24, none⟩ _ u (by show W.heap.size ≠ b; omega)
set_option maxHeartbeats 2000000 in
set_option maxRecDepth 100000 in
theorem pubtop_main (s t : ByteArray) (n : Nat) (w : World) (hs : s.size ≤ 300) (ht : t.size ≤ 300) (hn : n ≤ 65535) :
    Calls Try.prog 3 #[.string s, .string t, .int .u16 n] w fun e w' => e = .returned (.bool true) ∧ Below w.heap.size w w' := by
  have NM := fun W => (ref_name s W (by omega)).mono fun e W' (hh : _ ∧ W = W') => hh
  have hl1 : s.data.toList.length ≤ 300 := by rw [← size_list]; exact hs
  have hl2 : t.data.toList.length ≤ 300 := by rw [← size_list]; exact ht
  have V4 := fun W => pub_valid 4 (topP s.data.toList t.data.toList []) adZ W (plain_at _ W ⟨rfl, rfl, rfl, rfl⟩) ⟨Nat.zero_le _, Nat.zero_le _, Nat.zero_le _, Nat.zero_le _⟩ (top_ok hl1 hl2 (fun x hx => nomatch hx)) (Nat.zero_le _)
  have V5 := fun W => pub_valid 5 (topP s.data.toList t.data.toList []) adZ W (plain_at _ W ⟨rfl, rfl, rfl, rfl⟩) ⟨Nat.zero_le _, Nat.zero_le _, Nat.zero_le _, Nat.zero_le _⟩ (top_ok hl1 hl2 (fun x hx => nomatch hx)) (Nat.zero_le _)
  rw [top_valid (.inl rfl)] at V4
  rw [top_valid (.inr rfl)] at V5
  have A5 := fun g W (h : PkAt W (topP s.data.toList t.data.toList (aliasP n)) (topA g)) => pub_valid 5 (topP s.data.toList t.data.toList (aliasP n)) (topA g) W h ⟨Nat.zero_le _, Nat.zero_le _, by show (1 : Nat) ≤ 70000; decide, Nat.zero_le _⟩ (top_ok hl1 hl2 (alias_ok hn)) (Nat.le_refl _)
  have AL := fun g W (h : PkAt W (topP s.data.toList t.data.toList (aliasP n)) (topA g)) => pub_alias (topP s.data.toList t.data.toList (aliasP n)) (topA g) W h ⟨Nat.zero_le _, Nat.zero_le _, by show (1 : Nat) ≤ 70000; decide, Nat.zero_le _⟩ (fun x hx => (alias_ok hn x hx).1)
  rw [alias_top hn] at A5
  rw [show (getP (topP s.data.toList t.data.toList (aliasP n)).props 35).1.n = n from rfl, show hasP (topP s.data.toList t.data.toList (aliasP n)).props 35 = true from rfl] at AL
  obtain ⟨D, hD⟩ : ∃ D, pkC (topP s.data.toList t.data.toList []) adZ = D := ⟨_, rfl⟩
  have hD1 : D.size = 25 := by rw [← hD]; exact pkC_size _ _
  have hD2 : D.all (·.oneCell') = true := by rw [← hD]; exact pkC_one _ _
  rw [hD] at V4 V5
  have HD := Lib.hid hD
  have HD1 := Lib.hid hD1
  have HD2 := Lib.hid hD2
  have HZ := Lib.hid pkZ_size
  have hzv := zero_pk
  have hne : ¬ pkZ = #[] := by intro h; have := pkZ_size; rw [h] at this; cases this
  have hE : (s.toList == []) = s.data.toList.isEmpty := by rw [toList_data]; cases s.data.toList <;> rfl
  obtain ⟨nm, hnm⟩ : ∃ b, nameL s.data.toList = b := ⟨_, rfl⟩
  obtain ⟨em, hem⟩ : ∃ b, s.data.toList.isEmpty = b := ⟨_, rfl⟩
  rw [hnm] at NM V4 V5 A5
  rw [hem] at A5 hE
  have g1 : decide ((300 : Int) < (s.size : Int)) = false := decide_eq_false (by omega)
  have g2 : decide ((300 : Int) < (t.size : Int)) = false := decide_eq_false (by omega)
  have hw : IntKind.i64.wrap (n : Int) = (n : Int) := by rw [IntKind.wrap_i64]; omega
  have hw2 : IntKind.u32.wrap (n : Int) = (n : Int) := by rw [IntKind.wrap_u32]; omega
  have hn2 : (n : Int) < 65536 := by omega
  have HN := Lib.hid hn
  have NN := Lib.hid (And.intro hw (And.intro hw2 hn2))
  clear hw hw2 hn2
  replace NM := Lib.hid NM
  replace V4 := Lib.hid V4
  replace V5 := Lib.hid V5
  replace A5 := Lib.hid A5
  replace AL := Lib.hid AL
  clear hs ht hl1 hl2 hD hD1 hD2 hnm hem hn
  obtain ⟨k4, hk4⟩ : ∃ k, (if nm = true then 0 else 10 : Nat) = k := ⟨_, rfl⟩
  obtain ⟨k5, hk5⟩ : ∃ k, (if (nm || em) = true then (if n = 0 then 9 else 0) else 10 : Nat) = k := ⟨_, rfl⟩
  rw [hk4] at V4 V5
  rw [hk5] at A5
  have z4 : ((k4 : Int) == 0) = nm := by cases nm <;> (subst hk4; rfl)
  have HK := Lib.hid hk5
  clear hk4 hk5
  cases nm
  all_goals
    go_enter Try.func3, Try.ntmps3
    go_wp2_with fail
    refine (lives_pub _).mono ?_
    rintro e W ⟨rfl, hb⟩
    have L1 := Lib.hid hb
    clear hb
    have G2 := Lib.hid (setRow_heap _ _ _ D _ _ (heap_alloc_new W (.cells pkZ 30)))
    have S2 := Lib.hid (show ToS w W.heap.size D ((W.alloc (.cells pkZ 30)).setRow W.heap.size D) from ⟨belowRow (below_then L1.out (below_box _)) L1.out.size _, G2.out, L1.out.size⟩)
    go_upto_region 6 with (first
      | (refine wpList_buildTo rfl 30 _ rfl (some _) rfl D (by rw [← HD.out]; kernel_rfl) ?_)
      | (refine wpList_store_row rfl _ _ _ rfl W.heap.size D rfl rfl 30 _ (heap_alloc_new W _) (by rw [HD1.out]; exact info_pk) (by rw [HZ.out, HD1.out]) HD2.out ?_))
    generalize (W.alloc (.cells pkZ 30)).setRow W.heap.size D = W2 at *
    generalize W.heap.size = b at *
    go_wp2_with fail
    refine (NM.out _).mono ?_
    rintro e W3 ⟨rfl, rfl⟩
    go_wp2_with (refine wpList_load_row rfl _ _ rfl b rfl 30 D (0, 0) _ S2.out.bx Try.underlying30 rfl (by rw [HD1.out]; exact info_pk) ?_)
    refine (V4.out _).mono ?_
    rintro e W4 ⟨rfl, hb⟩
    have S4 := Lib.hid (S2.out.call hb)
    clear hb S2 G2
    go_wp2_with (refine wpList_load_row_g rfl _ _ rfl b rfl 30 D (0, 0) _ S4.out.bx Try.underlying30 rfl (by rw [HD1.out]; exact info_pk) ?_)
    refine (V5.out _).mono ?_
    rintro e W5 ⟨rfl, hb⟩
    have S5 := Lib.hid (S4.out.call hb)
    clear hb S4
    have hw2 := NN.out.2.1
    have cY : (W5.alloc (.cells #[.int .i64 35, .int .u32 n, .string ⟨#[]⟩, .string ⟨#[]⟩] 36)).cell? ⟨b, 24, none⟩ = some (.slice none 0 0) := (cell_of_row _ _ 24 _ _ _ (((below_box _).block _ (lt_of_block S5.out.bx)).trans S5.out.bx)).trans (by rw [← HD.out]; rfl)
    have fY : (W5.alloc (.cells #[.int .i64 35, .int .u32 n, .string ⟨#[]⟩, .string ⟨#[]⟩] 36)).frozen? ⟨b, 24, none⟩ = false := frozen_of_row _ _ _ _ _ (((below_box _).block _ (lt_of_block S5.out.bx)).trans S5.out.bx)
    have P0 := Lib.hid (top_pl W5 b n W5.heap.size (.slice (some ⟨W5.heap.size, 0, none⟩) 1 1) (lt_of_block S5.out.bx) rfl)
    have S6 := Lib.hid ((S5.out.call (below_box (.cells #[.int .i64 35, .int .u32 n, .string ⟨#[]⟩, .string ⟨#[]⟩] 36))).put 24 (.slice (some ⟨W5.heap.size, 0, none⟩) 1 1) (D' := pkC (topP s.data.toList t.data.toList (aliasP n)) (topA W5.heap.size)) (by rw [← HD.out]; kernel_rfl))
    go_upto_region 10 with fail
    obtain ⟨X5, hX5⟩ : ∃ U, (W5.alloc (.cells #[.int .i64 35, .int .u32 n, .string ⟨#[]⟩, .string ⟨#[]⟩] 36)).setCell ⟨b, 24, none⟩ (.slice (some ⟨W5.heap.size, 0, none⟩) 1 1) = U := ⟨_, rfl⟩
    rw [hX5] at P0 S6 ⊢
    have P0 := Lib.hid P0.out
    have S6 := Lib.hid S6.out
    clear hX5 cY fY S5
    generalize W5.heap.size = gL at *
    have AT := Lib.hid (show PkAt X5 (topP s.data.toList t.data.toList (aliasP n)) (topA gL) from ⟨fun e => absurd rfl e, CL.nil, CL.nil, P0.out⟩)
    have A6 := A5.out gL
    have AL6 := AL.out gL
    have HE1 := Lib.hid (pkC_size (topP s.data.toList t.data.toList (aliasP n)) (topA gL))
    generalize pkC (topP s.data.toList t.data.toList (aliasP n)) (topA gL) = DA at *
    replace A6 := Lib.hid A6
    replace AL6 := Lib.hid AL6
    clear A5 AL P0
    go_wp2_with (refine wpList_load_row rfl _ _ rfl b rfl 30 DA (0, 0) _ S6.out.bx Try.underlying30 rfl (by rw [HE1.out]; exact info_pk) ?_)
    refine (A6.out _ AT.out).mono ?_
    rintro e W7 ⟨rfl, hb⟩
    have S7 := Lib.hid (S6.out.call hb)
    have AT7 := Lib.hid (AT.out.below hb)
    clear hb S6 AT
    go_wp2_with (refine wpList_load_row rfl _ _ rfl b rfl 30 DA (0, 0) _ S7.out.bx Try.underlying30 rfl (by rw [HE1.out]; exact info_pk) ?_)
    refine (AL6.out _ AT7.out).mono ?_
    rintro e W8 ⟨rfl, hb⟩
    have LE := Lib.hid (S7.out.call hb).low
    have hw := NN.out.1
    clear hb S7 AT7
    have hk := HK.out
    have hE2 : (s.toList != []) = !em := by rw [← hE]; rfl
    by_cases h0 : n = 0
    · have g3 : decide ((0 : Int) < (n : Int)) = false := decide_eq_false (by omega)
      cases em
      all_goals
        simp only [h0, if_true, if_false, Bool.or_true, Bool.or_false, Bool.or_self, Bool.false_eq_true] at hk
        subst hk
        replace h0 := Lib.hid h0
        go_wp2_with fail
        all_goals first
          | exact absurd h0.out ‹¬n = 0›
          | (go_ret; exact ⟨rfl, LE.out⟩)
    · have g3 : decide ((0 : Int) < (n : Int)) = true := decide_eq_true (by omega)
      cases em
      all_goals
        simp only [h0, if_true, if_false, Bool.or_true, Bool.or_false, Bool.or_self, Bool.false_eq_true] at hk
        subst hk
        replace h0 := Lib.hid h0
        go_wp2_with fail
        all_goals first
          | exact absurd ‹n = 0› h0.out
          | (go_ret; exact ⟨rfl, LE.out⟩)
          | (go_ret; have h1 := h0.out; refine ⟨congrArg (fun b => Ending.returned (.bool b)) (?_ : _ = true), LE.out⟩; simp; omega)
set_option maxHeartbeats 2000000 in
set_option maxRecDepth 100000 in
theorem pubtop_long (s t : ByteArray) (n : Nat) (w : World) (h : 300 < s.size ∨ 300 < t.size) :
    Calls Try.prog 3 #[.string s, .string t, .int .u16 n] w fun e w' => e = .returned (.bool true) ∧ Below w.heap.size w w' := by
  obtain ⟨b1, hb1⟩ : ∃ b, decide ((300 : Int) < (s.size : Int)) = b := ⟨_, rfl⟩
  obtain ⟨b2, hb2⟩ : ∃ b, decide ((300 : Int) < (t.size : Int)) = b := ⟨_, rfl⟩
  have hor : (b1 || b2) = true := by rw [← hb1, ← hb2, Bool.or_eq_true, decide_eq_true_eq, decide_eq_true_eq]; omega
  clear h
  cases b1 <;> cases b2
  · cases hor
  all_goals
    clear hor
    go_enter Try.func3, Try.ntmps3
    go_wp2_with fail
    refine (lives_pub _).mono ?_
    rintro e W ⟨rfl, hb⟩
    have L1 := Lib.hid hb
    clear hb
    go_wp2_with fail
    go_ret
    exact ⟨rfl, L1.out⟩
theorem pubtop_walk (s t : ByteArray) (n : Nat) (w : World) (hn : n ≤ 65535) :
    Calls Try.prog 3 #[.string s, .string t, .int .u16 n] w fun e w' => e = .returned (.bool true) ∧ Below w.heap.size w w' := by
  by_cases hs : s.size ≤ 300
  · by_cases ht : t.size ≤ 300
    · exact pubtop_main s t n w hs ht hn
    · exact pubtop_long s t n w (by omega)
  · exact pubtop_long s t n w (by omega)
end Go.Proofs.Ytaahhbjnflimnaa
