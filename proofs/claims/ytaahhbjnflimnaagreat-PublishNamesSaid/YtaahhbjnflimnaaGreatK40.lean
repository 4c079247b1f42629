/-
  What prop.Bytes gathers: the strings that are joined, and what stands meanwhile. No condition.
  The contract of prop.Bytes. Condition: the fields of each property are what their types hold.
  The contracts of polyglotkit.LightProps and Own at lists of properties, and of prop.Get. Condition: strings no longer than memory allows.
  An append to a list of properties that is owned. Condition: fewer than 3,000 properties.
-/
import Derived.Deep.AppendLies
import Derived.OwnWalk
import Derived.Deep.QuietTactic
import Derived.WalkSmall
import Derived.Maps.AppendAt
import Derived.Test.YtaahhbjnflimnaaGreatK38
import Derived.Test.YtaahhbjnflimnaaGreatK13
import Derived.Test.YtaahhbjnflimnaaGreatK39
import Derived.Test.YtaahhbjnflimnaaGreatK15
import Derived.Test.YtaahhbjnflimnaaGreatK25
namespace Go.Proofs.YtaahhbjnflimnaaGreat
open Go.RowKit

open Go.RowKit Go.Shelf

theorem infoStr : (Tryz.prog.info? 9).map (fun i => (i.zero, i.size, i.bytes)) = some (some (.string .empty), 1, 16) := by kernel_rfl
/-- The strings that are joined. -/
def partsP (L : List UInt8) (l : List Pr) : List (List UInt8) := L :: l.flatMap fun p => [be p.id.toNat 1, valueP p]
theorem partsP_nil (L : List UInt8) : partsP L [] = [L] := rfl
theorem partsP_snoc (L : List UInt8) (l : List Pr) (p : Pr) : partsP L (l ++ [p]) = partsP L l ++ [be p.id.toNat 1, valueP p] := by simp [partsP]
theorem partsP_length (L : List UInt8) : ∀ (l : List Pr), (partsP L l).length = 1 + 2 * l.length
  | [] => rfl
  | p :: l => by
    have := partsP_length L l
    unfold partsP at this ⊢
    rw [List.length_cons] at this
    rw [List.length_cons, List.flatMap_cons, List.length_append, List.length_cons]
    simp only [List.length_cons, List.length_nil]
    omega
theorem be_one (n : Nat) : be n 1 = [UInt8.ofNat n] := by simp [be]
theorem partsP_flat (L : List UInt8) (l : List Pr) : (partsP L l).flatten = L ++ bodyP l := by
  unfold partsP
  rw [List.flatten_cons]
  congr 1
  induction l with
  | nil => rfl
  | cons p l ih =>
    rw [List.flatMap_cons, List.flatten_append, ih, bodyP_cons]
    congr 1
    simp [oneP, be_one]
theorem strs_append (a b : List (List UInt8)) : strs (a ++ b) = strs a ++ strs b := by simp [strs]
theorem strs_len (a : List (List UInt8)) : (strs a).length = a.length := by simp [strs]
theorem join_nil (ls : List (List UInt8)) : Lib.join ls [] = ls.flatten := by
  cases ls with
  | nil => rfl
  | cons a r =>
    rw [Lib.join_cons]
    unfold Lib.joinTail
    simp
/-- Joined, the strings are one after the other. -/
theorem join_parts (g i c : Nat) (ls : List (List UInt8)) (w : World) (hcell : ∀ j, j < ls.length → w.cell? ⟨g, i + j, none⟩ = some (.string (bs (ls.getD j [])))) (hg : g < w.heap.size) (hc : ls.length ≤ c) (hl : ls.flatten.length ≤ 4000000000) (hN : ls.length ≤ 4000000000) :
    Calls Tryz.prog 109 #[.slice (some ⟨g, i, none⟩) ls.length c, .string ⟨#[]⟩] w fun e w' => e = .returned (.string (bs ls.flatten)) ∧ Below w.heap.size w w' := by
  have e1 : (ls.map bs).map (·.data.toList) = ls := by rw [List.map_map]; simp [Function.comp_def, bs_data]
  have := Any.strings_Join lays156 Builder_Extra_156 g i c (ls.map bs) ⟨#[]⟩ w (fun j x hx => by
    have hj : j < ls.length := by
      have := (List.getElem?_eq_some_iff.1 hx).1
      simpa using this
    rw [hcell j hj]
    rw [List.getElem?_map, List.getElem?_eq_getElem hj] at hx
    simp only [Option.map_some, Option.some.injEq] at hx
    rw [← hx]
    simp [List.getD, List.getElem?_eq_getElem hj]) hg (by simp; omega) (by simp; omega) (by rw [e1]; show (Lib.join ls []).length ≤ _; rw [join_nil]; omega)
  rw [e1, List.length_map] at this
  have e2 : Lib.join ls (ByteArray.mk #[]).data.toList = ls.flatten := join_nil ls
  rw [e2] at this
  exact this

/-- What stands while a list's bytes are gathered: the property in block v, the tally, what was there ahead of the row. -/
def ByS (w3 : World) (b mb v : Nat) (kind : Int) (p : Pr) (l : List Pr) (W : World) : Prop :=
  W.cell? ⟨v, 0, none⟩ = some (.int .i64 p.id) ∧ W.cell? ⟨v, 1, none⟩ = some (.int .u32 p.n) ∧ W.cell? ⟨v, 2, none⟩ = some (.string (bs p.text)) ∧ W.cell? ⟨v, 3, none⟩ = some (.string (bs p.value)) ∧
  W.cell? ⟨b, 1, none⟩ = some (.map (some mb)) ∧
  (Instr.lookup 158 (.map (some mb)) (.int .i64 p.id) false).run Tryz.prog W = .ok (.agg #[.int .i64 (shapeP p.id : Nat), .int .u32 (maskP p.id : Nat), .int .u32 ((prow p.id).least : Nat)]) W ∧
  (PropAt W v p ∧ TalL W b mb kind l ∧ Below w3.heap.size w3 W ∧ PrOk p ∧ b < w3.heap.size ∧ mb < w3.heap.size ∧ w3.heap.size ≤ v)
section
variable {w3 W W' : World} {b mb v : Nat} {kind : Int} {p : Pr} {l : List Pr}
theorem ByS.mk (ok : PrOk p) (h1 : PropAt W v p) (h2 : TalL W b mb kind l) (h3 : Below w3.heap.size w3 W) (hb : b < w3.heap.size) (hm : mb < w3.heap.size) (hv : w3.heap.size ≤ v) : ByS w3 b mb v kind p l W := by
  obtain ⟨s, t1, t2⟩ := h2
  exact ⟨h1.c0, h1.c1, h1.c2, h1.c3, t1.c1, t1.2.look ok.lo ok.hi, h1, ⟨s, t1, t2⟩, h3, ok, hb, hm, hv⟩
theorem ByS.call (h : ByS w3 b mb v kind p l W) (hb : Below W.heap.size W W') : ByS w3 b mb v kind p l W' := by
  obtain ⟨_, _, _, _, _, _, h1, h2, h3, ok, k1, k2, k3⟩ := h
  exact ByS.mk ok (h1.below hb h1.lt) (h2.below hb) (h3.trans (hb.mono h3.size)) k1 k2 k3
theorem ByS.alloc (h : ByS w3 b mb v kind p l W) (o : Obj) : ByS w3 b mb v kind p l (W.alloc o) := h.call ((Below.refl _ _).alloc (Nat.le_refl _) _)
theorem ByS.drew (h : ByS w3 b mb v kind p l W) : ByS w3 b mb v kind p l W.drew := by
  obtain ⟨_, _, _, _, _, _, h1, h2, h3, ok, k1, k2, k3⟩ := h
  exact ByS.mk ok h1 (h2.draws 1) h3.drew k1 k2 k3
theorem ByS.app (h : ByS w3 b mb v kind p l W) {r : Option Nat} (hg : W.grownBy W' r) (hr : ∀ k, r = some k → w3.heap.size ≤ k ∧ k < v) : ByS w3 b mb v kind p l W' := by
  obtain ⟨_, _, _, _, _, _, h1, ⟨s, t1, t2⟩, h3, ok, k1, k2, k3⟩ := h
  refine ByS.mk ok (h1.of_block (hg.block v h1.lt (fun e => by have := (hr v e.symm).2; omega))) ⟨s, t1.of_block (hg.block b t1.lt (fun e => by have := (hr b e.symm).1; omega)) (hg.block mb t1.mlt (fun e => by have := (hr mb e.symm).1; omega)), t2⟩ ?_ k1 k2 k3
  exact h3.grown hg h3.size (fun k e => (hr k e).1)
end
theorem ByS.base {w3 W : World} {b mb v : Nat} {kind : Int} {p : Pr} {l : List Pr} (h : ByS w3 b mb v kind p l W) (o : Obj) : w3.heap.size ≤ (W.alloc o).heap.size := by
  have := h.2.2.2.2.2.2.2.2.1.size
  rw [World.size_alloc]
  omega
theorem own_below {W W' : World} {base : Nat} {e : TypeId} {size n : Nat} {v : Value} {xs : List Value} (h : W.ownsRow base e size v n xs) (hb : Below W.heap.size W W') : W'.ownsRow base e size v n xs := by
  refine ⟨h.1, ?_⟩
  rcases h.2 with h2 | ⟨g, cap, cur, hv, h3, hg, h4⟩
  · exact .inl h2
  · exact .inr ⟨g, cap, cur, hv, h3, (hb.block g (Array.getElem?_eq_some_iff.1 hg).1).trans hg, h4⟩

open Go.RowKit Go.Shelf

theorem bytes_err (kind : Int) (A : Option Addr) (n c : Nat) (l : List Pr) (w : World) (hi : -9223372036854775808 ≤ kind) (hj : kind ≤ 9223372036854775807) (hl : PL w A l) (hn : l.length = n) (hc : n ≤ c) (ok : ∀ p ∈ l, PrOk p) (hv : validP kind l ≠ 0) :
    Calls Tryz.prog 110 #[.int .i64 kind, .slice A n c] w fun e w' => e = .returned (.tuple #[.string ⟨#[]⟩, .int .i64 ((validP kind l : Nat) : Int)]) ∧ Below w.heap.size w w' := by
  have MS := Lib.hid (fun W b mb (h : TalL W b mb kind []) hP hg => measure_any (w := W) (b := b) (mb := mb) A n c l h hi hj hP hg hn hc ok)
  have HL := Lib.hid hl
  generalize validP kind l = V at *
  generalize hT : (if V = 0 then (bodyP l).length else 0 : Nat) = T at *
  have g1 : ((V : Int) == 0) = false := by simp; omega
  have g2 : ((V : Int) != 0) = true := by simp; omega
  clear hT hn hc ok hl hv
  go_enter Tryz.func110, Tryz.ntmps110
  go_wp2_with fail
  refine (begin_any kind w).mono ?_
  rintro e w1 ⟨b, mb, rfl, ht, hb, hb2, hm2⟩
  have M1 := Lib.hid (MS.out w1 b mb ⟨0, ht, SeenOK.nil⟩ (HL.out.below hb) (fun g i e hne => by
    obtain ⟨g', i', e', hg'⟩ := HL.out.addr hne
    rw [e] at e'
    cases e'
    omega))
  have HB := Lib.hid hb
  have B2 := Lib.hid hb2
  clear ht hb hm2 hb2 MS HL
  go_wp2_with fail
  refine (M1.out).mono ?_
  rintro e w2 ⟨rfl, hg, _⟩
  have HG := Lib.hid (HB.out.trans (below_grown_row hg HB.out.size B2.out))
  clear hg
  go_wp2_with fail
  go_ret2
  exact ⟨rfl, HG.out⟩

set_option maxHeartbeats 4000000 in
set_option maxRecDepth 100000 in
theorem bytes_ok (kind : Int) (A : Option Addr) (n c : Nat) (l : List Pr) (w : World) (hi : -9223372036854775808 ≤ kind) (hj : kind ≤ 9223372036854775807) (hl : PL w A l) (hn : l.length = n) (hc : n ≤ c) (ok : ∀ p ∈ l, PrOk p) (hv : validP kind l = 0) :
    Calls Tryz.prog 110 #[.int .i64 kind, .slice A n c] w fun e w' => e = .returned (.tuple #[.string (bs (vb (bodyP l).length (sz (bodyP l).length) ++ bodyP l)), .int .i64 0]) ∧ Below w.heap.size w w' := by
  obtain ⟨v1, v2, v3, v4⟩ := valid_parts hv
  have MS := fun W b mb (h : TalL W b mb kind []) hP hg => measure_any (w := W) (b := b) (mb := mb) A n c l h hi hj hP hg hn hc ok
  rw [hv, if_pos rfl] at MS
  have MS := Lib.hid MS
  have HL := Lib.hid hl
  have HN := Lib.hid hn
  have OK := Lib.hid ok
  have VB := fun W => bytes_some (bodyP l).length W v4
  obtain ⟨L, hL⟩ : ∃ L, vb (bodyP l).length (sz (bodyP l).length) = L := ⟨_, rfl⟩
  rw [hL] at VB ⊢
  have hres := partsP_flat L l
  rw [← hres]
  have hn3 : (partsP L l).length = 1 + 2 * n := by rw [partsP_length, hn]
  have hfl : (partsP L l).flatten.length ≤ 268435459 := by
    rw [hres, List.length_append, ← hL, vb_length]
    have := sz_cases (bodyP l).length v4
    omega
  have VB := Lib.hid VB
  have hn2 : (n : Int) ≤ 1000 := by omega
  have H3 := Lib.hid hn3
  have HF := Lib.hid hfl
  have CK := Lib.hid (show ∀ p ∈ l, checkP kind p = 0 from fun p hp => ((each_good kind l).1 v2).1 p hp)
  have V1 := Lib.hid v1
  obtain ⟨i0, hii, hz0, hz1, hz2⟩ := info_parts infoStr
  clear hn ok hl hv v1 v2 v3 v4 hres hn3 hfl hL
  go_enter Tryz.func110, Tryz.ntmps110
  go_wp2_with fail
  refine (begin_any kind w).mono ?_
  rintro e w1 ⟨b, mb, rfl, ht, hb, hb2, hm2⟩
  have M1 := Lib.hid (MS.out w1 b mb ⟨0, ht, SeenOK.nil⟩ (HL.out.below hb) (fun g i e hne => by
    obtain ⟨g', i', e', hg'⟩ := HL.out.addr hne
    rw [e] at e'
    cases e'
    omega))
  have HB := Lib.hid hb
  have B2 := Lib.hid hb2
  clear ht hb hm2 hb2 MS
  go_wp2_with fail
  refine (M1.out).mono ?_
  rintro e w2 ⟨rfl, hg, ht2⟩
  have TL := Lib.hid (ht2 (by simp))
  have HG := Lib.hid (HB.out.trans (below_grown_row hg HB.out.size B2.out))
  clear hg ht2 M1 HB B2
  go_wp2_with fail
  refine (VB.out _).mono ?_
  rintro e w3 ⟨rfl, hb3⟩
  have T3 := Lib.hid (TL.out.below hb3)
  have G3 := Lib.hid (HG.out.trans (hb3.mono HG.out.size))
  have L3 := Lib.hid (HL.out.below G3.out)
  clear hb3 TL HG HL VB
  have hbm := Lib.hid T3.out.lt
  go_wp2_with fail
  go_loopg [34, 11] n (fun gk s34 s11 wx => ∃ k : Nat, k ≤ n ∧ gk = n - k ∧ s34 = .int .i64 (k : Int) ∧ Below w3.heap.size w3 wx ∧ wx.ownsRow w3.heap.size 9 1 s11 (1 + 2 * k) (strs (partsP L (l.take k))))
  case atStart =>
    exact ⟨0, Nat.zero_le _, rfl, rfl, (Below.refl _ _).alloc (Nat.le_refl _) _, by simp [strs, partsP], .inr ⟨_, 1, _, rfl, Nat.le_refl _, heap_alloc_new _ _, Nat.le_refl _, by decide, rfl, by simp [strs, partsP]⟩⟩
  case round =>

    obtain ⟨k, hk, hgk, rfl, hB, hO⟩ := hrel
    by_cases hlt : k < n
    · have hkl : k < l.length := by rw [HN.out]; exact hlt
      obtain ⟨p, hp⟩ : ∃ p, l[k]? = some p := ⟨_, List.getElem?_eq_getElem hkl⟩
      obtain ⟨g, i, e', hg', c0, c1, c2, c3⟩ := ((L3.out.kept hB.size (fun g i e h => hB.block g h))).at hp
      subst e'
      have g1 : (k : Int) < (n : Int) := by omega
      have okp := OK.out p (List.mem_of_getElem? hp)
      have ckp := CK.out p (List.mem_of_getElem? hp)
      have hid := may_range (check_parts ckp).1
      have htk : l.take (k + 1) = l.take k ++ [p] := by rw [List.take_add_one, hp]; rfl
      obtain ⟨q, hq⟩ : ∃ q : Nat, p.id.toNat = q := ⟨_, rfl⟩
      have HP := Lib.hid (show strs (partsP L (l.take k)) ++ [.string (bs (be q 1)), .string (bs (valueP p))] = strs (partsP L (l.take (k + 1))) by rw [htk, partsP_snoc, strs_append, hq]; rfl)
      have hw : IntKind.u64.wrap p.id = ((q : Nat) : Int) := by simp only [IntKind.wrap_u64]; omega
      have PU := fun W => put_any q 1 W (by omega)
      rw [show (min (1 : Int) 16).toNat = 1 by decide] at PU
      have PU1 := Lib.hid PU
      have VA := fun W => value_any p W okp ckp
      unfold propV at VA
      have VA1 := Lib.hid VA
      have hOB := hO.lt
      have HB2 := Lib.hid hB
      have hS : ByS w3 b mb wr.heap.size kind p l (wr.alloc (.cells #[.int .i64 p.id, .int .u32 p.n, .string (bs p.text), .string (bs p.value)] 46)).drew :=
        (ByS.mk okp (PropAt.made wr p) ((T3.out.below hB).alloc _) (hB.alloc hB.size _) hbm.out.1 hbm.out.2 hB.size).drew
      have hO2 : (wr.alloc (.cells #[.int .i64 p.id, .int .u32 p.n, .string (bs p.text), .string (bs p.value)] 46)).drew.ownsRow w3.heap.size 9 1 u11 (1 + 2 * k) (strs (partsP L (l.take k))) := (hO.alloc _).drew
      have FD := rule_field0 (shapeP p.id) (maskP p.id) (prow p.id).least
      unfold ruleV at FD
      have h63 : 1 + 2 * k + 2 ≤ maxLen := by unfold maxLen; omega
      have hby : (1 + 2 * k + 2) * 16 ≤ 140737488355328 := by omega
      have hone : ∀ u ∈ [Value.string (bs (be q 1)), Value.string (bs (valueP p))], u.oneCell' = true := by simp [Value.oneCell']
      clear PU VA hid htk hO hB okp ckp hq
      go_wp2_with fail
      go_region_held3 (fun w' => w'.cell? ⟨wr.heap.size, 0, none⟩ = some (.int .i64 p.id) ∧ w'.cell? ⟨wr.heap.size, 1, none⟩ = some (.int .u32 p.n) ∧ w'.cell? ⟨wr.heap.size, 2, none⟩ = some (.string (bs p.text)) ∧ w'.cell? ⟨wr.heap.size, 3, none⟩ = some (.string (bs p.value)) ∧ w'.cell? ⟨b, 1, none⟩ = some (.map (some mb)) ∧
          (Instr.lookup 158 (.map (some mb)) (.int .i64 p.id) false).run Tryz.prog w' = .ok (.agg #[.int .i64 (shapeP p.id : Nat), .int .u32 (maskP p.id : Nat), .int .u32 ((prow p.id).least : Nat)]) w' ∧
          (PropAt w' wr.heap.size p ∧ TalL w' b mb kind l ∧ Below w3.heap.size w3 w' ∧ PrOk p ∧ b < w3.heap.size ∧ mb < w3.heap.size ∧ w3.heap.size ≤ wr.heap.size))
        (first | exact hS | exact ByS.alloc hS _ | exact ByS.app (ByS.alloc hS _) hgrow hOB)
        (first
          | (go_at_call 39; with_reducible refine (PU1.out _).mono ?_; rintro e w4 ⟨rfl, hb⟩; have hS := hS.call hb; have hO2 := own_below hO2 hb; clear hb)
          | (go_at_call 165; with_reducible refine (VA1.out _).mono ?_; rintro e w4 ⟨rfl, hb⟩; have hS := hS.call hb; have hO2 := own_below hO2 hb; clear hb)
          | (refine step_append_lies _ (by rfl) _ _ _ (by rfl) w3.heap.size 9 i0 _ 1 16 Tryz.underlying118 hii hz0 hz1 hz2 rfl (by decide) u11 (1 + 2 * k) (strs (partsP L (l.take k))) (by rfl) (hO2.alloc _) ⟨_, 0, none⟩ 2 2 [.string (bs (be q 1)), .string (bs (valueP p))] (by rfl) (by rfl) (World.news_of_block (cs := #[.string (bs (be q 1)), .string (bs (valueP p))]) (t := 9) (fr := (0, 0)) (heap_alloc_new _ _)) hone (by decide) h63 hby (ByS.base hS _) _ rfl ?_; intro gg cap w5 hown1 hgrow hat hlt))
      all_goals
        have hS2 := (ByS.app (ByS.alloc hS _) hgrow hOB).2.2.2.2.2.2.2.2.1
        rw [HP.out] at hown1
        have HB5 := Lib.hid hS2
        have HO5 := Lib.hid hown1
        rename_i hHeld
        clear h63 hby hone hHeld hS hS2 hown1 hO2 hgrow hat hOB
        go_wp2_with fail
        go_roundg (n - (k + 1))
        case measure => omega
        case rel => exact ⟨k + 1, by omega, rfl, by go_num, HB5.out, by have := HO5.out; rwa [show 1 + 2 * k + 2 = 1 + 2 * (k + 1) by omega] at this⟩
    · obtain rfl : k = n := by omega
      have ht1 : l.take k = l := List.take_of_length_le (by rw [HN.out]; omega)
      rw [ht1] at hO
      have hlen := H3.out
      obtain ⟨g, cap, cur, hv, hbg, hg, hcap, _, _, hcur⟩ : ∃ (g cap : Nat) (cur : Array Value), u11 = .slice (some ⟨g, 0, none⟩) (1 + 2 * k) cap ∧ w3.heap.size ≤ g ∧ wr.heap[g]? = some (.cells cur 9 (0, 0)) ∧ 1 + 2 * k ≤ cap ∧ cap ≤ maxLen ∧ cur.size = cap * 1 ∧ List.take ((1 + 2 * k) * 1) cur.toList = strs (partsP L l) := by
        rcases hO.2 with ⟨_, h0⟩ | ⟨g, cap, cur, h⟩
        · omega
        · exact ⟨g, cap, cur, h⟩
      subst hv
      have JN := join_parts g 0 cap (partsP L l) wr (fun j hj => by
        rw [Nat.zero_add, cell_of_row wr g j cur _ _ hg]
        have e1 : (strs (partsP L l))[j]? = some (.string (bs ((partsP L l).getD j []))) := by
          unfold strs
          rw [List.getElem?_map, List.getElem?_eq_getElem hj]
          simp [List.getD, List.getElem?_eq_getElem hj]
        rw [← hcur, List.getElem?_take_of_lt (by omega)] at e1
        simpa using e1) (lt_of_block hg) (by omega) (by have := HF.out; omega) (by omega)
      rw [hlen] at JN
      have JN1 := Lib.hid JN
      have HW := Lib.hid (G3.out.trans (hB.mono G3.out.size))
      clear JN hO hcur hg hbg hB ht1
      go_wp2_with fail
      refine (JN1.out).mono ?_
      rintro e w6 ⟨rfl, hb6⟩
      have HW2 := Lib.hid (HW.out.trans (hb6.mono HW.out.size))
      clear hb6
      go_wp2_with fail
      go_ret2
      exact ⟨rfl, HW2.out⟩

theorem bytes_list (kind : Int) (A : Option Addr) (n c : Nat) (l : List Pr) (w : World) (hi : -9223372036854775808 ≤ kind) (hj : kind ≤ 9223372036854775807) (hl : PL w A l) (hn : l.length = n) (hc : n ≤ c) (ok : ∀ p ∈ l, PrOk p) :
    Calls Tryz.prog 110 #[.int .i64 kind, .slice A n c] w fun e w' => e = .returned (.tuple #[.string (bs (bytesP kind l).1), .int .i64 ((bytesP kind l).2 : Nat)]) ∧ Below w.heap.size w w' := by
  unfold bytesP
  by_cases hv : validP kind l = 0
  · rw [if_neg (by simp [hv])]
    exact bytes_ok kind A n c l w hi hj hl hn hc ok hv
  · rw [if_pos hv]
    exact bytes_err kind A n c l w hi hj hl hn hc ok hv
end Go.Proofs.YtaahhbjnflimnaaGreat
namespace Go.Proofs.YtaahhbjnflimnaaGreat
open Go.RowKit

theorem infoP : (Tryz.prog.info? 46).map (fun i => (i.zero, i.size, i.bytes)) = some (some (.agg #[.int .i64 0, .int .u32 0, .string .empty, .string .empty]), 4, 48) := by kernel_rfl
theorem own_nothing (A : Option Addr) (c : Nat) (w : World) :
    Calls Tryz.prog 44 #[.slice A 0 c] w fun e w' => ∃ v, e = .returned v ∧ w'.ownsRow w.heap.size 46 4 v 0 (pcs []) ∧ Below w.heap.size w w' := by
  obtain ⟨i0, hi, hz0, hz1, hz2⟩ := info_parts infoP
  cases A with
  | none =>
    go_enter Tryz.func44, Tryz.ntmps44
    go_wp2_with fail
    go_ret
    exact ⟨_, rfl, World.ownsRow_made w #[] 0 (Nat.le_refl _) (by decide) rfl, (Below.refl _ _).alloc (Nat.le_refl _) _⟩
  | some a =>
    go_enter Tryz.func44, Tryz.ntmps44
    go_wp2_with (at_builtin; refine wpList_append_own _ rfl _ _ 22 rfl w.heap.size 46 i0 (.agg #[.int .i64 0, .int .u32 0, .string .empty, .string .empty]) 4 48 Tryz.underlying22 hi hz0 hz1 hz2 rfl (by decide) _ 0 [] rfl (World.ownsRow_made w #[] 0 (Nat.le_refl _) (by decide) rfl) a 0 c (pcs []) rfl (pcs_length []) (fun j u hu => by simp [pcs] at hu) (pcs_one []) (by decide) (by decide) (by simp) ?_; intro v' w1 hown hgrow _)
    go_ret
    rw [Nat.zero_add, List.nil_append] at hown
    refine ⟨_, rfl, hown, ⟨hgrow.os, hgrow.tape, hgrow.output, by have := hgrow.size; simp at this; omega, fun k hk => ?_⟩⟩
    rw [hgrow.block k (by rw [World.size_alloc]; omega) (fun e => by have e2 : k = w.heap.size := Option.some.inj e; omega)]
    exact (Below.heap_alloc w _ k hk)
set_option maxHeartbeats 1000000 in
theorem own_some (g i c : Nat) (l : List Pr) (w : World) (ha : PL w (some ⟨g, i, none⟩) l) (hl : l.length ≤ 2000) :
    Calls Tryz.prog 44 #[.slice (some ⟨g, i, none⟩) l.length c] w fun e w' => ∃ v, e = .returned v ∧ w'.ownsRow w.heap.size 46 4 v l.length (pcs l) ∧ Below w.heap.size w w' := by
  obtain ⟨i0, hi, hz0, hz1, hz2⟩ := info_parts infoP
  have src : ∀ j u, (pcs l)[j]? = some u → (w.alloc (.cells #[] 46)).cell? ((⟨g, i, none⟩ : Addr).add j) = some u := fun j u hu => by
    have hj : j < l.length * 4 := by
      have := (List.getElem?_eq_some_iff.1 hu).1
      rwa [pcs_length] at this
    obtain ⟨p, hp⟩ : ∃ p, l[j / 4]? = some p := ⟨_, List.getElem?_eq_getElem (by omega)⟩
    obtain ⟨g', i', e', hg, a0, a1, a2, a3⟩ := ha.at hp
    cases e'
    have e1 : j = j / 4 * 4 + j % 4 := by omega
    have hq : (pcs l)[j]? = (pc p)[j % 4]? := by
      have := pcs_get l (j / 4) (j % 4) p hp (by omega)
      rwa [← e1] at this
    rw [hu] at hq
    have hadd : (⟨g, i, none⟩ : Addr).add j = ⟨g, i + j, none⟩ := Addr.add_lit g i j
    rw [hadd, World.cell?_alloc_old _ _ _ (Nat.ne_of_lt hg)]
    have hr : j % 4 = 0 ∨ j % 4 = 1 ∨ j % 4 = 2 ∨ j % 4 = 3 := by omega
    rcases hr with h | h | h | h
    · rw [h] at hq; rw [show i + j = i + j / 4 * 4 by omega, a0]; exact hq.symm
    · rw [h] at hq; rw [show i + j = i + j / 4 * 4 + 1 by omega, a1]; exact hq.symm
    · rw [h] at hq; rw [show i + j = i + j / 4 * 4 + 2 by omega, a2]; exact hq.symm
    · rw [h] at hq; rw [show i + j = i + j / 4 * 4 + 3 by omega, a3]; exact hq.symm
  have SRC := Lib.hid src
  have HL := Lib.hid hl
  clear src ha hl
  go_enter Tryz.func44, Tryz.ntmps44
  go_wp2_with (at_builtin; refine wpList_append_own _ rfl _ _ 22 rfl w.heap.size 46 i0 (.agg #[.int .i64 0, .int .u32 0, .string .empty, .string .empty]) 4 48 Tryz.underlying22 hi hz0 hz1 hz2 rfl (by decide) _ 0 [] rfl (World.ownsRow_made w #[] 0 (Nat.le_refl _) (by decide) rfl) ⟨g, i, none⟩ l.length c (pcs l) rfl (pcs_length l) SRC.out (pcs_one l) (by have := HL.out; simp only [maxLen]; omega) (by have := HL.out; omega) (by simp) ?_; intro v' w1 hown hgrow _)
  go_ret
  rw [Nat.zero_add, List.nil_append] at hown
  refine ⟨_, rfl, hown, ⟨hgrow.os, hgrow.tape, hgrow.output, by have := hgrow.size; simp at this; omega, fun k hk => ?_⟩⟩
  rw [hgrow.block k (by rw [World.size_alloc]; omega) (fun e => by have e2 : k = w.heap.size := Option.some.inj e; omega)]
  exact (Below.heap_alloc w _ k hk)
theorem own_props (A : Option Addr) (n c : Nat) (l : List Pr) (w : World) (ha : PL w A l) (hn : l.length = n) (hl : n ≤ 2000) :
    Calls Tryz.prog 44 #[.slice A n c] w fun e w' => ∃ v, e = .returned v ∧ w'.ownsRow w.heap.size 46 4 v n (pcs l) ∧ Below w.heap.size w w' := by
  subst hn
  by_cases h : l = []
  · subst h
    exact own_nothing A c w
  · obtain ⟨g, i, rfl, _⟩ := ha.addr h
    exact own_some g i c l w ha hl
end Go.Proofs.YtaahhbjnflimnaaGreat
namespace Go.Proofs.YtaahhbjnflimnaaGreat
open Go.RowKit

/-- What an append to a list that is owned leaves. -/
theorem below_own {W W' : World} {base n size : Nat} {t : TypeId} {v : Value} {xs : List Value} (h : W.ownsRow base t size v n xs) (hg : W.grownBy W' v.ownBlock) (hb : base ≤ W.heap.size) : Below base W W' := by
  rcases h.2 with ⟨rfl, _⟩ | ⟨g, cap, cur, rfl, hbg, _⟩
  · exact ⟨hg.os, hg.tape, hg.output, hg.size, fun k hk => hg.block k (Nat.lt_of_lt_of_le hk hb) (fun e => by cases e)⟩
  · exact below_grown_row hg hb hbg
/-- The cells behind an address. -/
theorem PL.cells {W : World} {g i : Nat} {l : List Pr} (h : PL W (some ⟨g, i, none⟩) l) : ∀ j u, (pcs l)[j]? = some u → W.cell? ((⟨g, i, none⟩ : Addr).add j) = some u := fun j u hu => by
  have hj : j < l.length * 4 := by
    have := (List.getElem?_eq_some_iff.1 hu).1
    rwa [pcs_length] at this
  obtain ⟨p, hp⟩ : ∃ p, l[j / 4]? = some p := ⟨_, List.getElem?_eq_getElem (by omega)⟩
  obtain ⟨g', i', e', hg, a0, a1, a2, a3⟩ := h.at hp
  cases e'
  have e1 : j = j / 4 * 4 + j % 4 := by omega
  have hq : (pcs l)[j]? = (pc p)[j % 4]? := by
    have := pcs_get l (j / 4) (j % 4) p hp (by omega)
    rwa [← e1] at this
  rw [hu] at hq
  rw [Addr.add_lit g i j]
  have hr : j % 4 = 0 ∨ j % 4 = 1 ∨ j % 4 = 2 ∨ j % 4 = 3 := by omega
  rcases hr with h | h | h | h
  · rw [h] at hq; rw [show i + j = i + j / 4 * 4 by omega, a0]; exact hq.symm
  · rw [h] at hq; rw [show i + j = i + j / 4 * 4 + 1 by omega, a1]; exact hq.symm
  · rw [h] at hq; rw [show i + j = i + j / 4 * 4 + 2 by omega, a2]; exact hq.symm
  · rw [h] at hq; rw [show i + j = i + j / 4 * 4 + 3 by omega, a3]; exact hq.symm
set_option maxRecDepth 100000 in
theorem run_append_props {W : World} {v : Value} {base nA g i m c : Nat} {L M : List Pr} (ty : TypeId) (hown : W.ownsRow base 46 4 v nA (pcs L)) (hM : PL W (some ⟨g, i, none⟩) M) (hm : M.length = m) (hn : nA + m ≤ 3000) (hb : base ≤ W.heap.size) :
    ∃ v' w', (Builtin.append_ #[22, 22] ty #[v, .slice (some ⟨g, i, none⟩) m c]).run Tryz.prog W = .ok v' w' ∧ w'.ownsRow base 46 4 v' (nA + m) (pcs (L ++ M)) ∧ Below base W w' := by
  obtain ⟨i0, hi, hz0, hz1, hz2⟩ := info_parts infoP
  obtain ⟨v', w', hr, h2, h3, _, _⟩ := run_append_own_at (P := Tryz.prog) W base 22 ty 46 i0 (.agg #[.int .i64 0, .int .u32 0, .string .empty, .string .empty]) 4 48 Tryz.underlying22 hi hz0 hz1 hz2 rfl (by decide) v nA (pcs L) hown ⟨g, i, none⟩ m c (pcs M) (by rw [pcs_length, hm]) hM.cells (pcs_one M) (by simp only [maxLen]; omega) (by omega) hb
  rw [← pcs_append] at h2
  exact ⟨v', w', hr, h2, below_own hown h3 hb⟩
theorem wp_of_append {P : Program} {W : World} {o : Oper} {a : Act} {K : Act → World → Prop} {Q : Exit → Act → World → Prop} (s x : Operand) (t : TypeId)
    (ho : o.op = .call { callee := .builtin .append, args := #[s, x], argTypes := #[t, t] }) {v sl v' : Value} {w' : World} (hs : a.eval s = v) (hx : a.eval x = sl)
    (hr : (Builtin.append_ #[t, t] o.type #[v, sl]).run P W = .ok v' w') (h : K (a.put o.dst v') w') : o.wp P a W K Q := by
  unfold Oper.wp execOp
  simp only [ho, resolve, invoke, builtin, Sem.run_bind, Sem.run_pure, Result.andThen_ok, List.map_toArray, List.map_cons, List.map_nil, hs, hx, hr]
  exact h
/-- At the operation. -/
theorem wp_append_props {W : World} {o : Oper} {a : Act} {K : Act → World → Prop} {Q : Exit → Act → World → Prop} (s x : Operand)
    (ho : o.op = .call { callee := .builtin .append, args := #[s, x], argTypes := #[22, 22] })
    {v : Value} {base nA g i m c : Nat} {L M : List Pr} (hs : a.eval s = v) (hx : a.eval x = .slice (some ⟨g, i, none⟩) m c) (hown : W.ownsRow base 46 4 v nA (pcs L)) (hM : PL W (some ⟨g, i, none⟩) M) (hm : M.length = m) (hn : nA + m ≤ 3000) (hb : base ≤ W.heap.size)
    (h : ∀ v' w', w'.ownsRow base 46 4 v' (nA + m) (pcs (L ++ M)) → Below base W w' → K (a.put o.dst v') w') : o.wp Tryz.prog a W K Q := by
  obtain ⟨v', w', hr, h2, h3⟩ := run_append_props o.type hown hM hm hn hb
  exact wp_of_append s x _ ho hs hx hr (h v' w' h2 h3)
/-- At a step of a region that draws. -/
theorem step_append_props {W : World} {ops : Array Oper} {o : Oper} {a : Act} {K : Act → World → Prop} {Q : Exit → Act → World → Prop} {E : Prop} (hgd : o.guard = none) (s x : Operand)
    (ho : o.op = .call { callee := .builtin .append, args := #[s, x], argTypes := #[22, 22] })
    {v : Value} {base nA g i m c : Nat} {L M : List Pr} (hs : a.eval s = v) (hx : a.eval x = .slice (some ⟨g, i, none⟩) m c) (hown : W.ownsRow base 46 4 v nA (pcs L)) (hM : PL W (some ⟨g, i, none⟩) M) (hm : M.length = m) (hn : nA + m ≤ 3000) (hb : base ≤ W.heap.size)
    (h : ∀ v' w', w'.ownsRow base 46 4 v' (nA + m) (pcs (L ++ M)) → Below base W w' → K (a.put o.dst v') w') : if Region.wanted o (yielded ops a.tmps) = true then Oper.wp Tryz.prog o a W K Q else E := by
  have hw : Region.wanted o (yielded ops a.tmps) = true := by simp [Region.wanted, hgd]
  rw [if_pos hw]
  exact wp_append_props s x ho hs hx hown hM hm hn hb h
end Go.Proofs.YtaahhbjnflimnaaGreat
