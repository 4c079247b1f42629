/-
  What Get tells. No condition.
  The contract of prop.Get. Condition: fewer than 70,000 properties.
  The contracts of publish's small functions: require, checkFlags, idFits, used, Alias, topicFits. Condition: fewer than 70,000 properties.
-/
import Derived.Laws.ResultCell
import Derived.Laws.CopyOwn
import Derived.Deep.DeepCutAuto
import Derived.Test.YtaahhbjnflimnaaGreatK40
import Derived.Test.YtaahhbjnflimnaaGreatK14
import Derived.Test.YtaahhbjnflimnaaGreatK12
import Derived.Test.YtaahhbjnflimnaaGreatK22
import Derived.Test.YtaahhbjnflimnaaGreatK20
import Derived.Test.YtaahhbjnflimnaaGreatK34
import Derived.Test.YtaahhbjnflimnaaGreatK23
import Derived.Test.YtaahhbjnflimnaaGreatK30
namespace Go.Proofs.YtaahhbjnflimnaaGreat
open Go.RowKit

/-- What Get tells: the property, and whether there is one. -/
def getP (l : List Pr) (id : Int) : Pr × Bool := match l.find? fun p => p.id == id with
  | some p => (p, true)
  | none => (⟨0, 0, [], []⟩, false)
theorem getP_nil (id : Int) : getP [] id = (⟨0, 0, [], []⟩, false) := rfl
theorem getP_cons (p : Pr) (l : List Pr) (id : Int) : getP (p :: l) id = if p.id = id then (p, true) else getP l id := by
  unfold getP
  rw [List.find?_cons]
  by_cases h : p.id = id
  · have : (p.id == id) = true := by simpa using h
    rw [this, if_pos h]
  · have : (p.id == id) = false := by simpa using h
    rw [this, if_neg h]
theorem getP_has (l : List Pr) (id : Int) : (getP l id).2 = hasP l id := by
  induction l with
  | nil => rfl
  | cons p l ih =>
    rw [getP_cons]
    unfold hasP at ih ⊢
    rw [List.any_cons]
    by_cases h : p.id = id
    · rw [if_pos h]; simp [h]
    · rw [if_neg h, ih]; simp [h]
theorem info4 : (Tryz.prog.info? 46).map (·.size) = some 4 := by kernel_rfl
theorem ret_cell2 {fn : Func} {R : Ending → World → Prop} {a : Act} {W : World} {p u : Tmp} {B : Nat} {cs : Array Value} {v : Value} (h : fn.results = #[.cell p 46, .tmp u]) (hp : a.tmps.getD p undef = .pointer (some ⟨B, 0, none⟩)) (hu : a.tmps.getD u undef = v) (hd : a.defers = []) (hcs : cs.size = 4)
    (hg : W.heap[B]? = some (.cells cs 46 (0, 0))) (hR : R (.returned (.tuple #[.agg cs, v])) W) : bodyPost Tryz.prog fn R .ret a W := by
  refine bodyPost_ret (v := .tuple #[.agg cs, v]) ?_ hd hR
  rw [results_cell_tmp h, hp, hu]
  have := run_loadVar_row (P := Tryz.prog) W B 46 46 cs (0, 0) _ hg Tryz.underlying46 rfl (by rw [hcs]; kernel_rfl)
  simp [asAddr, this, Result.andThen]
end Go.Proofs.YtaahhbjnflimnaaGreat
namespace Go.Proofs.YtaahhbjnflimnaaGreat
open Go.RowKit

set_option maxHeartbeats 1000000 in
theorem get_list (A : Option Addr) (n c : Nat) (l : List Pr) (id : Int) (w : World) (hl : PL w A l) (hn : l.length = n) (hN : n ≤ 70000) :
    Calls Tryz.prog 87 #[.slice A n c, .int .i64 id] w fun e w' => e = .returned (.tuple #[propV (getP l id).1, .bool (getP l id).2]) ∧ Below w.heap.size w w' := by
  have HL := Lib.hid hl
  have HN := Lib.hid hn
  have hN2 : (n : Int) ≤ 70000 := by omega
  obtain ⟨R, hR⟩ : ∃ R, getP l id = R := ⟨_, rfl⟩
  rw [hR]
  have HR := Lib.hid hR
  have B0 := Lib.hid (show Below w.heap.size w (w.alloc (.cells #[.int .i64 0, .int .u32 0, .string ⟨#[]⟩, .string ⟨#[]⟩] 46)) from (Below.refl _ _).alloc (Nat.le_refl _) _)
  have Z0 := Lib.hid (heap_alloc_new w (.cells #[.int .i64 0, .int .u32 0, .string ⟨#[]⟩, .string ⟨#[]⟩] 46))
  clear hl hn hN hR
  go_enter Tryz.func87, Tryz.ntmps87
  go_wp2_with fail
  go_loopg [10] n (fun gk s10 wx => ∃ k : Nat, k ≤ n ∧ gk = n - k ∧ s10 = .int .i64 (k : Int) ∧ getP (l.drop k) id = R ∧ Below w.heap.size w wx ∧ wx.heap[w.heap.size]? = some (.cells #[.int .i64 0, .int .u32 0, .string ⟨#[]⟩, .string ⟨#[]⟩] 46 (0, 0)))
  case atStart => exact ⟨0, by omega, by omega, rfl, HR.out, B0.out, Z0.out⟩
  case round =>
    obtain ⟨k, hk, hgk, rfl, hE, hB, hZ⟩ := hrel
    by_cases hlt : k < n
    · have hkl : k < l.length := by rw [HN.out]; exact hlt
      obtain ⟨p, hp⟩ : ∃ p, l[k]? = some p := ⟨_, List.getElem?_eq_getElem hkl⟩
      obtain ⟨g, i, e', hg', c0, c1, c2, c3⟩ := (HL.out.below hB).at hp
      subst e'
      have g1 : (k : Int) < (n : Int) := by omega
      have hdr : l.drop k = p :: l.drop (k + 1) := by
        rw [List.drop_eq_getElem_cons hkl]; congr 1
        rw [List.getElem?_eq_getElem hkl] at hp; exact Option.some.inj hp
      rw [hdr, getP_cons] at hE
      have hzl := lt_of_block hZ
      have HB := Lib.hid (hB.alloc hB.size (.cells #[.int .i64 p.id, .int .u32 p.n, .string (bs p.text), .string (bs p.value)] 46))
      have hZ2 := (heap_alloc_old wr (.cells #[.int .i64 p.id, .int .u32 p.n, .string (bs p.text), .string (bs p.value)] 46) hzl).trans hZ
      have HZ := Lib.hid hZ2
      have fz : ∀ j, (wr.alloc (.cells #[.int .i64 p.id, .int .u32 p.n, .string (bs p.text), .string (bs p.value)] 46)).frozen? ⟨w.heap.size, j, none⟩ = false := fun j => by simp [World.frozen?, hZ2]
      have cz : ∀ j, (wr.alloc (.cells #[.int .i64 p.id, .int .u32 p.n, .string (bs p.text), .string (bs p.value)] 46)).cell? ⟨w.heap.size, j, none⟩ = (#[.int .i64 0, .int .u32 0, .string ⟨#[]⟩, .string ⟨#[]⟩] : Array Value)[j]? := fun j => cell_of_row _ _ _ _ _ _ hZ2
      by_cases hq : p.id = id
      · rw [if_pos hq] at hE
        have q1 : (p.id == id) = true := by simpa using hq
        subst hE
        clear hq hB hZ fz cz hdr hp hkl
        go_wp2_with (refine wpList_store_row rfl _ _ _ rfl w.heap.size _ rfl rfl 46 _ hZ2 info4 rfl (by simp [Value.oneCell']) ?_)
        (try simp only [Exit.inBlock, Exit.then])
        refine ret_cell2 rfl rfl rfl rfl ?_ (setRow_heap _ _ _ _ _ _ HZ.out) ?_
        · rfl
        · exact ⟨rfl, below_setRow HB.out (Nat.le_refl _) _⟩
      · rw [if_neg hq] at hE
        have HE := Lib.hid hE
        have q1 : (p.id == id) = false := by simpa using hq
        clear hE hq hB hZ hZ2 fz cz hdr hp hkl
        go_wp2_with fail
        go_roundg (n - (k + 1))
        case measure => omega
        case rel => exact ⟨k + 1, by omega, rfl, by go_num, HE.out, HB.out, HZ.out⟩
    · obtain rfl : k = n := by omega
      have hd1 : l.drop k = [] := List.drop_of_length_le (by rw [HN.out]; omega)
      rw [hd1, getP_nil] at hE
      have HZ := Lib.hid hZ
      have HB := Lib.hid hB
      subst hE
      clear hB hd1
      go_wp2_with (refine wpList_store_row rfl _ _ _ rfl w.heap.size _ rfl rfl 46 _ hZ info4 rfl (by simp [Value.oneCell']) ?_)
      (try simp only [Exit.inBlock, Exit.then])
      refine ret_cell2 rfl rfl rfl rfl ?_ (setRow_heap _ _ _ _ _ _ HZ.out) ?_
      · rfl
      · exact ⟨rfl, below_setRow HB.out (Nat.le_refl _) _⟩
end Go.Proofs.YtaahhbjnflimnaaGreat
namespace Go.Proofs.YtaahhbjnflimnaaGreat
open Go.RowKit

theorem pub_require (b : Bool) (f : Nat) (w : World) : Calls Tryz.prog 89 #[.bool b, .int .i64 (f : Int)] w fun e w' => e = .returned (.int .i64 ((if b then 0 else f : Nat) : Int)) ∧ w = w' := by
  cases b
  all_goals
    go_enter Tryz.func89, Tryz.ntmps89
    go_wp2
    go_ret
    exact ⟨rfl, rfl⟩
set_option maxRecDepth 100000 in
theorem pub_flags (v : Int) (p : Pk) (a : Ad) (w : World) : Calls Tryz.prog 91 #[.int .i64 v, .agg (pkC p a)] w fun e w' => e = .returned (.int .i64 (((flagsF v p.kind p.dup p.retain p.qos).2 : Nat) : Int)) ∧ Below w.heap.size w w' := by
  have S0 := Lib.hid (BxS.made w p a)
  have C1 := Lib.hid (pkC_size p a)
  have FL := fun W => flags_any v (k := p.kind) (q := p.qos) (d := p.dup) (r := p.retain) (c := pkC p a) W (pkC_size p a) rfl rfl rfl rfl
  unfold FlRet at FL
  have FL := Lib.hid FL
  go_enter Tryz.func91, Tryz.ntmps91
  go_wp2_with (refine wpList_load_row rfl _ _ rfl w.heap.size rfl 28 _ (0, 0) _ S0.out.box Tryz.underlying28 rfl (by rw [C1.out]; exact info_pk) ?_)
  refine (FL.out _).mono ?_
  rintro e W ⟨rfl, hb⟩
  have LO := Lib.hid (below_then S0.out.low hb)
  clear hb
  go_wp2_with fail
  go_ret
  exact ⟨rfl, LO.out⟩
set_option maxRecDepth 100000 in
theorem pub_id_fits (p : Pk) (a : Ad) (w : World) : Calls Tryz.prog 93 #[.agg (pkC p a)] w fun e w' => e = .returned (.bool (idU p)) ∧ Below w.heap.size w w' := by
  have S0 := Lib.hid (BxS.made w p a)
  have c3 : (w.alloc (.cells (pkC p a) 28)).cell? ⟨w.heap.size, 3, none⟩ = some (.int .i64 p.qos) := S0.out.cell 3
  have c4 : (w.alloc (.cells (pkC p a) 28)).cell? ⟨w.heap.size, 4, none⟩ = some (.int .i64 p.id) := S0.out.cell 4
  obtain ⟨R, hR⟩ : ∃ R, idU p = R := ⟨_, rfl⟩
  rw [hR]
  unfold idU at hR
  by_cases hq : p.qos = 0
  · rw [if_pos hq] at hR
    have e1 : (p.qos == 0) = true := by simpa using hq
    clear hq
    generalize p.qos = q at *
    go_enter Tryz.func93, Tryz.ntmps93
    go_wp2_with fail
    go_ret
    exact ⟨rfl, S0.out.low⟩
  · rw [if_neg hq] at hR
    have e1 : (p.qos == 0) = false := by simpa using hq
    clear hq
    generalize p.qos = q at *
    by_cases h1 : 0 < p.id
    · have g1 : decide ((0 : Int) < p.id) = true := decide_eq_true h1
      rw [g1, Bool.true_and] at hR
      clear h1
      generalize p.id = i at *
      go_enter Tryz.func93, Tryz.ntmps93
      go_wp2_with fail
      go_ret
      exact ⟨rfl, S0.out.low⟩
    · have g1 : decide ((0 : Int) < p.id) = false := decide_eq_false h1
      rw [g1, Bool.false_and] at hR
      clear h1
      generalize p.id = i at *
      have HR := Lib.hid hR
      clear hR
      go_enter Tryz.func93, Tryz.ntmps93
      go_wp2_with fail
      go_ret
      exact ⟨congrArg (fun b => Ending.returned (Value.bool b)) HR.out, S0.out.low⟩
/-- Where the lists of the packet with those fields alone lie. -/
def usedUA (v : Int) (a : Ad) : Ad := { adZ with ps := if v = 5 then a.ps else none, pc := if v = 5 then a.pc else 0 }
theorem usedU_at {w : World} {p : Pk} {a : Ad} (v : Int) (h : PkAt w p a) : PkAt w (usedU v p) (usedUA v a) := by
  refine ⟨fun e => absurd rfl e, fun e => absurd rfl e, fun e => absurd rfl e, ?_⟩
  unfold usedU usedUA
  by_cases h5 : v = 5
  · simp only [if_pos h5]; exact h.ps
  · simp only [if_neg h5]; exact fun e => absurd rfl e
theorem usedU_short {p : Pk} (v : Int) (h : Short p) : Short (usedU v p) := by
  refine ⟨Nat.zero_le _, Nat.zero_le _, ?_, Nat.zero_le _⟩
  unfold usedU
  by_cases h5 : v = 5
  · simp only [if_pos h5]; exact h.2.2.1
  · simp only [if_neg h5]; exact Nat.zero_le _
set_option maxRecDepth 100000 in
set_option maxHeartbeats 2000000 in
theorem pub_used (v : Int) (p : Pk) (a : Ad) (w : World) : Calls Tryz.prog 95 #[.int .i64 v, .agg (pkC p a)] w fun e w' => e = .returned (.agg (pkC (usedU v p) (usedUA v a))) ∧ Below w.heap.size w w' := by
  obtain ⟨R, hR⟩ : ∃ R, pkC (usedU v p) (usedUA v a) = R := ⟨_, rfl⟩
  rw [hR]
  have HR := Lib.hid hR
  have HR1 : R.size = 25 := by rw [← hR]; exact pkC_size _ _
  have HR2 : R.all (·.oneCell') = true := by rw [← hR]; exact pkC_one _ _
  have HE1 := Lib.hid HR1
  have HE2 := Lib.hid HR2
  clear hR HR1 HR2
  obtain ⟨D, hD⟩ : ∃ D, pkC { usedU v p with props := [] } adZ = D := ⟨_, rfl⟩
  have hD1 : D.size = 25 := by rw [← hD]; exact pkC_size _ _
  have hD2 : D.all (·.oneCell') = true := by rw [← hD]; exact pkC_one _ _
  have HD := Lib.hid hD
  have HD1 := Lib.hid hD1
  have HD2 := Lib.hid hD2
  have HZ := Lib.hid pkZ_size
  have hzv := zero_pk
  have hne : ¬ pkZ = #[] := by intro h; have := pkZ_size; rw [h] at this; cases this
  have Z0 : ((w.alloc (.cells (pkC p a) 28)).alloc (.cells pkZ 28)).heap.size = w.heap.size + 1 + 1 := by simp
  have GB := heap_alloc2_old w (.cells (pkC p a) 28) (.cells pkZ 28)
  have GR := heap_alloc2_new w (.cells (pkC p a) 28) (.cells pkZ 28)
  have L0 := below_then (below_box (w := w) (.cells (pkC p a) 28)) (below_box (.cells pkZ 28))
  have k0 : ((w.alloc (.cells (pkC p a) 28)).alloc (.cells pkZ 28)).cell? ⟨w.heap.size, 0, none⟩ = some (.int .i64 p.kind) := cell_of_row _ _ 0 _ _ _ GB
  have k1 : ((w.alloc (.cells (pkC p a) 28)).alloc (.cells pkZ 28)).cell? ⟨w.heap.size, 1, none⟩ = some (.bool p.dup) := cell_of_row _ _ 1 _ _ _ GB
  have k2 : ((w.alloc (.cells (pkC p a) 28)).alloc (.cells pkZ 28)).cell? ⟨w.heap.size, 2, none⟩ = some (.bool p.retain) := cell_of_row _ _ 2 _ _ _ GB
  have k3 : ((w.alloc (.cells (pkC p a) 28)).alloc (.cells pkZ 28)).cell? ⟨w.heap.size, 3, none⟩ = some (.int .i64 p.qos) := cell_of_row _ _ 3 _ _ _ GB
  have k4 : ((w.alloc (.cells (pkC p a) 28)).alloc (.cells pkZ 28)).cell? ⟨w.heap.size, 4, none⟩ = some (.int .i64 p.id) := cell_of_row _ _ 4 _ _ _ GB
  have k5 : ((w.alloc (.cells (pkC p a) 28)).alloc (.cells pkZ 28)).cell? ⟨w.heap.size, 5, none⟩ = some (.string (bs p.topic)) := cell_of_row _ _ 5 _ _ _ GB
  have k6 : ((w.alloc (.cells (pkC p a) 28)).alloc (.cells pkZ 28)).cell? ⟨w.heap.size, 6, none⟩ = some (.string (bs p.payload)) := cell_of_row _ _ 6 _ _ _ GB
  go_enter Tryz.func95, Tryz.ntmps95
  go_upto_region 1 with fail
  generalize (w.alloc (.cells (pkC p a) 28)).alloc (.cells pkZ 28) = W0 at *
  have GN := heap_alloc_new W0 (.cells pkZ 28)
  have L1 := belowRow (below_then L0 (below_box (.cells pkZ 28))) (show w.heap.size ≤ W0.heap.size by omega) D
  have GB1 := (setRow_other (W0.alloc (.cells pkZ 28)) W0.heap.size w.heap.size D (by omega)).trans ((heap_alloc_old _ (.cells pkZ 28) (by omega)).trans GB)
  have GR1 := (setRow_other (W0.alloc (.cells pkZ 28)) W0.heap.size (w.heap.size + 1) D (by omega)).trans ((heap_alloc_old _ (.cells pkZ 28) (by omega)).trans GR)
  have GN1 := setRow_heap _ _ _ D _ _ GN
  have Z1 := Lib.hid Z0
  obtain ⟨B, hB⟩ : ∃ B, W0.heap.size = B := ⟨_, rfl⟩
  have GN := Lib.hid GN
  have L1 := Lib.hid L1
  have GB1 := Lib.hid GB1
  have GR1 := Lib.hid GR1
  have GN1 := Lib.hid GN1
  clear Z0 GB GR L0 hD hD1 hD2 hB
  by_cases h5 : v = 5
  · have e5 : (v == 5) = true := by simpa using h5
    have hu : D.setIfInBounds 24 (.slice a.ps p.props.length a.pc) = R := by rw [← HR.out, ← HD.out]; simp [pkC, usedU, usedUA, h5]
    have LF := Lib.hid (belowRow (below_set (j := 24) (u := .slice a.ps p.props.length a.pc) L1.out (show w.heap.size ≤ W0.heap.size by have := Z1.out; omega)) (show w.heap.size ≤ w.heap.size + 1 by omega) R)
    have c24 := Lib.hid (cell_of_row _ _ 24 _ _ _ GB1.out)
    have G2 := Lib.hid (own_row_set GN1.out hu)
    have GR2 := Lib.hid ((heap_setCell_other _ (⟨W0.heap.size, 24, none⟩ : Addr) (w.heap.size + 1) (.slice a.ps p.props.length a.pc) (by show w.heap.size + 1 ≠ W0.heap.size; have := Z1.out; omega)).trans GR1.out)
    have n24 : ((W0.alloc (.cells pkZ 28)).setRow W0.heap.size D).cell? ⟨W0.heap.size, 24, none⟩ = some (.slice none 0 0) := (cell_of_row _ _ 24 _ _ _ GN1.out).trans (by rw [← HD.out]; rfl)
    have f24 := frozen_of_row _ _ 24 _ _ GN1.out
    have b24 : ((W0.alloc (.cells pkZ 28)).setRow W0.heap.size D).cell? ⟨w.heap.size, 24, none⟩ = some (.slice a.ps p.props.length a.pc) := cell_of_row _ _ 24 _ _ _ GB1.out
    clear h5 hu c24
    go_wp2_with (first
      | (refine wpList_buildTo rfl 28 _ rfl (some _) rfl D (by rw [← HD.out]; kernel_rfl) ?_)
      | (refine wpList_load_row rfl _ _ rfl W0.heap.size rfl 28 R (0, 0) _ G2.out Tryz.underlying28 rfl (by rw [HE1.out]; exact info_pk) ?_)
      | (refine wpList_store_row rfl _ _ _ rfl W0.heap.size D rfl rfl 28 _ GN.out (by rw [HD1.out]; exact info_pk) (by rw [HZ.out, HD1.out]) HD2.out ?_)
      | (refine wpList_store_row rfl _ _ _ rfl (w.heap.size + 1) R rfl rfl 28 _ GR2.out (by rw [HE1.out]; exact info_pk) (by rw [HZ.out, HE1.out]) HE2.out ?_))
    exact ret_row (cs := R) rfl rfl rfl Tryz.underlying28 rfl (by rw [HE1.out]; exact info_pk) (setRow_heap _ _ _ _ _ _ GR2.out) ⟨rfl, LF.out⟩
  · have e5 : (v == 5) = false := by simpa using h5
    have hu : D = R := by rw [← HR.out, ← HD.out]; simp [pkC, usedU, usedUA, h5, adZ]
    have LF := Lib.hid (belowRow L1.out (show w.heap.size ≤ w.heap.size + 1 by omega) D)
    subst hu
    clear h5
    go_wp2_with (first
      | (refine wpList_buildTo rfl 28 _ rfl (some _) rfl D (by rw [← HD.out]; kernel_rfl) ?_)
      | (refine wpList_load_row rfl _ _ rfl W0.heap.size rfl 28 D (0, 0) _ GN1.out Tryz.underlying28 rfl (by rw [HD1.out]; exact info_pk) ?_)
      | (refine wpList_store_row rfl _ _ _ rfl W0.heap.size D rfl rfl 28 _ GN.out (by rw [HD1.out]; exact info_pk) (by rw [HZ.out, HD1.out]) HD2.out ?_)
      | (refine wpList_store_row rfl _ _ _ rfl (w.heap.size + 1) D rfl rfl 28 _ GR1.out (by rw [HD1.out]; exact info_pk) (by rw [HZ.out, HD1.out]) HD2.out ?_))
    exact ret_row (cs := D) rfl rfl rfl Tryz.underlying28 rfl (by rw [HD1.out]; exact info_pk) (setRow_heap _ _ _ _ _ _ GR1.out) ⟨rfl, LF.out⟩
theorem getP_range {l : List Pr} (h : ∀ x ∈ l, PrOk x) (id : Int) : (getP l id).1.n < 4294967296 := by
  induction l with
  | nil => rw [getP_nil]; decide
  | cons x l ih =>
    rw [getP_cons]
    split
    · exact (h x (by simp)).n
    · exact ih fun y hy => h y (by simp [hy])
set_option maxRecDepth 100000 in
set_option maxHeartbeats 1000000 in
theorem pub_alias (p : Pk) (a : Ad) (w : World) (hp : PkAt w p a) (sp : Short p) (ok : ∀ x ∈ p.props, PrOk x) : Calls Tryz.prog 24 #[.agg (pkC p a)] w fun e w' => e = .returned (.tuple #[.int .i64 (((getP p.props 35).1.n : Nat) : Int), .bool (hasP p.props 35)]) ∧ Below w.heap.size w w' := by
  have S0 := Lib.hid (BxS.made w p a)
  have GE := fun W (h : BxS w p a W) => get_list a.ps p.props.length a.pc p.props 35 W (hp.below h.low).ps rfl sp.2.2.1
  have hn := getP_range ok 35
  rw [getP_has] at GE
  generalize hasP p.props 35 = B at *
  generalize (getP p.props 35).1 = g at *
  obtain ⟨gi, n, gt, gv⟩ := g
  have hn : n < 4294967296 := hn
  have hn0 : (n : Int) < 4294967296 := by omega
  have c24 : (w.alloc (.cells (pkC p a) 28)).cell? ⟨w.heap.size, 24, none⟩ = some (.slice a.ps p.props.length a.pc) := S0.out.cell 24
  have GE := Lib.hid GE
  unfold propV at GE
  clear hp sp ok hn
  go_enter Tryz.func24, Tryz.ntmps24
  go_wp2_with fail
  refine (GE.out _ S0.out).mono ?_
  rintro e W ⟨rfl, hb⟩
  have L1 := below_then S0.out.low hb
  have LO := Lib.hid L1
  clear hb c24
  go_wp2_with fail
  go_ret2
  exact ⟨rfl, LO.out.alloc LO.out.size _⟩
end Go.Proofs.YtaahhbjnflimnaaGreat
