/-
  The walk of polyglotlaw05.PropNames: the chapter's examples, what is not valid. No condition.
-/
import Derived.Deep.LoopGhost
import Derived.Test.YtgdaojihpjfjiaaPropNmFacts
import Derived.Test.YtgdaojihpjfjiaaPropForm
import Derived.Test.YtgdaojihpjfjiaaPropSame
import Derived.Test.YtgdaojihpjfjiaaPropGet
namespace Go.Proofs.Ytgdaojihpjfjiaa
open Go.RowKit

/-- Valid at a list that has just been made. -/
theorem valid_new (kind : Int) (l : List Pr) (cs : Array Value) (n V : Nat) (k0 : -9223372036854775808 ≤ kind) (k1 : kind ≤ 9223372036854775807) (hc : cs = (pcs l).toArray) (hn : l.length = n) (hv : validP kind l = V) (ok : ∀ p ∈ l, PrOk p) (W : World) :
    Calls Try.prog 11 #[.int .i64 kind, .slice (some ⟨W.heap.size, 0, none⟩) n n] (W.alloc (.cells cs 25)) fun e w' => e = .returned (.int .i64 (V : Nat)) ∧ Below W.heap.size W w' := by
  have := valid_list kind (some ⟨W.heap.size, 0, none⟩) n n l (W.alloc (.cells cs 25)) k0 k1 (PL.made W l cs 25 hc) hn (Nat.le_refl _) ok
  rw [hv] at this
  exact this.mono fun e w' ⟨he, hb⟩ => ⟨he, ((Below.refl W.heap.size W).alloc (Nat.le_refl _) _).trans (hb.mono (by simp))⟩
theorem check_new (kind : Int) (p : Pr) (V : Nat) (k0 : -9223372036854775808 ≤ kind) (k1 : kind ≤ 9223372036854775807) (hv : checkP kind p = V) (ok : PrOk p) (W : World) :
    Calls Try.prog 10 #[.int .i64 kind, propV p] W fun e w' => e = .returned (.int .i64 (V : Nat)) ∧ Below W.heap.size W w' := by
  have := checkf_any kind p W k0 k1 ok
  rwa [hv] at this
/-- A literal's fields are what their types hold. -/
def litB (p : Pr) : Bool := decide (-9223372036854775808 ≤ p.id) && decide (p.id ≤ 9223372036854775807) && decide (p.n < 4294967296) && decide (p.text.length ≤ 65535) && decide (p.value.length ≤ 65535)
theorem lit_ok {p : Pr} (h : litB p = true) : PrOk p := by
  unfold litB at h
  simp only [Bool.and_eq_true, decide_eq_true_eq] at h
  exact ⟨h.1.1.1.1, h.1.1.1.2, h.1.1.2, by omega, by omega⟩
theorem lits_ok {l : List Pr} (h : l.all litB = true) : ∀ p ∈ l, PrOk p := fun p hp => lit_ok (List.all_eq_true.1 h p hp)
theorem read_at (kind : Int) (s : ByteArray) (L : List Pr) (n k F : Nat) (hk0 : -9223372036854775808 ≤ kind) (hk1 : kind ≤ 9223372036854775807) (hm : s.size ≤ 100) (hn : L.length = n) (hq : readP kind s.data.toList = (L, k, F)) (W : World) :
    Calls Try.prog 12 #[.int .i64 kind, .string s] W fun e W' => Below W.heap.size W W' ∧ ∃ A c, e = .returned (.tuple #[.slice A n c, .int .i64 (k : Nat), .int .i64 (F : Nat)]) ∧ PL W' A L := by
  subst hn
  exact (prop_read_form kind s L k F hk0 hk1 (by omega) hq W).mono fun e W' ⟨hb, A, c, he, _, hP, _⟩ => ⟨hb, A, c, he, hP⟩
theorem shape_at (id : Int) (V : Nat) (h0 : -9223372036854775808 ≤ id) (h1 : id ≤ 9223372036854775807) (h : shapeP id = V) (W : World) :
    Calls Try.prog 15 #[.int .i64 id] W fun e w' => e = .returned (.int .i64 (V : Nat)) ∧ Below W.heap.size W w' := by
  have := shape_any id W h0 h1
  rwa [h] at this
theorem may_at (kind id : Int) (b : Bool) (h0 : -9223372036854775808 ≤ id) (h1 : id ≤ 9223372036854775807) (h2 : -9223372036854775808 ≤ kind) (h3 : kind ≤ 9223372036854775807) (h : mayP kind id = b) (W : World) :
    Calls Try.prog 16 #[.int .i64 kind, .int .i64 id] W fun e w' => e = .returned (.bool b) ∧ Below W.heap.size W w' := by
  have := mayf_any kind id W h0 h1 h2 h3
  rwa [h] at this
theorem many_at (kind id : Int) (b : Bool) (h0 : -9223372036854775808 ≤ id) (h1 : id ≤ 9223372036854775807) (h2 : -9223372036854775808 ≤ kind) (h3 : kind ≤ 9223372036854775807) (h : manyP kind id = b) (W : World) :
    Calls Try.prog 17 #[.int .i64 kind, .int .i64 id] W fun e w' => e = .returned (.bool b) ∧ Below W.heap.size W w' := by
  have := many_any kind id W h0 h1 h2 h3
  rwa [h] at this
def UnderSix (k : Nat) : Prop := k < 6
theorem get_user (A : Option Addr) (c : Nat) (W : World) (h : PL W A [userP]) :
    Calls Try.prog 13 #[.slice A 1 c, .int .i64 38] W fun e w' => e = .returned (.tuple #[.agg #[.int .i64 38, .int .u32 0, .string ⟨#[97]⟩, .string ⟨#[98]⟩], .bool true]) ∧ Below W.heap.size W w' :=
  get_list A 1 c [userP] 38 W h rfl (by decide)
set_option maxHeartbeats 4000000 in
set_option maxRecDepth 100000 in
theorem names_walk (w : World) : Calls Try.prog 3 #[] w fun e w' => e = .returned (.bool true) ∧ Below w.heap.size w w' := by
  go_enter Try.func3, Try.ntmps3
  go_wp2_with fail
  refine (lives_prop w).mono ?_
  rintro e w1 ⟨rfl, hb⟩
  have H1 := Lib.hid hb
  clear hb
  go_wp2_with fail
  have OP0 : PL ((w1.alloc (.cells #[.int .i64 38, .int .u32 0, .string ⟨#[97]⟩, .string ⟨#[98]⟩] 25)).alloc (.cells #[.int .i64 4, .int .u32 0, .string ⟨#[]⟩, .string ⟨#[]⟩, .int .i64 17, .int .u32 0, .string ⟨#[]⟩, .string ⟨#[]⟩, .int .i64 1, .int .u32 2, .string ⟨#[]⟩, .string ⟨#[]⟩, .int .i64 35, .int .u32 0, .string ⟨#[]⟩, .string ⟨#[]⟩, .int .i64 11, .int .u32 0, .string ⟨#[]⟩, .string ⟨#[]⟩, .int .i64 8, .int .u32 0, .string ⟨#[97, 47, 35]⟩, .string ⟨#[]⟩] 25)) (some ⟨w1.heap.size + 1, 0, none⟩) oddP := by
    have := PL.made (w1.alloc (.cells #[.int .i64 38, .int .u32 0, .string ⟨#[97]⟩, .string ⟨#[98]⟩] 25)) oddP #[.int .i64 4, .int .u32 0, .string ⟨#[]⟩, .string ⟨#[]⟩, .int .i64 17, .int .u32 0, .string ⟨#[]⟩, .string ⟨#[]⟩, .int .i64 1, .int .u32 2, .string ⟨#[]⟩, .string ⟨#[]⟩, .int .i64 35, .int .u32 0, .string ⟨#[]⟩, .string ⟨#[]⟩, .int .i64 11, .int .u32 0, .string ⟨#[]⟩, .string ⟨#[]⟩, .int .i64 8, .int .u32 0, .string ⟨#[97, 47, 35]⟩, .string ⟨#[]⟩] 25 rfl
    rwa [World.size_alloc] at this
  have UH0 : ((w1.alloc (.cells #[.int .i64 38, .int .u32 0, .string ⟨#[97]⟩, .string ⟨#[98]⟩] 25)).alloc (.cells #[.int .i64 4, .int .u32 0, .string ⟨#[]⟩, .string ⟨#[]⟩, .int .i64 17, .int .u32 0, .string ⟨#[]⟩, .string ⟨#[]⟩, .int .i64 1, .int .u32 2, .string ⟨#[]⟩, .string ⟨#[]⟩, .int .i64 35, .int .u32 0, .string ⟨#[]⟩, .string ⟨#[]⟩, .int .i64 11, .int .u32 0, .string ⟨#[]⟩, .string ⟨#[]⟩, .int .i64 8, .int .u32 0, .string ⟨#[97, 47, 35]⟩, .string ⟨#[]⟩] 25)).heap[w1.heap.size]? = some (.cells #[.int .i64 38, .int .u32 0, .string ⟨#[97]⟩, .string ⟨#[98]⟩] 25 (0, 0)) :=
    (heap_alloc_old _ _ (by simp)).trans (heap_alloc_new w1 _)
  have LO0 : Below w.heap.size w ((w1.alloc (.cells #[.int .i64 38, .int .u32 0, .string ⟨#[97]⟩, .string ⟨#[98]⟩] 25)).alloc (.cells #[.int .i64 4, .int .u32 0, .string ⟨#[]⟩, .string ⟨#[]⟩, .int .i64 17, .int .u32 0, .string ⟨#[]⟩, .string ⟨#[]⟩, .int .i64 1, .int .u32 2, .string ⟨#[]⟩, .string ⟨#[]⟩, .int .i64 35, .int .u32 0, .string ⟨#[]⟩, .string ⟨#[]⟩, .int .i64 11, .int .u32 0, .string ⟨#[]⟩, .string ⟨#[]⟩, .int .i64 8, .int .u32 0, .string ⟨#[97, 47, 35]⟩, .string ⟨#[]⟩] 25)) := (H1.out.alloc H1.out.size _).alloc (by rw [World.size_alloc]; have := H1.out.size; omega) _
  have OP := Lib.hid OP0
  have UH := Lib.hid UH0
  have LO := Lib.hid LO0
  clear OP0 UH0 LO0 H1
  generalize (w1.alloc (.cells #[.int .i64 38, .int .u32 0, .string ⟨#[97]⟩, .string ⟨#[98]⟩] 25)).alloc (.cells #[.int .i64 4, .int .u32 0, .string ⟨#[]⟩, .string ⟨#[]⟩, .int .i64 17, .int .u32 0, .string ⟨#[]⟩, .string ⟨#[]⟩, .int .i64 1, .int .u32 2, .string ⟨#[]⟩, .string ⟨#[]⟩, .int .i64 35, .int .u32 0, .string ⟨#[]⟩, .string ⟨#[]⟩, .int .i64 11, .int .u32 0, .string ⟨#[]⟩, .string ⟨#[]⟩, .int .i64 8, .int .u32 0, .string ⟨#[97, 47, 35]⟩, .string ⟨#[]⟩] 25) = w2 at *
  generalize w1.heap.size = u at *
  have UL := Lib.hid (fun W (hb : Below w2.heap.size w2 W) => (hb.block u (lt_of_block UH.out)).trans UH.out)
  go_loopg [3] 6 (fun gk v wx => ∃ k : Nat, k ≤ 6 ∧ gk = 6 - k ∧ v = .int .i64 (k : Int) ∧ Below w2.heap.size w2 wx)
  case atStart => exact ⟨0, by decide, rfl, rfl, Below.refl _ _⟩
  case round =>
    obtain ⟨k, hk, rfl, rfl, hB⟩ := hrel
    have HB := Lib.hid hB
    by_cases hlt : k < 6
    · obtain ⟨p, hp⟩ : ∃ p, oddP[k]? = some p := ⟨_, List.getElem?_eq_getElem (show k < oddP.length from hlt)⟩
      obtain ⟨g, i, e', _, c0, c1, c2, c3⟩ := (OP.out.kept hB.size (fun g i e h => hB.block g h)).at hp
      cases e'
      rw [Nat.zero_add] at c0 c1 c2 c3
      have CK := Lib.hid (fun W => check_new 3 p 9 (by decide) (by decide) (c_odd p (List.mem_of_getElem? hp)) (lits_ok (l := oddP) (by decide) p (List.mem_of_getElem? hp)) W)
      have q1 : (k : Int) < 6 := by omega
      have q2 : (0 : Int) ≤ (k : Int) := by omega
      have HK : UnderSix k := hlt
      clear hB hp hk hlt
      unfold propV at CK
      go_wp2_with fail
      refine (CK.out _).mono ?_
      rintro e w3 ⟨rfl, hb⟩
      have HB := Lib.hid (HB.out.trans (hb.mono HB.out.size))
      clear hb c0 c1 c2 c3 CK
      go_wp2_with fail
      go_roundg (6 - (k + 1))
      case measure => unfold UnderSix at HK; omega
      case rel => have hk6 : k < 6 := HK; exact ⟨k + 1, hk6, rfl, by go_num, HB.out⟩
    · obtain rfl : k = 6 := by omega
      clear hB hk hlt
      go_wp2_with fail
      refine (valid_new 3 [⟨35, 1, [], []⟩, ⟨35, 1, [], []⟩] #[.int .i64 35, .int .u32 1, .string ⟨#[]⟩, .string ⟨#[]⟩, .int .i64 35, .int .u32 1, .string ⟨#[]⟩, .string ⟨#[]⟩] 2 9 (by decide) (by decide) rfl rfl v_twice (lits_ok (by decide)) _).mono ?_
      rintro e w3 ⟨rfl, hb⟩
      have HB := Lib.hid (HB.out.trans (hb.mono HB.out.size))
      clear hb
      have U0 := UL.out _ HB.out
      have c0 := cell_of_row _ u 0 _ _ _ U0
      have c1 := cell_of_row _ u 1 _ _ _ U0
      have c2 := cell_of_row _ u 2 _ _ _ U0
      have c3 := cell_of_row _ u 3 _ _ _ U0
      clear U0
      go_wp2_with fail
      refine (valid_new 3 [⟨38, 0, [97], [98]⟩, ⟨38, 0, [97], [98]⟩, ⟨11, 1, [], []⟩, ⟨11, 2, [], []⟩] #[.int .i64 38, .int .u32 0, .string ⟨#[97]⟩, .string ⟨#[98]⟩, .int .i64 38, .int .u32 0, .string ⟨#[97]⟩, .string ⟨#[98]⟩, .int .i64 11, .int .u32 1, .string ⟨#[]⟩, .string ⟨#[]⟩, .int .i64 11, .int .u32 2, .string ⟨#[]⟩, .string ⟨#[]⟩] 4 0 (by decide) (by decide) rfl rfl v_often (lits_ok (by decide)) _).mono ?_
      rintro e w4 ⟨rfl, hb⟩
      have HB := Lib.hid (HB.out.trans (hb.mono HB.out.size))
      clear hb
      clear c0 c1 c2 c3
      go_wp2_with fail
      refine (valid_new 8 [⟨11, 1, [], []⟩, ⟨11, 2, [], []⟩] #[.int .i64 11, .int .u32 1, .string ⟨#[]⟩, .string ⟨#[]⟩, .int .i64 11, .int .u32 2, .string ⟨#[]⟩, .string ⟨#[]⟩] 2 9 (by decide) (by decide) rfl rfl v_subs (lits_ok (by decide)) _).mono ?_
      rintro e w5 ⟨rfl, hb⟩
      have HB := Lib.hid (HB.out.trans (hb.mono HB.out.size))
      clear hb
      go_wp2_with fail
      refine (valid_new 15 [⟨22, 0, [120], []⟩] #[.int .i64 22, .int .u32 0, .string ⟨#[120]⟩, .string ⟨#[]⟩] 1 9 (by decide) (by decide) rfl rfl v_lone (lits_ok (by decide)) _).mono ?_
      rintro e w6 ⟨rfl, hb⟩
      have HB := Lib.hid (HB.out.trans (hb.mono HB.out.size))
      clear hb
      go_wp2_with fail
      refine (valid_new 15 [⟨22, 0, [120], []⟩, ⟨21, 0, [109], []⟩] #[.int .i64 22, .int .u32 0, .string ⟨#[120]⟩, .string ⟨#[]⟩, .int .i64 21, .int .u32 0, .string ⟨#[109]⟩, .string ⟨#[]⟩] 2 0 (by decide) (by decide) rfl rfl v_both (lits_ok (by decide)) _).mono ?_
      rintro e w7 ⟨rfl, hb⟩
      have HB := Lib.hid (HB.out.trans (hb.mono HB.out.size))
      clear hb
      go_wp2_with fail
      refine (check_new 3 ⟨1, 0, [120], []⟩ 2 (by decide) (by decide) c_unused (lit_ok (by decide)) _).mono ?_
      rintro e w8 ⟨rfl, hb⟩
      have HB := Lib.hid (HB.out.trans (hb.mono HB.out.size))
      clear hb
      go_wp2_with fail
      refine (check_new 3 ⟨3, 0, [255], []⟩ 6 (by decide) (by decide) c_bad (lit_ok (by decide)) _).mono ?_
      rintro e w9 ⟨rfl, hb⟩
      have HB := Lib.hid (HB.out.trans (hb.mono HB.out.size))
      clear hb
      go_wp2_with fail
      refine (read_at 3 ⟨#[7, 38, 0, 1, 97, 0, 1, 98, 122, 122]⟩ [userP] 1 8 0 (by decide) (by decide) (by decide) rfl r_user _).mono ?_
      rintro e wr1 ⟨hb, A1, s1, rfl, hP⟩
      have HB := Lib.hid (HB.out.trans (hb.mono HB.out.size))
      have P1 := Lib.hid hP
      have HC := Lib.hid (Below.refl wr1.heap.size wr1)
      clear hP
      clear hb
      go_wp2_with fail
      refine (read_at 3 ⟨#[3, 1, 1]⟩ [] 0 0 3 (by decide) (by decide) (by decide) rfl r_short _).mono ?_
      rintro e wr2 ⟨hb, A2, s2, rfl, hP⟩
      have HB := Lib.hid (HB.out.trans (hb.mono HB.out.size))
      have HC := Lib.hid (HC.out.trans (hb.mono HC.out.size))
      clear hP
      clear hb
      go_wp2_with fail
      refine (read_at 3 ⟨#[1, 1]⟩ [] 0 0 5 (by decide) (by decide) (by decide) rfl r_cut _).mono ?_
      rintro e wr3 ⟨hb, A3, s3, rfl, hP⟩
      have HB := Lib.hid (HB.out.trans (hb.mono HB.out.size))
      have HC := Lib.hid (HC.out.trans (hb.mono HC.out.size))
      clear hP
      clear hb
      go_wp2_with fail
      refine (read_at 3 ⟨#[2, 17, 0]⟩ [] 0 0 9 (by decide) (by decide) (by decide) rfl r_none _).mono ?_
      rintro e wr4 ⟨hb, A4, s4, rfl, hP⟩
      have HB := Lib.hid (HB.out.trans (hb.mono HB.out.size))
      have HC := Lib.hid (HC.out.trans (hb.mono HC.out.size))
      clear hP
      clear hb
      go_wp2_with fail
      refine (read_at 3 ⟨#[4, 3, 0, 1, 255]⟩ [] 0 0 6 (by decide) (by decide) (by decide) rfl r_text _).mono ?_
      rintro e wr5 ⟨hb, A5, s5, rfl, hP⟩
      have HB := Lib.hid (HB.out.trans (hb.mono HB.out.size))
      have HC := Lib.hid (HC.out.trans (hb.mono HC.out.size))
      clear hP
      clear hb
      go_wp2_with fail
      refine (read_at 4 ⟨#[0, 122]⟩ [] 0 1 0 (by decide) (by decide) (by decide) rfl r_empty _).mono ?_
      rintro e wr6 ⟨hb, A6, s6, rfl, hP⟩
      have HB := Lib.hid (HB.out.trans (hb.mono HB.out.size))
      have HC := Lib.hid (HC.out.trans (hb.mono HC.out.size))
      clear hP
      clear hb
      go_wp2_with fail
      refine (get_user A1 s1 _ (P1.out.kept HC.out.size (fun g i e h => HC.out.block g h))).mono ?_
      rintro e wg ⟨rfl, hb⟩
      have HB := Lib.hid (HB.out.trans (hb.mono HB.out.size))
      have HC := Lib.hid (HC.out.trans (hb.mono HC.out.size))
      clear hb
      have U0 : ∀ o, (wg.alloc o).heap[u]? = some (.cells #[.int .i64 38, .int .u32 0, .string ⟨#[97]⟩, .string ⟨#[98]⟩] 25 (0, 0)) := fun o => UL.out _ (HB.out.alloc HB.out.size o)
      have c0 : ∀ o, (wg.alloc o).cell? ⟨u, 0, none⟩ = some (.int .i64 38) := fun o => cell_of_row _ u 0 _ _ _ (U0 o)
      have c1 : ∀ o, (wg.alloc o).cell? ⟨u, 1, none⟩ = some (.int .u32 0) := fun o => cell_of_row _ u 1 _ _ _ (U0 o)
      have c2 : ∀ o, (wg.alloc o).cell? ⟨u, 2, none⟩ = some (.string ⟨#[97]⟩) := fun o => cell_of_row _ u 2 _ _ _ (U0 o)
      have c3 : ∀ o, (wg.alloc o).cell? ⟨u, 3, none⟩ = some (.string ⟨#[98]⟩) := fun o => cell_of_row _ u 3 _ _ _ (U0 o)
      clear U0
      go_wp2_with fail
      have P8 := PL.made (wg.alloc (.cells #[.int .i64 38, .int .u32 0, .string ⟨#[97]⟩, .string ⟨#[98]⟩] 25)) [userP] #[.int .i64 38, .int .u32 0, .string ⟨#[97]⟩, .string ⟨#[98]⟩] 25 rfl
      rw [World.size_alloc] at P8
      have B8 : Below w2.heap.size w2 ((wg.alloc (.cells #[.int .i64 38, .int .u32 0, .string ⟨#[97]⟩, .string ⟨#[98]⟩] 25)).alloc (.cells #[.int .i64 38, .int .u32 0, .string ⟨#[97]⟩, .string ⟨#[98]⟩] 25)) := (HB.out.alloc HB.out.size _).alloc (by rw [World.size_alloc]; have := HB.out.size; omega) _
      have C8 : Below wr1.heap.size wr1 ((wg.alloc (.cells #[.int .i64 38, .int .u32 0, .string ⟨#[97]⟩, .string ⟨#[98]⟩] 25)).alloc (.cells #[.int .i64 38, .int .u32 0, .string ⟨#[97]⟩, .string ⟨#[98]⟩] 25)) := (HC.out.alloc HC.out.size _).alloc (by rw [World.size_alloc]; have := HC.out.size; omega) _
      have V8 : ((wg.alloc (.cells #[.int .i64 38, .int .u32 0, .string ⟨#[97]⟩, .string ⟨#[98]⟩] 25)).alloc (.cells #[.int .i64 38, .int .u32 0, .string ⟨#[97]⟩, .string ⟨#[98]⟩] 25)).heap[wg.heap.size]? = some (.cells #[.int .i64 38, .int .u32 0, .string ⟨#[97]⟩, .string ⟨#[98]⟩] 25 (0, 0)) := (heap_alloc_old _ _ (by simp)).trans (heap_alloc_new wg _)
      have P8 := Lib.hid P8
      have HB := Lib.hid B8
      have HC := Lib.hid C8
      have V8 := Lib.hid V8
      clear c0 c1 c2 c3 B8 C8
      generalize (wg.alloc (.cells #[.int .i64 38, .int .u32 0, .string ⟨#[97]⟩, .string ⟨#[98]⟩] 25)).alloc (.cells #[.int .i64 38, .int .u32 0, .string ⟨#[97]⟩, .string ⟨#[98]⟩] 25) = w8 at *
      generalize wg.heap.size = g8 at *
      have U0 := UL.out _ HB.out
      have c0 := cell_of_row _ u 0 _ _ _ U0
      have c1 := cell_of_row _ u 1 _ _ _ U0
      have c2 := cell_of_row _ u 2 _ _ _ U0
      have c3 := cell_of_row _ u 3 _ _ _ U0
      have d0 := cell_of_row _ g8 0 _ _ _ V8.out
      have d1 := cell_of_row _ g8 1 _ _ _ V8.out
      have d2 := cell_of_row _ g8 2 _ _ _ V8.out
      have d3 := cell_of_row _ g8 3 _ _ _ V8.out
      clear U0
      refine (ksame_props A1 (some ⟨g8 + 1, 0, none⟩) 1 s1 1 [userP] w8 (P1.out.kept HC.out.size (fun g i e h => HC.out.block g h)) P8.out rfl (by decide)).mono ?_
      rintro e w9' ⟨rfl, m, rfl⟩
      have HB := Lib.hid (below_draws HB.out m)
      go_wp2_with fail
      clear c0 c1 c2 c3 d0 d1 d2 d3
      refine (shape_at 38 7 (by decide) (by decide) (by decide) _).mono ?_
      rintro e wq ⟨rfl, hb⟩
      have HB := Lib.hid (HB.out.trans (hb.mono HB.out.size))
      clear hb
      go_wp2_with fail
      refine (shape_at 4 0 (by decide) (by decide) (by decide) _).mono ?_
      rintro e wq ⟨rfl, hb⟩
      have HB := Lib.hid (HB.out.trans (hb.mono HB.out.size))
      clear hb
      go_wp2_with fail
      refine (may_at 16 24 true (by decide) (by decide) (by decide) (by decide) (by decide) _).mono ?_
      rintro e wq ⟨rfl, hb⟩
      have HB := Lib.hid (HB.out.trans (hb.mono HB.out.size))
      clear hb
      go_wp2_with fail
      refine (may_at 3 24 false (by decide) (by decide) (by decide) (by decide) (by decide) _).mono ?_
      rintro e wq ⟨rfl, hb⟩
      have HB := Lib.hid (HB.out.trans (hb.mono HB.out.size))
      clear hb
      go_wp2_with fail
      refine (many_at 3 11 true (by decide) (by decide) (by decide) (by decide) (by decide) _).mono ?_
      rintro e wq ⟨rfl, hb⟩
      have HB := Lib.hid (HB.out.trans (hb.mono HB.out.size))
      clear hb
      go_wp2_with fail
      refine (many_at 8 11 false (by decide) (by decide) (by decide) (by decide) (by decide) _).mono ?_
      rintro e wq ⟨rfl, hb⟩
      have HB := Lib.hid (HB.out.trans (hb.mono HB.out.size))
      clear hb
      go_wp2_with fail
      go_ret
      exact ⟨rfl, LO.out.trans (HB.out.mono LO.out.size)⟩
end Go.Proofs.Ytgdaojihpjfjiaa
