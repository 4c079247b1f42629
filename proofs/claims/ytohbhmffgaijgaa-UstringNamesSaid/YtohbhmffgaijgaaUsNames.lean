/-
  The given statement UstringNames: the law returns true. No condition.
-/
import Derived.Test.YtohbhmffgaijgaaUsTimes
import Derived.Test.YtohbhmffgaijgaaUsSame
import Derived.Test.YtohbhmffgaijgaaLawKit
namespace Go.Proofs.Ytohbhmffgaijgaa
open Go.ChangeShapes Go.WideShapes Go.ChangeAt Go.RowKit

abbrev N3 (f : FuncId) (s : ByteArray) (v : Value) : Prop := RowKit.Hid (∀ W, Calls Try.prog f #[.string s] W fun e w' => e = .returned v ∧ Below W.heap.size W w')
/-- The strings that are not valid. -/
def odds : List (List UInt8) := [[0], [97, 0], [237, 160, 128], [244, 144, 128, 128], [224, 128, 128], [195], [128], [255], [97, 98, 226, 130]]
theorem odd_bad : ∀ k, k < 9 → validOf (odds.getD k []) = false ∧ (odds.getD k []).length ≤ 10 := by
  intro k hk
  match k, hk with
  | 0, _ => exact ⟨valid_stop (cs := []) (r := [0]) (oks_of _ (by decide)) (by decide) (by decide), by decide⟩
  | 1, _ => exact ⟨valid_stop (cs := [97]) (r := [0]) (oks_of _ (by decide)) (by decide) (by decide), by decide⟩
  | 2, _ => exact ⟨valid_stop (cs := []) (r := [237, 160, 128]) (oks_of _ (by decide)) (by decide) (by decide), by decide⟩
  | 3, _ => exact ⟨valid_stop (cs := []) (r := [244, 144, 128, 128]) (oks_of _ (by decide)) (by decide) (by decide), by decide⟩
  | 4, _ => exact ⟨valid_stop (cs := []) (r := [224, 128, 128]) (oks_of _ (by decide)) (by decide) (by decide), by decide⟩
  | 5, _ => exact ⟨valid_stop (cs := []) (r := [195]) (oks_of _ (by decide)) (by decide) (by decide), by decide⟩
  | 6, _ => exact ⟨valid_stop (cs := []) (r := [128]) (oks_of _ (by decide)) (by decide) (by decide), by decide⟩
  | 7, _ => exact ⟨valid_stop (cs := []) (r := [255]) (oks_of _ (by decide)) (by decide) (by decide), by decide⟩
  | 8, _ => exact ⟨valid_stop (cs := [97, 98]) (r := [226, 130]) (oks_of _ (by decide)) (by decide) (by decide), by decide⟩
  | k + 9, h => omega
theorem odd_valid (k : Nat) (hk : k < 9) : N3 9 (bs (odds.getD k [])) (.bool false) :=
  valid_is (bs (odds.getD k [])) false (by rw [size_list]; show (odds.getD k []).length ≤ _; have := (odd_bad k hk).2; omega) (odd_bad k hk).1
theorem odd_count (k : Nat) (hk : k < 9) : N3 10 (bs (odds.getD k [])) (.int .i64 0) :=
  Lib.hid fun W => count_no (bs (odds.getD k [])) W (by rw [size_list]; show (odds.getD k []).length ≤ _; have := (odd_bad k hk).2; omega) (odd_bad k hk).1

/-- A text of 65,536 bytes. -/
structure Long (A : ByteArray) : Prop where
  text : N3 12 A (.tuple #[.string ⟨#[]⟩, .int .i64 6])
  binary : N3 13 A (.tuple #[.string ⟨#[]⟩, .int .i64 2])
  less : ∃ B, N3 13 (A.extract 1 A.size) (.tuple #[.string B, .int .i64 0])
  bad : N3 17 A (.int .i64 (-1))
  valid : N3 9 A (.bool false)
  size : A.size = 65536
theorem long_is : Long (bs (aas 65536)) := by
  have hsz := aas_size 65536
  have hv : validOf (aas 65536) = false := by
    unfold validOf
    have e : (aas 65536).length = 65536 := List.length_replicate ..
    rw [e, show decide ((65536 : Nat) ≤ 65535) = false from by decide]
    rfl
  have hb : badOf (aas 65536) = -1 := by rw [aas_cbs]; exact bad_cbs (aas_oks _)
  refine ⟨Lib.hid fun W => text_no _ W (by rw [hsz]; decide) hv, Lib.hid fun W => (binary_no _ W (by rw [hsz]; decide)).mono fun _ _ ⟨he, hw⟩ => ⟨he, hw ▸ Below.refl _ _⟩, ⟨_, Lib.hid fun W => binary_yes _ W (by rw [ByteArray.size_extract, hsz]; decide)⟩, bad_is _ _ (by rw [hsz]; decide) hb, valid_is _ _ (by rw [hsz]; decide) hv, hsz⟩
theorem read_small (l : List UInt8) (r : List UInt8 × Nat × Nat) (hl : l.length ≤ 100) (h : rdT l = r) : N3 14 (bs l) (ok3 r) :=
  Lib.hid fun W => by have := read_any (bs l) W (by rw [size_list]; show l.length ≤ _; omega); rw [show (bs l).data.toList = l from rfl, h] at this; exact this
theorem readbin_small (l : List UInt8) (r : List UInt8 × Nat × Nat) (hl : l.length ≤ 100) (h : rdB l = r) : N3 15 (bs l) (ok3 r) :=
  Lib.hid fun W => by have := readbin_any (bs l) W (by rw [size_list]; show l.length ≤ _; omega); rw [show (bs l).data.toList = l from rfl, h] at this; exact this
theorem rdT_bad {l d : List UInt8} {z : Nat} (h : rdB l = (d, z, 0)) (hv : validOf d = false) : rdT l = ([], 0, 6) := by
  unfold rdT; rw [h, if_neg (by simp), if_neg (by simp [hv])]
theorem rdT_good {l d : List UInt8} {z : Nat} (h : rdB l = (d, z, 0)) (hv : validOf d = true) : rdT l = (d, z, 0) := by
  unfold rdT; rw [h, if_neg (by simp), if_pos hv]
theorem rdT_short {l : List UInt8} (h : rdB l = ([], 0, 3)) : rdT l = ([], 0, 3) := by
  unfold rdT; rw [h, if_pos (by simp)]
theorem three_pts : pts [97, 226, 130, 172, 240, 159, 152, 128] = [97, 8364, 128512] := pts_cbs (cs := [97, 8364, 128512]) (oks_of _ (by decide))

set_option maxRecDepth 100000 in
set_option maxHeartbeats 8000000 in
theorem names_walk (w : World) :
    Calls Try.prog 3 #[] w fun e w' => e = .returned (.bool true) ∧ Below w.heap.size w w' := by
  have LG := long_is
  obtain ⟨LA, hLA⟩ : ∃ LA, bs (aas 65536) = LA := ⟨_, rfl⟩
  have TM := Lib.hid (show ∀ W, Calls Try.prog 11 #[.string ⟨#[97]⟩, .int .i64 65536] W fun e w' => e = .returned (.string LA) ∧ W = w' from fun W => by rw [← hLA]; exact times_65536 W)
  rw [hLA] at LG
  have hA1 : (1 : Int) ≤ (LA.size : Int) := by rw [LG.size]; decide
  have L1 := LG.text
  have L2 := LG.binary
  obtain ⟨LB, L3⟩ := LG.less
  have L4 := LG.bad
  have L5 := LG.valid
  clear LG hLA
  have R1 : N3 14 ⟨#[0]⟩ (.tuple #[.string ⟨#[]⟩, .int .i64 0, .int .i64 3]) := read_small [0] _ (by decide) (rdT_short (by decide))
  have R2 : N3 14 ⟨#[0, 2, 97]⟩ (.tuple #[.string ⟨#[]⟩, .int .i64 0, .int .i64 3]) := read_small [0, 2, 97] _ (by decide) (rdT_short (by decide))
  have R3 : N3 14 ⟨#[0, 2, 192, 128, 122]⟩ (.tuple #[.string ⟨#[]⟩, .int .i64 0, .int .i64 6]) := read_small [0, 2, 192, 128, 122] _ (by decide) (rdT_bad (d := [192, 128]) (z := 4) (by decide) (valid_stop (cs := []) (r := [192, 128]) (oks_of _ (by decide)) (by decide) (by decide)))
  have R4 : N3 14 ⟨#[0, 3, 226, 130, 172, 122]⟩ (.tuple #[.string ⟨#[226, 130, 172]⟩, .int .i64 5, .int .i64 0]) := read_small [0, 3, 226, 130, 172, 122] _ (by decide) (rdT_good (d := [226, 130, 172]) (z := 5) (by decide) (valid_cbs (cs := [8364]) (oks_of _ (by decide)) (by decide)))
  have R5 : N3 15 ⟨#[0, 2, 192, 128, 122]⟩ (.tuple #[.string ⟨#[192, 128]⟩, .int .i64 4, .int .i64 0]) := readbin_small [0, 2, 192, 128, 122] ([192, 128], 4, 0) (by decide) (by decide)
  have B1 : N3 17 ⟨#[97, 98, 255]⟩ (.int .i64 2) := bad_is (bs [97, 98, 255]) 2 (by decide) (bad_stop (cs := [97, 98]) (r := [255]) (oks_of _ (by decide)) (by decide) (by decide))
  have C1 : N3 10 ⟨#[97, 226, 130, 172]⟩ (.int .i64 2) := count_is (bs [97, 226, 130, 172]) 2 (by decide) (valid_cbs (cs := [97, 8364]) (oks_of _ (by decide)) (by decide)) (by rw [show (bs [97, 226, 130, 172]).data.toList = cbs [97, 8364] from rfl, pts_cbs (oks_of _ (by decide))]; rfl)
  have V1 : N3 9 ⟨#[]⟩ (.bool true) := valid_is (bs []) true (by decide) (valid_cbs (cs := []) (oks_of _ (by decide)) (by decide))
  have RW := Lib.hid (show ∀ W, Calls Try.prog 16 #[.string ⟨#[97, 226, 130, 172, 240, 159, 152, 128]⟩] W fun e W' => ∃ v, e = .returned (.tuple #[v, .bool true]) ∧ W'.ownsRow W.heap.size 37 2 v 3 (rcells (marks 0 [97, 8364, 128512])) ∧ Below W.heap.size W W' from fun W => by have h := runes_law (bs [97, 226, 130, 172, 240, 159, 152, 128]) W (by decide); rw [show (bs [97, 226, 130, 172, 240, 159, 152, 128]).data.toList = [97, 226, 130, 172, 240, 159, 152, 128] from rfl, three_pts] at h; exact h)
  go_enter Try.func3, Try.ntmps3
  go_wp2_with fail
  refine (lives3 _).mono ?_
  rintro e w1 ⟨rfl, q1⟩
  go_wp2_with fail
  have CE : ∀ j, j < 9 → (w1.alloc (.cells #[.string ⟨#[0]⟩, .string ⟨#[97, 0]⟩, .string ⟨#[237, 160, 128]⟩, .string ⟨#[244, 144, 128, 128]⟩, .string ⟨#[224, 128, 128]⟩, .string ⟨#[195]⟩, .string ⟨#[128]⟩, .string ⟨#[255]⟩, .string ⟨#[97, 98, 226, 130]⟩] 9)).cell? ⟨w1.heap.size, j, none⟩ = some (.string (bs (odds.getD j []))) := by
    intro j hj
    refine (World.cell?_alloc_at _ _ _ _ rfl).trans ?_
    match j, hj with
    | 0, _ => rfl
    | 1, _ => rfl
    | 2, _ => rfl
    | 3, _ => rfl
    | 4, _ => rfl
    | 5, _ => rfl
    | 6, _ => rfl
    | 7, _ => rfl
    | 8, _ => rfl
    | j + 9, h => omega
  have q2 : Below w.heap.size w (w1.alloc (.cells #[.string ⟨#[0]⟩, .string ⟨#[97, 0]⟩, .string ⟨#[237, 160, 128]⟩, .string ⟨#[244, 144, 128, 128]⟩, .string ⟨#[224, 128, 128]⟩, .string ⟨#[195]⟩, .string ⟨#[128]⟩, .string ⟨#[255]⟩, .string ⟨#[97, 98, 226, 130]⟩] 9)) := q1.alloc q1.size _
  obtain ⟨g, hg⟩ : ∃ g, w1.heap.size = g := ⟨_, rfl⟩
  have hgl : g < (w1.alloc (.cells #[.string ⟨#[0]⟩, .string ⟨#[97, 0]⟩, .string ⟨#[237, 160, 128]⟩, .string ⟨#[244, 144, 128, 128]⟩, .string ⟨#[224, 128, 128]⟩, .string ⟨#[195]⟩, .string ⟨#[128]⟩, .string ⟨#[255]⟩, .string ⟨#[97, 98, 226, 130]⟩] 9)).heap.size := by simp; omega
  rw [hg] at CE ⊢
  obtain ⟨w2, hw2⟩ : ∃ w2, w1.alloc (.cells #[.string ⟨#[0]⟩, .string ⟨#[97, 0]⟩, .string ⟨#[237, 160, 128]⟩, .string ⟨#[244, 144, 128, 128]⟩, .string ⟨#[224, 128, 128]⟩, .string ⟨#[195]⟩, .string ⟨#[128]⟩, .string ⟨#[255]⟩, .string ⟨#[97, 98, 226, 130]⟩] 9) = w2 := ⟨_, rfl⟩
  rw [hw2] at CE q2 hgl ⊢
  have CE := Lib.hid CE
  have Q2 := Lib.hid q2
  have HGL := Lib.hid hgl
  clear hw2 hg q1 q2 hgl
  rename_i ce0
  clear ce0
  go_loopw [2] (fun i wr => ∃ k : Nat, k ≤ 9 ∧ i = .int .i64 (k : Int) ∧ Below w2.heap.size w2 wr) (fun i _ => 9 - (intOf i).toNat)
  case atStart => exact ⟨0, Nat.zero_le _, rfl, Below.refl _ _⟩
  case round =>
    obtain ⟨k, hk, rfl, hb⟩ := hrel
    by_cases hlt : k < 9
    · have VO := odd_valid k hlt
      have CO := odd_count k hlt
      have c0 := (hb.cell (p := ⟨g, k, none⟩) HGL.out).trans (CE.out k hlt)
      obtain ⟨ob, hob⟩ : ∃ ob, bs (odds.getD k []) = ob := ⟨_, rfl⟩
      rw [hob] at VO CO c0
      have CE1 := Lib.hid (show ∀ wx, Below w2.heap.size w2 wx → wx.cell? ⟨g, k, none⟩ = some (.string ob) from fun wx hx => by rw [← hob]; exact (hx.cell (p := ⟨g, k, none⟩) HGL.out).trans (CE.out k hlt))
      have g1 : (k : Int) < 9 := by omega
      have HK := Lib.hid hlt
      have HB := Lib.hid hb
      clear hob hlt hk hb
      go_wp2_with fail
      refine (VO.out _).mono ?_
      rintro e w3 ⟨rfl, q3⟩
      have HB3 := Lib.hid (below_then HB.out q3)
      have c1 := CE1.out w3 HB3.out
      go_wp2_with fail
      refine (CO.out _).mono ?_
      rintro e w4 ⟨rfl, q4⟩
      have HB4 := Lib.hid (below_then HB3.out q4)
      go_wp2_with fail
      go_roundw
      case rel => exact ⟨k + 1, HK.out, by go_num, HB4.out⟩
      case measure => have := HK.out; simp [intOf]; omega
    · obtain rfl : k = 9 := by omega
      have QW := Lib.hid (below_then Q2.out hb)
      clear hlt hk hb CE Q2 HGL
      go_wp2_with fail
      refine (TM.out _).mono ?_
      rintro e wa ⟨rfl, rfl⟩
      go_wp2_with fail
      refine (L1.out _).mono ?_
      rintro e w5 ⟨rfl, q5⟩
      have QX := Lib.hid (below_then QW.out q5)
      clear q5
      go_wp2_with fail
      refine (L2.out _).mono ?_
      rintro e w6 ⟨rfl, q6⟩
      have QX := Lib.hid (below_then QX.out q6)
      clear q6
      go_wp2_with fail
      refine (L3.out _).mono ?_
      rintro e w7 ⟨rfl, q7⟩
      have QX := Lib.hid (below_then QX.out q7)
      clear q7
      go_wp2_with fail
      refine (R1.out _).mono ?_
      rintro e w8 ⟨rfl, q8⟩
      have QX := Lib.hid (below_then QX.out q8)
      clear q8
      go_wp2_with fail
      refine (R2.out _).mono ?_
      rintro e w9 ⟨rfl, q9⟩
      have QX := Lib.hid (below_then QX.out q9)
      clear q9
      go_wp2_with fail
      refine (R3.out _).mono ?_
      rintro e w10 ⟨rfl, q10⟩
      have QX := Lib.hid (below_then QX.out q10)
      clear q10
      go_wp2_with fail
      refine (R4.out _).mono ?_
      rintro e w11 ⟨rfl, q11⟩
      have QX := Lib.hid (below_then QX.out q11)
      clear q11
      go_wp2_with fail
      refine (R5.out _).mono ?_
      rintro e w12 ⟨rfl, q12⟩
      have QX := Lib.hid (below_then QX.out q12)
      clear q12
      go_wp2_with fail
      refine (RW.out _).mono ?_
      rintro e wr2 ⟨v, rfl, hr, qr⟩
      obtain ⟨ga, ca, rfl, Ha⟩ := row_hold v [97, 8364, 128512] (by simp) QX.out qr hr
      have QX := Lib.hid (below_then QX.out qr)
      have Ha := Lib.hid Ha
      clear hr qr
      rename_i ha0
      clear ha0
      go_wp2_with fail
      refine (L4.out _).mono ?_
      rintro e w13 ⟨rfl, q13⟩
      have Ha := Lib.hid (Ha.out.and_then q13)
      clear q13
      go_wp2_with fail
      refine (L5.out _).mono ?_
      rintro e w14 ⟨rfl, q14⟩
      have Ha := Lib.hid (Ha.out.and_then q14)
      clear q14
      go_wp2_with fail
      refine (B1.out _).mono ?_
      rintro e w15 ⟨rfl, q15⟩
      have Ha := Lib.hid (Ha.out.and_then q15)
      clear q15
      go_wp2_with fail
      refine (C1.out _).mono ?_
      rintro e w16 ⟨rfl, q16⟩
      have Ha := Lib.hid (Ha.out.and_then q16)
      clear q16
      go_wp2_with fail
      refine (V1.out _).mono ?_
      rintro e w17 ⟨rfl, q17⟩
      have Ha := Lib.hid (Ha.out.and_then q17)
      clear q17
      go_wp2_with fail
      have HS2 : Hold w (w17.alloc (.cells #[.int .i64 0, .int .i32 97, .int .i64 1, .int .i32 8364, .int .i64 4, .int .i32 128512] 37)) ga [97, 8364, 128512] := Ha.out.and_then ((Below.refl _ _).alloc (Nat.le_refl _) _)
      have RB : RowAt (w17.alloc (.cells #[.int .i64 0, .int .i32 97, .int .i64 1, .int .i32 8364, .int .i64 4, .int .i32 128512] 37)) w17.heap.size [97, 8364, 128512] := by
        intro j hj
        match j, hj with
        | 0, _ => exact ⟨(World.cell?_alloc_at _ _ _ _ rfl).trans rfl, (World.cell?_alloc_at _ _ _ _ rfl).trans rfl⟩
        | 1, _ => exact ⟨(World.cell?_alloc_at _ _ _ _ rfl).trans rfl, (World.cell?_alloc_at _ _ _ _ rfl).trans rfl⟩
        | 2, _ => exact ⟨(World.cell?_alloc_at _ _ _ _ rfl).trans rfl, (World.cell?_alloc_at _ _ _ _ rfl).trans rfl⟩
        | j + 3, h => simp at h; omega
      have SM := Lib.hid (show Calls Try.prog 18 #[.slice (some ⟨ga, 0, none⟩) 3 ca, .slice (some ⟨w17.heap.size, 0, none⟩) 3 3] (w17.alloc (.cells #[.int .i64 0, .int .i32 97, .int .i64 1, .int .i32 8364, .int .i64 4, .int .i32 128512] 37)) fun e w' => e = .returned (.bool true) ∧ ∃ m, w' = World.drewN (w17.alloc (.cells #[.int .i64 0, .int .i32 97, .int .i64 1, .int .i32 8364, .int .i64 4, .int .i32 128512] 37)) m from same_some ga w17.heap.size ca 3 [97, 8364, 128512] _ HS2.2.1 RB (by decide))
      have HB2 := Lib.hid HS2.1
      clear RB HS2
      refine (SM.out).mono ?_
      rintro e wc ⟨rfl, m, rfl⟩
      go_wp2_with fail
      go_ret
      exact ⟨rfl, below_draws HB2.out m⟩

set_option maxRecDepth 100000 in
theorem names3_lifted (os : Os) (started : os.Started) (H : Type) (enc : TypeId × Value → H) :
    ReturnsInHanded {} Try.checked os 3 .any (Rows.ustringNamesSpec.pre6 enc Try.prog Try.f3 Rows.ustringNamesRow.domain false) (Rows.ustringNamesSpec.post enc Try.prog Try.f3 false true false false) := by
  refine returnsInHanded_of_change (C := Try.checked) own started (by kernel_rfl) Try.func3
    (ChangeSpec.witness6 (enc := enc) (C := Try.checked) false ⟨#[], #[], []⟩ 8 (by kernel_rfl) (by kernel_rfl) (by kernel_rfl) (by kernel_rfl)) ?_
  intro W base args ds gs before hval0 hW hcnd _
  have hW' := hW
  obtain ⟨p, q, hA0, hV, rfl, hfz, hnd⟩ := hW
  have hA : DataW.TrodAll enc Try.prog W 0 (fun _ => true) true Try.f3.params.toList args.toList ds p := hA0
  rw [Try.params3] at hA
  obtain ⟨hargs, rfl, rfl⟩ := trodAll_nil hA
  obtain rfl : args = #[] := by cases args; simp_all
  obtain ⟨rfl, rfl⟩ := trodVars_none hV
  refine (names_walk W).mono fun e W' ⟨he, hb⟩ => ?_
  subst he
  exact ⟨_, rfl, law_post (tb := 4) laidOut (by decide +kernel) (by kernel_rfl) Try.underlying4 rfl hW' rfl hb⟩

theorem ustringNames_holds : Rows.UstringNamesSaid :=
  OpenClaim.holds_of_wide 3 Try.f3 rfl rfl rfl rfl rfl rfl rfl ⟨rfl, rfl, rfl, rfl, rfl⟩ rfl rfl rfl rfl rfl (by kernel_rfl) Try.func3 (by kernel_rfl)
    (of_decide_eq_true (by kernel_rfl)) (by unfold Func.isWrapper; first | (rw [if_pos (by decide +kernel)]; kernel_rfl) | (rw [if_neg (by decide +kernel)]; exact ⟨rfl, rfl⟩))
    (fun os started H enc _ => names3_lifted os started H enc)
end Go.Proofs.Ytohbhmffgaijgaa
