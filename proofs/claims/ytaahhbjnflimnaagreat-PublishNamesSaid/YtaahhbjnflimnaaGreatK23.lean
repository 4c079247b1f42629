/-
  The contract of varint.Bytes. No condition.
  The packet that is nothing has no lists. No condition.
  The contracts of head.numbers, head.marks and head.texts. Condition: none.
-/
import Derived.Great.BuildSlice
import Derived.Test.YtaahhbjnflimnaaGreatK15
import Derived.Test.YtaahhbjnflimnaaGreatK22
import Derived.Test.YtaahhbjnflimnaaGreatK20
import Derived.Test.YtaahhbjnflimnaaGreatK14
namespace Go.Proofs.YtaahhbjnflimnaaGreat
open Go.RowKit

theorem and_low (m : Nat) : bits .and .u8 ((m : Int) % 256) 127 = ((m % 128 : Nat) : Int) := by
  have h := and_lo (UInt8.ofNat m)
  rw [show (UInt8.ofNat m).toNat = m % 256 by simp] at h
  rw [show (m : Int) % 256 = ((m % 256 : Nat) : Int) by omega, h]
  omega
theorem and_shr (n k : Nat) : bits .and .u8 ((n : Int) / 2 ^ (7 * k) % 256) 127 = ((n / 128 ^ k % 128 : Nat) : Int) := by
  rw [← and_low (n / 128 ^ k)]
  congr 2
  rw [show (128 : Nat) = 2 ^ 7 by decide, ← Nat.pow_mul]
  simp
theorem u8v_byt (n c k : Nat) : u8v (byt n c k) = .int .u8 ((n / 128 ^ k % 128 + if k + 1 < c then 128 else 0 : Nat) : Int) := by
  unfold u8v; rw [byt_toNat]

/-- The first k of the c bytes of n. -/
def vbn (n c k : Nat) : List UInt8 := (List.range k).map (byt n c)
theorem vbn_snoc (n c k : Nat) : vbn n c (k + 1) = vbn n c k ++ [byt n c k] := by simp [vbn, List.range_succ]

set_option maxHeartbeats 400000 in
theorem bytes_some (n : Nat) (w : World) (hn : n ≤ 268435455) :
    Calls Tryz.prog 164 #[.int .i64 n] w fun e w' => e = .returned (.tuple #[.string (bs (vb n (sz n))), .int .i64 0]) ∧ Below w.heap.size w w' := by
  obtain ⟨i0, hi, hz0, hz1, hz2⟩ := info_parts info5
  have hsz : 1 ≤ sz n ∧ sz n ≤ 4 := by have := sz_cases n hn; omega
  have HZ := Lib.hid (show ∀ W, Calls Tryz.prog 140 #[.int .i64 n] W fun e w' => e = .returned (.int .i64 (sz n)) ∧ W = w' from size_any n)
  generalize sz n = c at hsz HZ
  obtain ⟨hc0, hc4⟩ := hsz
  have hce : ((c : Int) == 0) = false := by simp; omega
  go_enter Tryz.func164, Tryz.ntmps164
  go_wp2_with (go_at_call 140; refine (HZ.out _).mono ?_; rintro e w' ⟨rfl, rfl⟩)
  go_loopw [5, 13] (fun v i wr => ∃ k : Nat, k ≤ c ∧ i = .int .i64 k ∧ wr.ownsRow w.heap.size 5 1 v k ((vbn n c k).map u8v) ∧ Below w.heap.size w wr) (fun _ i _ => c - (intOf i).toNat)
  case atStart => exact ⟨0, Nat.zero_le _, rfl, World.ownsRow_nil _ _ _ _, Below.refl _ _⟩
  case round =>
    obtain ⟨k, hk, rfl, hown, hb⟩ := hrel
    by_cases hlt : k < c
    · have hby := u8v_byt n c k
      have hsn := vbn_snoc n c k
      have hand0 := and_shr n k
      generalize hm : n / 128 ^ k = m at hand0 hby
      have HM := Lib.hid hm; clear hm
      have HS := Lib.hid hsn; clear hsn
      have hbs : w.heap.size ≤ wr.heap.size := hb.size
      have hm128 : m % 128 < 128 := Nat.mod_lt _ (by decide)
      by_cases hl : k + 1 < c
      · rw [if_pos hl] at hby
        have HB := Lib.hid hby; clear hby
        have hor := or_hi (m % 128) hm128
        generalize m % 128 = r at hand0 hor HB hm128
        have hgo : decide ((k : Int) < (c : Int) - 1) = true := by simp; omega
        go_wp2_with (at_builtin; refine wpList_append_own _ rfl _ _ 51 rfl w.heap.size 5 i0 (.int .u8 0) 1 1 Tryz.underlying51 hi hz0 hz1 hz2 rfl (by decide) _ _ _ rfl (hown.alloc _) ⟨wr.heap.size, 0, none⟩ 1 1 [.int .u8 ((r + 128 : Nat) : Int)] rfl rfl ?c1 ?c2 ?c3 ?c4 ?c5 ?_)
        case c1 => intro j u hj; cases j <;> simp at hj; subst hj; exact World.cell?_alloc_at _ _ _ _ rfl
        case c2 => intro u hu; simp at hu; subst hu; rfl
        case c3 => unfold maxLen; omega
        case c4 => omega
        case c5 => simp; omega
        intro v' w1 hown' hgrow _
        have hb' : Below w.heap.size w w1 := (hb.alloc hbs _).grown hgrow (by simp; omega) (fun j hj => by have := (hown.lt j hj).1; omega)
        have hown2 : w1.ownsRow w.heap.size 5 1 v' (k + 1) ((vbn n c (k + 1)).map u8v) := by
          rw [HS.out, List.map_append, List.map_cons, List.map_nil, HB.out]; simpa using hown'
        clear hown' hgrow HS HM HB hown hb hand0
        go_wp2
        go_roundw
        case rel => exact ⟨k + 1, by omega, by go_num, hown2, hb'⟩
        case measure => simp [intOf]; omega
      · rw [if_neg hl] at hby
        have HB := Lib.hid hby; clear hby
        generalize m % 128 = r at hand0 HB hm128
        have hgo : decide ((k : Int) < (c : Int) - 1) = false := by simp; omega
        go_wp2_with (at_builtin; refine wpList_append_own _ rfl _ _ 51 rfl w.heap.size 5 i0 (.int .u8 0) 1 1 Tryz.underlying51 hi hz0 hz1 hz2 rfl (by decide) _ _ _ rfl (hown.alloc _) ⟨wr.heap.size, 0, none⟩ 1 1 [.int .u8 (r : Int)] rfl rfl ?c1 ?c2 ?c3 ?c4 ?c5 ?_)
        case c1 => intro j u hj; cases j <;> simp at hj; subst hj; exact World.cell?_alloc_at _ _ _ _ rfl
        case c2 => intro u hu; simp at hu; subst hu; rfl
        case c3 => unfold maxLen; omega
        case c4 => omega
        case c5 => simp; omega
        intro v' w1 hown' hgrow _
        have hb' : Below w.heap.size w w1 := (hb.alloc hbs _).grown hgrow (by simp; omega) (fun j hj => by have := (hown.lt j hj).1; omega)
        have hown2 : w1.ownsRow w.heap.size 5 1 v' (k + 1) ((vbn n c (k + 1)).map u8v) := by
          rw [HS.out, List.map_append, List.map_cons, List.map_nil, HB.out]; simpa using hown'
        clear hown' hgrow HS HM HB hown hb hand0
        go_wp2
        go_roundw
        case rel => exact ⟨k + 1, by omega, by go_num, hown2, hb'⟩
        case measure => simp [intOf]; omega
    · obtain rfl : k = c := by omega
      have hcv := conv_own _ hown
      go_wp2
      go_ret2
      exact ⟨rfl, hb⟩

theorem bytes_none (n : Int) (w : World) (hn : n < 0 ∨ 268435455 < n) :
    Calls Tryz.prog 164 #[.int .i64 n] w fun e w' => e = .returned (.tuple #[.string ⟨#[]⟩, .int .i64 2]) ∧ w = w' := by
  have HZ := Lib.hid (show ∀ W, Calls Tryz.prog 140 #[.int .i64 n] W fun e w' => e = .returned (.int .i64 (0 : Nat)) ∧ W = w' from by rw [← sz_zero.2 hn]; exact size_any n)
  clear hn
  go_enter Tryz.func164, Tryz.ntmps164
  go_wp2_with (go_at_call 140; refine (HZ.out _).mono ?_; rintro e w' ⟨rfl, rfl⟩)
  go_ret2
  exact ⟨rfl, rfl⟩
end Go.Proofs.YtaahhbjnflimnaaGreat
namespace Go.Proofs.YtaahhbjnflimnaaGreat
open Go.RowKit

theorem zero_at (W : World) : PkAt W Pk.zero adZ := ⟨fun e => absurd rfl e, fun e => absurd rfl e, fun e => absurd rfl e, fun e => absurd rfl e⟩
theorem zero_cap : PkCap Pk.zero adZ := ⟨Nat.zero_le _, Nat.zero_le _, by decide⟩
end Go.Proofs.YtaahhbjnflimnaaGreat
namespace Go.Proofs.YtaahhbjnflimnaaGreat
open Go.RowKit

/-- The cells of what head.numbers returns. -/
def numsA (p : Pk) : Array Value := #[.int .i64 p.kind, .int .i64 p.qos, .int .i64 p.id, .int .i64 p.keep, .int .i64 p.code, .int .i64 p.wQos]
theorem info_nums : (Tryz.prog.info? 135).map (·.size) = some 6 := by kernel_rfl
theorem numsA_one (p : Pk) : (numsA p).all (·.oneCell') = true := by simp [numsA, Value.oneCell']
set_option maxRecDepth 100000 in
theorem numbers_any (p : Pk) (a : Ad) (w : World) : Calls Tryz.prog 145 #[pkV p a] w fun e w' => e = .returned (.agg (numsA p)) ∧ Below w.heap.size w w' := by
  have HB := Lib.hid (fun o o' => below_then (below_box (w := w) o) (below_box o'))
  have HN := Lib.hid (fun o o' => heap_alloc2_new w o o')
  have c0 : (pkC p a)[0]? = some (.int .i64 p.kind) := rfl
  have c3 : (pkC p a)[3]? = some (.int .i64 p.qos) := rfl
  have c4 : (pkC p a)[4]? = some (.int .i64 p.id) := rfl
  have c8 : (pkC p a)[8]? = some (.int .i64 p.keep) := rfl
  have c21 : (pkC p a)[21]? = some (.int .i64 p.code) := rfl
  have c17 : (pkC p a)[17]? = some (.int .i64 p.wQos) := rfl
  have hone := numsA_one p
  have hsz : (numsA p).size = 6 := rfl
  have hdef : numsA p = #[.int .i64 p.kind, .int .i64 p.qos, .int .i64 p.id, .int .i64 p.keep, .int .i64 p.code, .int .i64 p.wQos] := rfl
  unfold pkV
  generalize pkC p a = C at *
  generalize numsA p = D at *
  generalize p.kind = v0 at *
  generalize p.qos = v3 at *
  generalize p.id = v4 at *
  generalize p.keep = v8 at *
  generalize p.code = v21 at *
  generalize p.wQos = v17 at *
  have H1 := Lib.hid hone
  have H2 := Lib.hid hsz
  have H3 := Lib.hid hdef
  clear hone hsz hdef
  go_enter Tryz.func145, Tryz.ntmps145
  go_wp2_with (first
    | (refine wpList_buildTo rfl 135 _ rfl (some 16) rfl D (by rw [H3.out]; kernel_rfl) ?_)
    | (refine wpList_store_row rfl _ _ _ rfl (w.heap.size + 1) D rfl rfl 135 _ (HN.out _ _) ?b1 ?b2 ?b3 ?_))
  case b1 => rw [H2.out]; exact info_nums
  case b2 => rw [H2.out]; rfl
  case b3 => exact H1.out
  refine ret_row (cs := D) rfl rfl rfl Tryz.underlying135 rfl (by rw [H2.out]; exact info_nums) (setRow_heap _ _ _ _ _ _ (HN.out _ _)) ?_
  exact ⟨rfl, belowRow (HB.out _ _) (by omega) _⟩
/-- == of what head.numbers returns. -/
theorem eqa_nums (x0 y0 x1 y1 x2 y2 x3 y3 x4 y4 x5 y5 : Int) (w : World) : (Op.equalIn 10000 135 (.agg #[.int .i64 x0, .int .i64 x1, .int .i64 x2, .int .i64 x3, .int .i64 x4, .int .i64 x5]) (.agg #[.int .i64 y0, .int .i64 y1, .int .i64 y2, .int .i64 y3, .int .i64 y4, .int .i64 y5])).run Tryz.prog w = .ok ((x0 == y0) && (x1 == y1) && (x2 == y2) && (x3 == y3) && (x4 == y4) && (x5 == y5)) w := by
  have u3 := Tryz.underlying3
  have a3 := Tryz.isAgg3
  have z3 := Tryz.sizeOf3
  rw [show (10000 : Nat) = 9999 + 1 from rfl, Op.equalIn]
  simp only [Sem.run_bind, run_underlying Tryz.underlying135, Result.andThen_ok]
  simp only [Std.Legacy.Range.forIn_eq_forIn_range', Std.Legacy.Range.size, Nat.sub_zero, Nat.add_sub_cancel, Nat.div_one, List.range'_succ, List.range'_zero, List.forIn_cons, List.forIn_nil]
  go_simp
  by_cases h0 : x0 = y0 <;> by_cases h1 : x1 = y1 <;> by_cases h2 : x2 = y2 <;> by_cases h3 : x3 = y3 <;> by_cases h4 : x4 = y4 <;> by_cases h5 : x5 = y5 <;> simp [h0, h1, h2, h3, h4, h5]
theorem eql_nums (p q : Pk) (w : World) : (binOp .eql 135 (.agg (numsA p)) (.agg (numsA q))).run Tryz.prog w = .ok (.bool (decide (p.nums = q.nums))) w := by
  rw [run_eql_struct]
  unfold numsA
  rw [eqa_nums]
  show Result.ok (Value.bool _) w = _
  congr 2
  rw [Bool.eq_iff_iff]
  simp [Pk.nums, and_assoc]
/-- The cells of what head.marks returns. -/
def marksA (p : Pk) : Array Value := #[.bool p.dup, .bool p.retain, .bool p.clean, .bool p.hasUser, .bool p.hasPass, .bool p.hasWill, .bool p.session, .bool p.wRetain]
theorem info_marks : (Tryz.prog.info? 137).map (·.size) = some 8 := by kernel_rfl
theorem marksA_one (p : Pk) : (marksA p).all (·.oneCell') = true := by simp [marksA, Value.oneCell']
set_option maxRecDepth 100000 in
theorem marks_any (p : Pk) (a : Ad) (w : World) : Calls Tryz.prog 146 #[pkV p a] w fun e w' => e = .returned (.agg (marksA p)) ∧ Below w.heap.size w w' := by
  have HB := Lib.hid (fun o o' => below_then (below_box (w := w) o) (below_box o'))
  have HN := Lib.hid (fun o o' => heap_alloc2_new w o o')
  have c1 : (pkC p a)[1]? = some (.bool p.dup) := rfl
  have c2 : (pkC p a)[2]? = some (.bool p.retain) := rfl
  have c7 : (pkC p a)[7]? = some (.bool p.clean) := rfl
  have c10 : (pkC p a)[10]? = some (.bool p.hasUser) := rfl
  have c12 : (pkC p a)[12]? = some (.bool p.hasPass) := rfl
  have c14 : (pkC p a)[14]? = some (.bool p.hasWill) := rfl
  have c20 : (pkC p a)[20]? = some (.bool p.session) := rfl
  have c18 : (pkC p a)[18]? = some (.bool p.wRetain) := rfl
  have hone := marksA_one p
  have hsz : (marksA p).size = 8 := rfl
  have hdef : marksA p = #[.bool p.dup, .bool p.retain, .bool p.clean, .bool p.hasUser, .bool p.hasPass, .bool p.hasWill, .bool p.session, .bool p.wRetain] := rfl
  unfold pkV
  generalize pkC p a = C at *
  generalize marksA p = D at *
  generalize p.dup = v1 at *
  generalize p.retain = v2 at *
  generalize p.clean = v7 at *
  generalize p.hasUser = v10 at *
  generalize p.hasPass = v12 at *
  generalize p.hasWill = v14 at *
  generalize p.session = v20 at *
  generalize p.wRetain = v18 at *
  have H1 := Lib.hid hone
  have H2 := Lib.hid hsz
  have H3 := Lib.hid hdef
  clear hone hsz hdef
  go_enter Tryz.func146, Tryz.ntmps146
  go_wp2_with (first
    | (refine wpList_buildTo rfl 137 _ rfl (some 20) rfl D (by rw [H3.out]; kernel_rfl) ?_)
    | (refine wpList_store_row rfl _ _ _ rfl (w.heap.size + 1) D rfl rfl 137 _ (HN.out _ _) ?b1 ?b2 ?b3 ?_))
  case b1 => rw [H2.out]; exact info_marks
  case b2 => rw [H2.out]; rfl
  case b3 => exact H1.out
  refine ret_row (cs := D) rfl rfl rfl Tryz.underlying137 rfl (by rw [H2.out]; exact info_marks) (setRow_heap _ _ _ _ _ _ (HN.out _ _)) ?_
  exact ⟨rfl, belowRow (HB.out _ _) (by omega) _⟩
/-- == of what head.marks returns. -/
theorem eqa_marks (x0 y0 x1 y1 x2 y2 x3 y3 x4 y4 x5 y5 x6 y6 x7 y7 : Bool) (w : World) : (Op.equalIn 10000 137 (.agg #[.bool x0, .bool x1, .bool x2, .bool x3, .bool x4, .bool x5, .bool x6, .bool x7]) (.agg #[.bool y0, .bool y1, .bool y2, .bool y3, .bool y4, .bool y5, .bool y6, .bool y7])).run Tryz.prog w = .ok ((x0 == y0) && (x1 == y1) && (x2 == y2) && (x3 == y3) && (x4 == y4) && (x5 == y5) && (x6 == y6) && (x7 == y7)) w := by
  have u3 := Tryz.underlying4
  have a3 := Tryz.isAgg4
  have z3 := Tryz.sizeOf4
  rw [show (10000 : Nat) = 9999 + 1 from rfl, Op.equalIn]
  simp only [Sem.run_bind, run_underlying Tryz.underlying137, Result.andThen_ok]
  simp only [Std.Legacy.Range.forIn_eq_forIn_range', Std.Legacy.Range.size, Nat.sub_zero, Nat.add_sub_cancel, Nat.div_one, List.range'_succ, List.range'_zero, List.forIn_cons, List.forIn_nil]
  go_simp
  by_cases h0 : x0 = y0 <;> by_cases h1 : x1 = y1 <;> by_cases h2 : x2 = y2 <;> by_cases h3 : x3 = y3 <;> by_cases h4 : x4 = y4 <;> by_cases h5 : x5 = y5 <;> by_cases h6 : x6 = y6 <;> by_cases h7 : x7 = y7 <;> simp [h0, h1, h2, h3, h4, h5, h6, h7]
theorem eql_marks (p q : Pk) (w : World) : (binOp .eql 137 (.agg (marksA p)) (.agg (marksA q))).run Tryz.prog w = .ok (.bool (decide (p.marks = q.marks))) w := by
  rw [run_eql_struct]
  unfold marksA
  rw [eqa_marks]
  show Result.ok (Value.bool _) w = _
  congr 2
  rw [Bool.eq_iff_iff]
  simp [Pk.marks, and_assoc]
/-- The cells of what head.texts returns. -/
def textsA (p : Pk) : Array Value := #[.string (bs p.topic), .string (bs p.payload), .string (bs p.client), .string (bs p.user), .string (bs p.pass), .string (bs p.wTopic), .string (bs p.wPayload)]
theorem info_texts : (Tryz.prog.info? 139).map (·.size) = some 7 := by kernel_rfl
theorem textsA_one (p : Pk) : (textsA p).all (·.oneCell') = true := by simp [textsA, Value.oneCell']
set_option maxRecDepth 100000 in
theorem texts_any (p : Pk) (a : Ad) (w : World) : Calls Tryz.prog 147 #[pkV p a] w fun e w' => e = .returned (.agg (textsA p)) ∧ Below w.heap.size w w' := by
  have HB := Lib.hid (fun o o' => below_then (below_box (w := w) o) (below_box o'))
  have HN := Lib.hid (fun o o' => heap_alloc2_new w o o')
  have c5 : (pkC p a)[5]? = some (.string (bs p.topic)) := rfl
  have c6 : (pkC p a)[6]? = some (.string (bs p.payload)) := rfl
  have c9 : (pkC p a)[9]? = some (.string (bs p.client)) := rfl
  have c11 : (pkC p a)[11]? = some (.string (bs p.user)) := rfl
  have c13 : (pkC p a)[13]? = some (.string (bs p.pass)) := rfl
  have c15 : (pkC p a)[15]? = some (.string (bs p.wTopic)) := rfl
  have c16 : (pkC p a)[16]? = some (.string (bs p.wPayload)) := rfl
  have hone := textsA_one p
  have hsz : (textsA p).size = 7 := rfl
  have hdef : textsA p = #[.string (bs p.topic), .string (bs p.payload), .string (bs p.client), .string (bs p.user), .string (bs p.pass), .string (bs p.wTopic), .string (bs p.wPayload)] := rfl
  unfold pkV
  generalize pkC p a = C at *
  generalize textsA p = D at *
  generalize bs p.topic = v5 at *
  generalize bs p.payload = v6 at *
  generalize bs p.client = v9 at *
  generalize bs p.user = v11 at *
  generalize bs p.pass = v13 at *
  generalize bs p.wTopic = v15 at *
  generalize bs p.wPayload = v16 at *
  have H1 := Lib.hid hone
  have H2 := Lib.hid hsz
  have H3 := Lib.hid hdef
  clear hone hsz hdef
  go_enter Tryz.func147, Tryz.ntmps147
  go_wp2_with (first
    | (refine wpList_buildTo rfl 139 _ rfl (some 19) rfl D (by rw [H3.out]; kernel_rfl) ?_)
    | (refine wpList_store_row rfl _ _ _ rfl (w.heap.size + 1) D rfl rfl 139 _ (HN.out _ _) ?b1 ?b2 ?b3 ?_))
  case b1 => rw [H2.out]; exact info_texts
  case b2 => rw [H2.out]; rfl
  case b3 => exact H1.out
  refine ret_row (cs := D) rfl rfl rfl Tryz.underlying139 rfl (by rw [H2.out]; exact info_texts) (setRow_heap _ _ _ _ _ _ (HN.out _ _)) ?_
  exact ⟨rfl, belowRow (HB.out _ _) (by omega) _⟩
/-- == of what head.texts returns. -/
theorem eqa_texts (x0 y0 x1 y1 x2 y2 x3 y3 x4 y4 x5 y5 x6 y6 : ByteArray) (w : World) : (Op.equalIn 10000 139 (.agg #[.string x0, .string x1, .string x2, .string x3, .string x4, .string x5, .string x6]) (.agg #[.string y0, .string y1, .string y2, .string y3, .string y4, .string y5, .string y6])).run Tryz.prog w = .ok ((x0.toList == y0.toList) && (x1.toList == y1.toList) && (x2.toList == y2.toList) && (x3.toList == y3.toList) && (x4.toList == y4.toList) && (x5.toList == y5.toList) && (x6.toList == y6.toList)) w := by
  have u3 := Tryz.underlying9
  have a3 := Tryz.isAgg9
  have z3 := Tryz.sizeOf9
  rw [show (10000 : Nat) = 9999 + 1 from rfl, Op.equalIn]
  simp only [Sem.run_bind, run_underlying Tryz.underlying139, Result.andThen_ok]
  simp only [Std.Legacy.Range.forIn_eq_forIn_range', Std.Legacy.Range.size, Nat.sub_zero, Nat.add_sub_cancel, Nat.div_one, List.range'_succ, List.range'_zero, List.forIn_cons, List.forIn_nil]
  go_simp
  by_cases h0 : x0.toList = y0.toList <;> by_cases h1 : x1.toList = y1.toList <;> by_cases h2 : x2.toList = y2.toList <;> by_cases h3 : x3.toList = y3.toList <;> by_cases h4 : x4.toList = y4.toList <;> by_cases h5 : x5.toList = y5.toList <;> by_cases h6 : x6.toList = y6.toList <;> simp [h0, h1, h2, h3, h4, h5, h6]
theorem eql_texts (p q : Pk) (w : World) : (binOp .eql 139 (.agg (textsA p)) (.agg (textsA q))).run Tryz.prog w = .ok (.bool (decide (p.texts = q.texts))) w := by
  rw [run_eql_struct]
  unfold textsA
  rw [eqa_texts]
  show Result.ok (Value.bool _) w = _
  congr 2
  rw [Bool.eq_iff_iff]
  simp [Pk.texts, bs_toList, and_assoc]
end Go.Proofs.YtaahhbjnflimnaaGreat
