/-
  The contracts of head.numbers, head.marks and head.texts. Condition: none.
-/
import Derived.Great.BuildSlice
import Derived.Test.YtaahhbjnflimnaaK20
namespace Go.Proofs.Ytaahhbjnflimnaa
open Go.RowKit

/-- The cells of what head.numbers returns. -/
def numsA (p : Pk) : Array Value := #[.int .i64 p.kind, .int .i64 p.qos, .int .i64 p.id, .int .i64 p.keep, .int .i64 p.code, .int .i64 p.wQos]
theorem info_nums : (Try.prog.info? 60).map (·.size) = some 6 := by kernel_rfl
theorem numsA_one (p : Pk) : (numsA p).all (·.oneCell') = true := by simp [numsA, Value.oneCell']
set_option maxRecDepth 100000 in
theorem numbers_any (p : Pk) (a : Ad) (w : World) : Calls Try.prog 31 #[pkV p a] w fun e w' => e = .returned (.agg (numsA p)) ∧ Below w.heap.size w w' := by
  have HB := Lib.hid (fun o o' => below_then (below_box (w := w) o) (below_box o'))
  have HN := Lib.hid (fun o o' => heap_alloc2_new w o o')
  have c0 : (pkC p a)[0]? = some (.int .i64 p.kind) := rfl
  have c3 : (pkC p a)[3]? = some (.int .i64 p.qos) := rfl
  have c4 : (pkC p a)[4]? = some (.int .i64 p.id) := rfl
  have c8 : (pkC p a)[8]? = some (.int .i64 p.keep) := rfl
  have c21 : (pkC p a)[21]? = some (.int .i64 p.code) := rfl
  have c17 : (pkC p a)[17]? = some (.int .i64 p.wQos) := rfl
  have hone := numsA_one p
  have hsz : (numsA p).size = 6 := rfl
  have hdef : numsA p = #[.int .i64 p.kind, .int .i64 p.qos, .int .i64 p.id, .int .i64 p.keep, .int .i64 p.code, .int .i64 p.wQos] := rfl
  unfold pkV
  generalize pkC p a = C at *
  generalize numsA p = D at *
  generalize p.kind = v0 at *
  generalize p.qos = v3 at *
  generalize p.id = v4 at *
  generalize p.keep = v8 at *
  generalize p.code = v21 at *
  generalize p.wQos = v17 at *
  have H1 := Lib.hid hone
  have H2 := Lib.hid hsz
  have H3 := Lib.hid hdef
  clear hone hsz hdef
  go_enter Try.func31, Try.ntmps31
  go_wp2_with (first
    | (refine wpList_buildTo rfl 60 _ rfl (some 16) rfl D (by rw [H3.out]; kernel_rfl) ?_)
    | (refine wpList_store_row rfl _ _ _ rfl (w.heap.size + 1) D rfl rfl 60 _ (HN.out _ _) ?b1 ?b2 ?b3 ?_))
  case b1 => rw [H2.out]; exact info_nums
  case b2 => rw [H2.out]; rfl
  case b3 => exact H1.out
  refine ret_row (cs := D) rfl rfl rfl Try.underlying60 rfl (by rw [H2.out]; exact info_nums) (setRow_heap _ _ _ _ _ _ (HN.out _ _)) ?_
  exact ⟨rfl, belowRow (HB.out _ _) (by omega) _⟩
/-- == of what head.numbers returns. -/
theorem eqa_nums (x0 y0 x1 y1 x2 y2 x3 y3 x4 y4 x5 y5 : Int) (w : World) : (Op.equalIn 10000 60 (.agg #[.int .i64 x0, .int .i64 x1, .int .i64 x2, .int .i64 x3, .int .i64 x4, .int .i64 x5]) (.agg #[.int .i64 y0, .int .i64 y1, .int .i64 y2, .int .i64 y3, .int .i64 y4, .int .i64 y5])).run Try.prog w = .ok ((x0 == y0) && (x1 == y1) && (x2 == y2) && (x3 == y3) && (x4 == y4) && (x5 == y5)) w := by
  have u3 := Try.underlying3
  have a3 := Try.isAgg3
  have z3 := Try.sizeOf3
  rw [show (10000 : Nat) = 9999 + 1 from rfl, Op.equalIn]
  simp only [Sem.run_bind, run_underlying Try.underlying60, Result.andThen_ok]
  simp only [Std.Legacy.Range.forIn_eq_forIn_range', Std.Legacy.Range.size, Nat.sub_zero, Nat.add_sub_cancel, Nat.div_one, List.range'_succ, List.range'_zero, List.forIn_cons, List.forIn_nil]
  go_simp
  by_cases h0 : x0 = y0 <;> by_cases h1 : x1 = y1 <;> by_cases h2 : x2 = y2 <;> by_cases h3 : x3 = y3 <;> by_cases h4 : x4 = y4 <;> by_cases h5 : x5 = y5 <;> simp [h0, h1, h2, h3, h4, h5]
theorem eql_nums (p q : Pk) (w : World) : (binOp .eql 60 (.agg (numsA p)) (.agg (numsA q))).run Try.prog w = .ok (.bool (decide (p.nums = q.nums))) w := by
  rw [run_eql_struct]
  unfold numsA
  rw [eqa_nums]
  show Result.ok (Value.bool _) w = _
  congr 2
  rw [Bool.eq_iff_iff]
  simp [Pk.nums, and_assoc]
/-- The cells of what head.marks returns. -/
def marksA (p : Pk) : Array Value := #[.bool p.dup, .bool p.retain, .bool p.clean, .bool p.hasUser, .bool p.hasPass, .bool p.hasWill, .bool p.session, .bool p.wRetain]
theorem info_marks : (Try.prog.info? 62).map (·.size) = some 8 := by kernel_rfl
theorem marksA_one (p : Pk) : (marksA p).all (·.oneCell') = true := by simp [marksA, Value.oneCell']
set_option maxRecDepth 100000 in
theorem marks_any (p : Pk) (a : Ad) (w : World) : Calls Try.prog 32 #[pkV p a] w fun e w' => e = .returned (.agg (marksA p)) ∧ Below w.heap.size w w' := by
  have HB := Lib.hid (fun o o' => below_then (below_box (w := w) o) (below_box o'))
  have HN := Lib.hid (fun o o' => heap_alloc2_new w o o')
  have c1 : (pkC p a)[1]? = some (.bool p.dup) := rfl
  have c2 : (pkC p a)[2]? = some (.bool p.retain) := rfl
  have c7 : (pkC p a)[7]? = some (.bool p.clean) := rfl
  have c10 : (pkC p a)[10]? = some (.bool p.hasUser) := rfl
  have c12 : (pkC p a)[12]? = some (.bool p.hasPass) := rfl
  have c14 : (pkC p a)[14]? = some (.bool p.hasWill) := rfl
  have c20 : (pkC p a)[20]? = some (.bool p.session) := rfl
  have c18 : (pkC p a)[18]? = some (.bool p.wRetain) := rfl
  have hone := marksA_one p
  have hsz : (marksA p).size = 8 := rfl
  have hdef : marksA p = #[.bool p.dup, .bool p.retain, .bool p.clean, .bool p.hasUser, .bool p.hasPass, .bool p.hasWill, .bool p.session, .bool p.wRetain] := rfl
  unfold pkV
  generalize pkC p a = C at *
  generalize marksA p = D at *
  generalize p.dup = v1 at *
  generalize p.retain = v2 at *
  generalize p.clean = v7 at *
  generalize p.hasUser = v10 at *
  generalize p.hasPass = v12 at *
  generalize p.hasWill = v14 at *
  generalize p.session = v20 at *
  generalize p.wRetain = v18 at *
  have H1 := Lib.hid hone
  have H2 := Lib.hid hsz
  have H3 := Lib.hid hdef
  clear hone hsz hdef
  go_enter Try.func32, Try.ntmps32
  go_wp2_with (first
    | (refine wpList_buildTo rfl 62 _ rfl (some 20) rfl D (by rw [H3.out]; kernel_rfl) ?_)
    | (refine wpList_store_row rfl _ _ _ rfl (w.heap.size + 1) D rfl rfl 62 _ (HN.out _ _) ?b1 ?b2 ?b3 ?_))
  case b1 => rw [H2.out]; exact info_marks
  case b2 => rw [H2.out]; rfl
  case b3 => exact H1.out
  refine ret_row (cs := D) rfl rfl rfl Try.underlying62 rfl (by rw [H2.out]; exact info_marks) (setRow_heap _ _ _ _ _ _ (HN.out _ _)) ?_
  exact ⟨rfl, belowRow (HB.out _ _) (by omega) _⟩
/-- == of what head.marks returns. -/
theorem eqa_marks (x0 y0 x1 y1 x2 y2 x3 y3 x4 y4 x5 y5 x6 y6 x7 y7 : Bool) (w : World) : (Op.equalIn 10000 62 (.agg #[.bool x0, .bool x1, .bool x2, .bool x3, .bool x4, .bool x5, .bool x6, .bool x7]) (.agg #[.bool y0, .bool y1, .bool y2, .bool y3, .bool y4, .bool y5, .bool y6, .bool y7])).run Try.prog w = .ok ((x0 == y0) && (x1 == y1) && (x2 == y2) && (x3 == y3) && (x4 == y4) && (x5 == y5) && (x6 == y6) && (x7 == y7)) w := by
  have u3 := Try.underlying4
  have a3 := Try.isAgg4
  have z3 := Try.sizeOf4
  rw [show (10000 : Nat) = 9999 + 1 from rfl, Op.equalIn]
  simp only [Sem.run_bind, run_underlying Try.underlying62, Result.andThen_ok]
  simp only [Std.Legacy.Range.forIn_eq_forIn_range', Std.Legacy.Range.size, Nat.sub_zero, Nat.add_sub_cancel, Nat.div_one, List.range'_succ, List.range'_zero, List.forIn_cons, List.forIn_nil]
  go_simp
  by_cases h0 : x0 = y0 <;> by_cases h1 : x1 = y1 <;> by_cases h2 : x2 = y2 <;> by_cases h3 : x3 = y3 <;> by_cases h4 : x4 = y4 <;> by_cases h5 : x5 = y5 <;> by_cases h6 : x6 = y6 <;> by_cases h7 : x7 = y7 <;> simp [h0, h1, h2, h3, h4, h5, h6, h7]
theorem eql_marks (p q : Pk) (w : World) : (binOp .eql 62 (.agg (marksA p)) (.agg (marksA q))).run Try.prog w = .ok (.bool (decide (p.marks = q.marks))) w := by
  rw [run_eql_struct]
  unfold marksA
  rw [eqa_marks]
  show Result.ok (Value.bool _) w = _
  congr 2
  rw [Bool.eq_iff_iff]
  simp [Pk.marks, and_assoc]
/-- The cells of what head.texts returns. -/
def textsA (p : Pk) : Array Value := #[.string (bs p.topic), .string (bs p.payload), .string (bs p.client), .string (bs p.user), .string (bs p.pass), .string (bs p.wTopic), .string (bs p.wPayload)]
theorem info_texts : (Try.prog.info? 64).map (·.size) = some 7 := by kernel_rfl
theorem textsA_one (p : Pk) : (textsA p).all (·.oneCell') = true := by simp [textsA, Value.oneCell']
set_option maxRecDepth 100000 in
theorem texts_any (p : Pk) (a : Ad) (w : World) : Calls Try.prog 33 #[pkV p a] w fun e w' => e = .returned (.agg (textsA p)) ∧ Below w.heap.size w w' := by
  have HB := Lib.hid (fun o o' => below_then (below_box (w := w) o) (below_box o'))
  have HN := Lib.hid (fun o o' => heap_alloc2_new w o o')
  have c5 : (pkC p a)[5]? = some (.string (bs p.topic)) := rfl
  have c6 : (pkC p a)[6]? = some (.string (bs p.payload)) := rfl
  have c9 : (pkC p a)[9]? = some (.string (bs p.client)) := rfl
  have c11 : (pkC p a)[11]? = some (.string (bs p.user)) := rfl
  have c13 : (pkC p a)[13]? = some (.string (bs p.pass)) := rfl
  have c15 : (pkC p a)[15]? = some (.string (bs p.wTopic)) := rfl
  have c16 : (pkC p a)[16]? = some (.string (bs p.wPayload)) := rfl
  have hone := textsA_one p
  have hsz : (textsA p).size = 7 := rfl
  have hdef : textsA p = #[.string (bs p.topic), .string (bs p.payload), .string (bs p.client), .string (bs p.user), .string (bs p.pass), .string (bs p.wTopic), .string (bs p.wPayload)] := rfl
  unfold pkV
  generalize pkC p a = C at *
  generalize textsA p = D at *
  generalize bs p.topic = v5 at *
  generalize bs p.payload = v6 at *
  generalize bs p.client = v9 at *
  generalize bs p.user = v11 at *
  generalize bs p.pass = v13 at *
  generalize bs p.wTopic = v15 at *
  generalize bs p.wPayload = v16 at *
  have H1 := Lib.hid hone
  have H2 := Lib.hid hsz
  have H3 := Lib.hid hdef
  clear hone hsz hdef
  go_enter Try.func33, Try.ntmps33
  go_wp2_with (first
    | (refine wpList_buildTo rfl 64 _ rfl (some 19) rfl D (by rw [H3.out]; kernel_rfl) ?_)
    | (refine wpList_store_row rfl _ _ _ rfl (w.heap.size + 1) D rfl rfl 64 _ (HN.out _ _) ?b1 ?b2 ?b3 ?_))
  case b1 => rw [H2.out]; exact info_texts
  case b2 => rw [H2.out]; rfl
  case b3 => exact H1.out
  refine ret_row (cs := D) rfl rfl rfl Try.underlying64 rfl (by rw [H2.out]; exact info_texts) (setRow_heap _ _ _ _ _ _ (HN.out _ _)) ?_
  exact ⟨rfl, belowRow (HB.out _ _) (by omega) _⟩
/-- == of what head.texts returns. -/
theorem eqa_texts (x0 y0 x1 y1 x2 y2 x3 y3 x4 y4 x5 y5 x6 y6 : ByteArray) (w : World) : (Op.equalIn 10000 64 (.agg #[.string x0, .string x1, .string x2, .string x3, .string x4, .string x5, .string x6]) (.agg #[.string y0, .string y1, .string y2, .string y3, .string y4, .string y5, .string y6])).run Try.prog w = .ok ((x0.toList == y0.toList) && (x1.toList == y1.toList) && (x2.toList == y2.toList) && (x3.toList == y3.toList) && (x4.toList == y4.toList) && (x5.toList == y5.toList) && (x6.toList == y6.toList)) w := by
  have u3 := Try.underlying9
  have a3 := Try.isAgg9
  have z3 := Try.sizeOf9
  rw [show (10000 : Nat) = 9999 + 1 from rfl, Op.equalIn]
  simp only [Sem.run_bind, run_underlying Try.underlying64, Result.andThen_ok]
  simp only [Std.Legacy.Range.forIn_eq_forIn_range', Std.Legacy.Range.size, Nat.sub_zero, Nat.add_sub_cancel, Nat.div_one, List.range'_succ, List.range'_zero, List.forIn_cons, List.forIn_nil]
  go_simp
  by_cases h0 : x0.toList = y0.toList <;> by_cases h1 : x1.toList = y1.toList <;> by_cases h2 : x2.toList = y2.toList <;> by_cases h3 : x3.toList = y3.toList <;> by_cases h4 : x4.toList = y4.toList <;> by_cases h5 : x5.toList = y5.toList <;> by_cases h6 : x6.toList = y6.toList <;> simp [h0, h1, h2, h3, h4, h5, h6]
theorem eql_texts (p q : Pk) (w : World) : (binOp .eql 64 (.agg (textsA p)) (.agg (textsA q))).run Try.prog w = .ok (.bool (decide (p.texts = q.texts))) w := by
  rw [run_eql_struct]
  unfold textsA
  rw [eqa_texts]
  show Result.ok (Value.bool _) w = _
  congr 2
  rw [Bool.eq_iff_iff]
  simp [Pk.texts, bs_toList, and_assoc]
end Go.Proofs.Ytaahhbjnflimnaa
