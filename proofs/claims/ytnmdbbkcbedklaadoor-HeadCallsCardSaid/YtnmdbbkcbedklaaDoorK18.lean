/-
  The cells of a packet that is nothing, and of one of which a header tells. Condition: none.
  The contracts of head.fresh: a list in new memory. Condition: at most 70,000 elements.
-/
import Derived.OwnWalk
import Derived.Test.YtnmdbbkcbedklaaDoorK09
import Derived.Test.YtnmdbbkcbedklaaDoorK02
import Derived.Test.YtnmdbbkcbedklaaDoorK12
namespace Go.Proofs.YtnmdbbkcbedklaaDoor
open Go.RowKit

theorem info_pk : (Tryd.prog.info? 35).map (·.size) = some 25 := by kernel_rfl
/-- The cells of a packet that is nothing. -/
def pkZ : Array Value := #[.int .i64 0, .bool false, .bool false, .int .i64 0, .int .i64 0, .string ⟨#[]⟩, .string ⟨#[]⟩, .bool false, .int .i64 0, .string ⟨#[]⟩, .bool false, .string ⟨#[]⟩, .bool false, .string ⟨#[]⟩, .bool false, .string ⟨#[]⟩, .string ⟨#[]⟩, .int .i64 0, .bool false, .slice none 0 0, .bool false, .int .i64 0, .slice none 0 0, .slice none 0 0, .slice none 0 0]
theorem zero_pk (W : World) : (zeroValue 35).run Tryd.prog W = .ok (.agg pkZ) W := by kernel_rfl
theorem pkZ_size : pkZ.size = 25 := rfl
/-- The cells of a packet of which a header tells. -/
def pkD (k : Int) (d r : Bool) (q : Int) : Array Value := #[.int .i64 k, .bool d, .bool r, .int .i64 q, .int .i64 0, .string ⟨#[]⟩, .string ⟨#[]⟩, .bool false, .int .i64 0, .string ⟨#[]⟩, .bool false, .string ⟨#[]⟩, .bool false, .string ⟨#[]⟩, .bool false, .string ⟨#[]⟩, .string ⟨#[]⟩, .int .i64 0, .bool false, .slice none 0 0, .bool false, .int .i64 0, .slice none 0 0, .slice none 0 0, .slice none 0 0]
theorem pkD_one (k : Int) (d r : Bool) (q : Int) : (pkD k d r q).all (·.oneCell') = true := by simp [pkD, Value.oneCell']
end Go.Proofs.YtnmdbbkcbedklaaDoor
namespace Go.Proofs.YtnmdbbkcbedklaaDoor
open Go.RowKit

theorem own_below {w w' : World} {base n size : Nat} {t : TypeId} {v : Value} {xs : List Value} (h : w.ownsRow base t size v n xs) (hb : Below w.heap.size w w') : w'.ownsRow base t size v n xs :=
  h.kept (row := none) ⟨hb.os, hb.tape, hb.output, hb.size, fun k hk _ => hb.block k hk⟩ (by cases v.ownBlock <;> simp)
theorem below_of_new {w w1 : World} {g : Nat} (hg : w.heap.size ≤ g) (h : w.grownBy w1 (some g)) : Below w.heap.size w w1 :=
  ⟨h.os, h.tape, h.output, h.size, fun k hk => h.block k hk (fun e => by have := Option.some.inj e; omega)⟩
theorem info_int : (Tryd.prog.info? 3).map (fun i => (i.zero, i.size, i.bytes)) = some (some (.int .i64 0), 1, 8) := by kernel_rfl
set_option maxHeartbeats 1000000 in
theorem fresh_int (A : Option Addr) (n c : Nat) (cs : List Value) (w : World) (hA : CL w A cs) (hn : cs.length = n * 1) (h1 : ∀ u ∈ cs, u.oneCell' = true) (hl : n ≤ 70000) :
    Calls Tryd.prog 33 #[.slice A n c] w fun e w' => ∃ v, e = .returned v ∧ w'.ownsRow w.heap.size 3 1 v n cs ∧ Below w.heap.size w w' := by
  obtain ⟨i0, hi, hz0, hz1, hz2⟩ := info_parts info_int
  have LB := Lib.hid (Below.refl w.heap.size w)
  cases A with
  | none =>
    have hcs : cs = [] := by
      apply Classical.byContradiction
      intro hne
      obtain ⟨g, i, e, _⟩ := hA hne
      cases e
    subst hcs
    obtain rfl : n = 0 := by simp at hn; omega
    have HO := Lib.hid (World.ownsRow_nil w w.heap.size 3 1)
    clear hA hn h1 hl
    go_enter Tryd.func33, Tryd.ntmps33
    go_wp2_with fail
    go_ret
    exact ⟨_, rfl, HO.out, LB.out⟩
  | some a =>
    have HN := Lib.hid hn
    have H1 := Lib.hid h1
    have HL := Lib.hid hl
    have SRC := Lib.hid (show ∀ j u, cs[j]? = some u → w.cell? (a.add j) = some u from fun j u hu => by
      obtain ⟨g, i, e, hg, hc⟩ := hA (fun e => by rw [e] at hu; simp at hu)
      cases e
      rw [Addr.add_lit]
      exact hc j u hu)
    clear hn h1 hl hA
    go_enter Tryd.func33, Tryd.ntmps33
    go_wp2_with (at_builtin; refine wpList_append_own _ rfl _ _ 32 rfl w.heap.size 3 i0 (.int .i64 0) 1 8 Tryd.underlying32 hi hz0 hz1 hz2 rfl (by decide) _ 0 [] rfl (World.ownsRow_nil _ _ _ _) a n c cs rfl HN.out SRC.out H1.out (by have := HL.out; simp only [maxLen]; omega) (by have := HL.out; omega) (by simp) ?_; intro v' w1 hown hgrow _)
    go_ret
    rw [Nat.zero_add, List.nil_append] at hown
    refine ⟨_, rfl, hown, ⟨hgrow.os, hgrow.tape, hgrow.output, hgrow.size, fun k hk => hgrow.block k hk (fun e => by cases e)⟩⟩
theorem info_prop : (Tryd.prog.info? 40).map (fun i => (i.zero, i.size, i.bytes)) = some (some (.agg #[.int .i64 0, .int .u32 0, .string .empty, .string .empty]), 4, 48) := by kernel_rfl
set_option maxHeartbeats 1000000 in
theorem fresh_prop (A : Option Addr) (n c : Nat) (cs : List Value) (w : World) (hA : CL w A cs) (hn : cs.length = n * 4) (h1 : ∀ u ∈ cs, u.oneCell' = true) (hl : n ≤ 70000) :
    Calls Tryd.prog 70 #[.slice A n c] w fun e w' => ∃ v, e = .returned v ∧ w'.ownsRow w.heap.size 40 4 v n cs ∧ Below w.heap.size w w' := by
  obtain ⟨i0, hi, hz0, hz1, hz2⟩ := info_parts info_prop
  have LB := Lib.hid (Below.refl w.heap.size w)
  cases A with
  | none =>
    have hcs : cs = [] := by
      apply Classical.byContradiction
      intro hne
      obtain ⟨g, i, e, _⟩ := hA hne
      cases e
    subst hcs
    obtain rfl : n = 0 := by simp at hn; omega
    have HO := Lib.hid (World.ownsRow_nil w w.heap.size 40 4)
    clear hA hn h1 hl
    go_enter Tryd.func70, Tryd.ntmps70
    go_wp2_with fail
    go_ret
    exact ⟨_, rfl, HO.out, LB.out⟩
  | some a =>
    have HN := Lib.hid hn
    have H1 := Lib.hid h1
    have HL := Lib.hid hl
    have SRC := Lib.hid (show ∀ j u, cs[j]? = some u → w.cell? (a.add j) = some u from fun j u hu => by
      obtain ⟨g, i, e, hg, hc⟩ := hA (fun e => by rw [e] at hu; simp at hu)
      cases e
      rw [Addr.add_lit]
      exact hc j u hu)
    clear hn h1 hl hA
    go_enter Tryd.func70, Tryd.ntmps70
    go_wp2_with (at_builtin; refine wpList_append_own _ rfl _ _ 29 rfl w.heap.size 40 i0 (.agg #[.int .i64 0, .int .u32 0, .string .empty, .string .empty]) 4 48 Tryd.underlying29 hi hz0 hz1 hz2 rfl (by decide) _ 0 [] rfl (World.ownsRow_nil _ _ _ _) a n c cs rfl HN.out SRC.out H1.out (by have := HL.out; simp only [maxLen]; omega) (by have := HL.out; omega) (by simp) ?_; intro v' w1 hown hgrow _)
    go_ret
    rw [Nat.zero_add, List.nil_append] at hown
    refine ⟨_, rfl, hown, ⟨hgrow.os, hgrow.tape, hgrow.output, hgrow.size, fun k hk => hgrow.block k hk (fun e => by cases e)⟩⟩
theorem info_fi : (Tryd.prog.info? 76).map (fun i => (i.zero, i.size, i.bytes)) = some (some (.agg #[.string .empty, .int .i64 0, .bool false, .bool false, .int .i64 0]), 5, 40) := by kernel_rfl
set_option maxHeartbeats 1000000 in
theorem fresh_fi (A : Option Addr) (n c : Nat) (cs : List Value) (w : World) (hA : CL w A cs) (hn : cs.length = n * 5) (h1 : ∀ u ∈ cs, u.oneCell' = true) (hl : n ≤ 70000) :
    Calls Tryd.prog 71 #[.slice A n c] w fun e w' => ∃ v, e = .returned v ∧ w'.ownsRow w.heap.size 76 5 v n cs ∧ Below w.heap.size w w' := by
  obtain ⟨i0, hi, hz0, hz1, hz2⟩ := info_parts info_fi
  have LB := Lib.hid (Below.refl w.heap.size w)
  cases A with
  | none =>
    have hcs : cs = [] := by
      apply Classical.byContradiction
      intro hne
      obtain ⟨g, i, e, _⟩ := hA hne
      cases e
    subst hcs
    obtain rfl : n = 0 := by simp at hn; omega
    have HO := Lib.hid (World.ownsRow_nil w w.heap.size 76 5)
    clear hA hn h1 hl
    go_enter Tryd.func71, Tryd.ntmps71
    go_wp2_with fail
    go_ret
    exact ⟨_, rfl, HO.out, LB.out⟩
  | some a =>
    have HN := Lib.hid hn
    have H1 := Lib.hid h1
    have HL := Lib.hid hl
    have SRC := Lib.hid (show ∀ j u, cs[j]? = some u → w.cell? (a.add j) = some u from fun j u hu => by
      obtain ⟨g, i, e, hg, hc⟩ := hA (fun e => by rw [e] at hu; simp at hu)
      cases e
      rw [Addr.add_lit]
      exact hc j u hu)
    clear hn h1 hl hA
    go_enter Tryd.func71, Tryd.ntmps71
    go_wp2_with (at_builtin; refine wpList_append_own _ rfl _ _ 33 rfl w.heap.size 76 i0 (.agg #[.string .empty, .int .i64 0, .bool false, .bool false, .int .i64 0]) 5 40 Tryd.underlying33 hi hz0 hz1 hz2 rfl (by decide) _ 0 [] rfl (World.ownsRow_nil _ _ _ _) a n c cs rfl HN.out SRC.out H1.out (by have := HL.out; simp only [maxLen]; omega) (by have := HL.out; omega) (by simp) ?_; intro v' w1 hown hgrow _)
    go_ret
    rw [Nat.zero_add, List.nil_append] at hown
    refine ⟨_, rfl, hown, ⟨hgrow.os, hgrow.tape, hgrow.output, hgrow.size, fun k hk => hgrow.block k hk (fun e => by cases e)⟩⟩
end Go.Proofs.YtnmdbbkcbedklaaDoor
