/-
  The contracts of the reference's reader (layer 2). No condition but the length of its string.
-/
import Derived.Test.YtoaoabffgllbbaaVarRefRead
namespace Go.Proofs.Ytoaoabffgllbbaa
open Go.RowKit

def rrCells (s : ByteArray) (e : Int) : Array Value := #[.string s, .int .i64 e]
/-- Block b is a reference's reader with the bytes s and the error e. -/
def Rr (w : World) (b : Nat) (s : ByteArray) (e : Int) : Prop := w.heap[b]? = some (.cells (rrCells s e) 52 (0, 0))

section
variable {w w' : World} {b : Nat} {s : ByteArray} {e : Int}
theorem Rr.lt (h : Rr w b s e) : b < w.heap.size := lt_of_block h
theorem Rr.cell (h : Rr w b s e) (j : Nat) : w.cell? ⟨b, j, none⟩ = (rrCells s e)[j]? := cell_of_row w b j _ _ (0, 0) h
theorem Rr.c0 (h : Rr w b s e) : w.cell? ⟨b, 0, none⟩ = some (.string s) := h.cell 0
theorem Rr.c1 (h : Rr w b s e) : w.cell? ⟨b, 1, none⟩ = some (.int .i64 e) := h.cell 1
theorem Rr.fr (h : Rr w b s e) (j : Nat) : w.frozen? ⟨b, j, none⟩ = false := by unfold Rr at h; simp [World.frozen?, h]
theorem Rr.drew (h : Rr w b s e) : Rr w.drew b s e := h
theorem Rr.of_block (h : Rr w b s e) (hb : w'.heap[b]? = w.heap[b]?) : Rr w' b s e := hb.trans h
theorem Rr.str (h : Rr w b s e) (t : ByteArray) : Rr (w.setCell ⟨b, 0, none⟩ (.string t)) b t e := setCell_block h 0 _
theorem Rr.err (h : Rr w b s e) (f : Int) : Rr (w.setCell ⟨b, 1, none⟩ (.int .i64 f)) b s f := setCell_block h 1 _
end

theorem rr_new (w : World) :
    Calls Try.prog 20 #[] w fun e w' => e = .returned (.pointer (some ⟨w.heap.size, 0, none⟩)) ∧ Rr w' w.heap.size ⟨#[]⟩ 0 ∧ Below w.heap.size w w' := by
  go_enter Try.func20, Try.ntmps20
  go_wp2
  go_ret
  exact ⟨rfl, heap_alloc_new w _, (Below.refl _ _).alloc (Nat.le_refl _) _⟩

theorem rr_reset {w : World} {b : Nat} {s : ByteArray} {e : Int} (hc : Rr w b s e) :
    Calls Try.prog 21 #[.pointer (some ⟨b, 0, none⟩)] w fun e' w' => e' = .returned (.tuple #[]) ∧ Rr w' b ⟨#[]⟩ 0 ∧ w.grownBy w' (some b) := by
  have h0 := hc.c0
  have h1 := hc.c1
  have f0 := hc.fr 0
  have f1 := hc.fr 1
  go_enter Try.func21, Try.ntmps21
  go_wp2
  go_end0
  exact ⟨rfl, (hc.str _).err 0, grown_then (block_kept _ _ _ _) (block_kept _ _ _ _)⟩

theorem rr_size {w : World} {b : Nat} {s : ByteArray} {e : Int} (hc : Rr w b s e) :
    Calls Try.prog 24 #[.pointer (some ⟨b, 0, none⟩)] w fun e' w' => e' = .returned (.int .i64 s.size) ∧ w = w' := by
  have h0 := hc.c0
  go_enter Try.func24, Try.ntmps24
  go_wp2
  go_ret
  exact ⟨rfl, rfl⟩

/-- The reference's Read where the run is known. -/
theorem ref_read_of {s : ByteArray} {v n st : Nat} {a c d : Int} (w : World) (hm : s.size ≤ 9223372036854775807) (h : run 0 0 s.data.toList = (v, n, st)) (ha : ((if st = 1 then v else 0 : Nat) : Int) = a)
    (hc : ((if st = 1 then n else 0 : Nat) : Int) = c) (hd : ((if st = 0 then 3 else if st = 1 then 0 else 5 : Nat) : Int) = d) :
    Calls Try.prog 18 #[.string s] w fun e w' => e = .returned (.tuple #[.int .i64 a, .int .i64 c, .int .i64 d]) ∧ w = w' :=
  (ref_read_any s w hm).mono fun _ _ ⟨h1, h2⟩ => ⟨h1.trans (readRet_of h ha hc hd).symm, h2⟩

theorem rr_value_yes {w : World} {b v n : Nat} {s : ByteArray} {e : Int} (hc : Rr w b s e) (hm : s.size ≤ 9223372036854775807) (h : run 0 0 s.data.toList = (v, n, 1)) :
    Calls Try.prog 23 #[.pointer (some ⟨b, 0, none⟩)] w fun e' w' => e' = .returned (.tuple #[.int .i64 v, .bool true]) ∧ w = w' := by
  have h0 := hc.c0
  have RD := Lib.hid (fun W => ref_read_of (s := s) (a := v) (c := n) (d := 0) W hm h rfl rfl rfl)
  clear h
  go_enter Try.func23, Try.ntmps23
  go_wp2_with (go_at_call 18; refine (RD.out _).mono ?_; rintro e' w' ⟨rfl, rfl⟩)
  go_ret2
  exact ⟨rfl, rfl⟩
theorem rr_value_no {w : World} {b v n st : Nat} {s : ByteArray} {e : Int} (hc : Rr w b s e) (hm : s.size ≤ 9223372036854775807) (h : run 0 0 s.data.toList = (v, n, st)) (hs : st = 0 ∨ st = 2) :
    Calls Try.prog 23 #[.pointer (some ⟨b, 0, none⟩)] w fun e' w' => e' = .returned (.tuple #[.int .i64 0, .bool false]) ∧ w = w' := by
  have h0 := hc.c0
  rcases hs with rfl | rfl
  · have RD := Lib.hid (fun W => ref_read_of (s := s) (a := 0) (c := 0) (d := 3) W hm h rfl rfl rfl)
    clear h
    go_enter Try.func23, Try.ntmps23
    go_wp2_with (go_at_call 18; refine (RD.out _).mono ?_; rintro e' w' ⟨rfl, rfl⟩)
    go_ret2
    exact ⟨rfl, rfl⟩
  · have RD := Lib.hid (fun W => ref_read_of (s := s) (a := 0) (c := 0) (d := 5) W hm h rfl rfl rfl)
    clear h
    go_enter Try.func23, Try.ntmps23
    go_wp2_with (go_at_call 18; refine (RD.out _).mono ?_; rintro e' w' ⟨rfl, rfl⟩)
    go_ret2
    exact ⟨rfl, rfl⟩

theorem rr_push_whole {w : World} {b v n : Nat} {s : ByteArray} {e : Int} (x : UInt8) (hc : Rr w b s e) (hm : s.size ≤ 9223372036854775807) (h : run 0 0 s.data.toList = (v, n, 1)) :
    Calls Try.prog 22 #[.pointer (some ⟨b, 0, none⟩), .int .u8 x.toNat] w fun e' w' => e' = .returned (.tuple #[.bool false, .int .i64 13]) ∧ w = w' := by
  have h0 := hc.c0
  have RD := Lib.hid (rr_value_yes hc hm h)
  clear h
  go_enter Try.func22, Try.ntmps22
  go_wp2_with (go_at_call 23; refine RD.out.mono ?_; rintro e' w' ⟨rfl, rfl⟩)
  go_ret2
  exact ⟨rfl, rfl⟩
theorem rr_push_broken {w : World} {b v n : Nat} {s : ByteArray} (x : UInt8) (hc : Rr w b s 5) (hm : s.size ≤ 9223372036854775807) (h : run 0 0 s.data.toList = (v, n, 2)) :
    Calls Try.prog 22 #[.pointer (some ⟨b, 0, none⟩), .int .u8 x.toNat] w fun e' w' => e' = .returned (.tuple #[.bool false, .int .i64 13]) ∧ w = w' := by
  have h0 := hc.c0
  have h1 := hc.c1
  have RD := Lib.hid (rr_value_no hc hm h (.inr rfl))
  clear h
  go_enter Try.func22, Try.ntmps22
  go_wp2_with (go_at_call 23; refine RD.out.mono ?_; rintro e' w' ⟨rfl, rfl⟩)
  go_ret2
  exact ⟨rfl, rfl⟩

theorem conv_one (W : World) (g : Nat) (x : UInt8) (h : W.cell? ⟨g, 0, none⟩ = some (.int .u8 x.toNat)) :
    (convert 44 9 (.slice (some ⟨g, 0, none⟩) 1 1)).run Try.prog W = .ok (.string ⟨#[x]⟩) W := by
  have e := run_convert_bytes_arg (P := Try.prog) W 44 5 Try.underlying44 Try.underlying5 g 0 1 1 [(x.toNat : Int)] rfl (fun i hi => by
    obtain rfl : i = 0 := by omega
    exact h) 9 Try.underlying9
  rw [e]
  simp [strOfNums]

theorem one_more (s : ByteArray) (x : UInt8) : (s ++ ⟨#[x]⟩ : ByteArray).data.toList = s.data.toList ++ [x] := by simp
theorem one_size (s : ByteArray) (x : UInt8) : (s ++ ⟨#[x]⟩ : ByteArray).size = s.size + 1 := by simp [ByteArray.size_append]; rfl

theorem Rr.made {w : World} {b : Nat} {s : ByteArray} {e : Int} (h : Rr w b s e) (o : Obj) : Rr (w.alloc o) b s e := h.of_block (Below.heap_alloc w o b h.lt)
theorem grown_made (w : World) (o : Obj) (b : Nat) : w.grownBy (w.alloc o) (some b) := ⟨rfl, rfl, rfl, by simp, fun k hk _ => Below.heap_alloc w o k hk⟩
theorem grown_drew {w w' : World} {r : Option Nat} (h : w.grownBy w' r) : w.grownBy w'.drew r := ⟨h.os, h.tape, h.output, h.size, h.block⟩

set_option maxHeartbeats 1000000 in
theorem rr_push_more {w : World} {b v n : Nat} {s : ByteArray} (x : UInt8) (hc : Rr w b s 0) (hm : s.size ≤ 4) (h : run 0 0 s.data.toList = (v, n, 0)) (hx : nxt x (n + 1) = 0) :
    Calls Try.prog 22 #[.pointer (some ⟨b, 0, none⟩), .int .u8 x.toNat] w fun e' w' => e' = .returned (.tuple #[.bool false, .int .i64 0]) ∧ Rr w' b (s ++ ⟨#[x]⟩) 0 ∧ w.grownBy w' (some b) := by
  have h0 := hc.c0
  have h1 := hc.c1
  have f0 := hc.fr 0
  have RD := Lib.hid (rr_value_no hc (by omega) h (.inl rfl))
  have hcv := conv_one (w.alloc (Obj.cells #[Value.int IntKind.u8 x.toNat] 5)).drew w.heap.size x (World.cell?_alloc_at _ _ _ _ rfl)
  have hR : Rr (w.alloc (Obj.cells #[Value.int IntKind.u8 x.toNat] 5)) b s 0 := hc.made _
  have hG := grown_made w (Obj.cells #[Value.int IntKind.u8 x.toNat] 5) b
  have ha0 := hR.c0
  have ha1 := hR.c1
  have fa0 := hR.fr 0
  have fa1 := hR.fr 1
  have hsz : ¬ 9223372036854775807 < s.size + 1 := by omega
  have RS := Lib.hid (fun W => ref_read_of (s := s ++ ⟨#[x]⟩) (v := grow v n x) (n := n + 1) (st := 0) (a := 0) (c := 0) (d := 3) W (by rw [one_size]; omega) (by rw [one_more, run_snoc x _ _ _ _ _ h, hx]) rfl rfl rfl)
  clear h hx
  go_enter Try.func22, Try.ntmps22
  go_wp2_with (go_at_call 23; refine RD.out.mono ?_; rintro e' w' ⟨rfl, rfl⟩)
  go_region
  go_wp2_with fail
  refine (RS.out _).mono ?_
  rintro e' w' ⟨rfl, rfl⟩
  go_wp2_with fail
  go_ret2
  exact ⟨rfl, (hR.str _).drew, grown_drew (grown_then hG (block_kept _ _ _ _))⟩
set_option maxHeartbeats 1000000 in
theorem rr_push_last {w : World} {b v n : Nat} {s : ByteArray} (x : UInt8) (hc : Rr w b s 0) (hm : s.size ≤ 4) (h : run 0 0 s.data.toList = (v, n, 0)) (hx : nxt x (n + 1) = 1) :
    Calls Try.prog 22 #[.pointer (some ⟨b, 0, none⟩), .int .u8 x.toNat] w fun e' w' => e' = .returned (.tuple #[.bool true, .int .i64 0]) ∧ Rr w' b (s ++ ⟨#[x]⟩) 0 ∧ w.grownBy w' (some b) := by
  have h0 := hc.c0
  have h1 := hc.c1
  have f0 := hc.fr 0
  have RD := Lib.hid (rr_value_no hc (by omega) h (.inl rfl))
  have hcv := conv_one (w.alloc (Obj.cells #[Value.int IntKind.u8 x.toNat] 5)).drew w.heap.size x (World.cell?_alloc_at _ _ _ _ rfl)
  have hR : Rr (w.alloc (Obj.cells #[Value.int IntKind.u8 x.toNat] 5)) b s 0 := hc.made _
  have hG := grown_made w (Obj.cells #[Value.int IntKind.u8 x.toNat] 5) b
  have ha0 := hR.c0
  have ha1 := hR.c1
  have fa0 := hR.fr 0
  have fa1 := hR.fr 1
  have hsz : ¬ 9223372036854775807 < s.size + 1 := by omega
  have RS := Lib.hid (fun W => ref_read_of (s := s ++ ⟨#[x]⟩) (v := grow v n x) (n := n + 1) (st := 1) (a := (grow v n x : Nat)) (c := (n + 1 : Nat)) (d := 0) W (by rw [one_size]; omega) (by rw [one_more, run_snoc x _ _ _ _ _ h, hx]) rfl rfl rfl)
  clear h hx
  go_enter Try.func22, Try.ntmps22
  go_wp2_with (go_at_call 23; refine RD.out.mono ?_; rintro e' w' ⟨rfl, rfl⟩)
  go_region
  go_wp2_with fail
  refine (RS.out _).mono ?_
  rintro e' w' ⟨rfl, rfl⟩
  go_wp2_with fail
  go_ret2
  exact ⟨rfl, (hR.str _).drew, grown_drew (grown_then hG (block_kept _ _ _ _))⟩
set_option maxHeartbeats 1000000 in
theorem rr_push_bad {w : World} {b v n : Nat} {s : ByteArray} (x : UInt8) (hc : Rr w b s 0) (hm : s.size ≤ 4) (h : run 0 0 s.data.toList = (v, n, 0)) (hx : nxt x (n + 1) = 2) :
    Calls Try.prog 22 #[.pointer (some ⟨b, 0, none⟩), .int .u8 x.toNat] w fun e' w' => e' = .returned (.tuple #[.bool false, .int .i64 5]) ∧ Rr w' b (s ++ ⟨#[x]⟩) 5 ∧ w.grownBy w' (some b) := by
  have h0 := hc.c0
  have h1 := hc.c1
  have f0 := hc.fr 0
  have RD := Lib.hid (rr_value_no hc (by omega) h (.inl rfl))
  have hcv := conv_one (w.alloc (Obj.cells #[Value.int IntKind.u8 x.toNat] 5)).drew w.heap.size x (World.cell?_alloc_at _ _ _ _ rfl)
  have hR : Rr (w.alloc (Obj.cells #[Value.int IntKind.u8 x.toNat] 5)) b s 0 := hc.made _
  have hG := grown_made w (Obj.cells #[Value.int IntKind.u8 x.toNat] 5) b
  have ha0 := hR.c0
  have ha1 := hR.c1
  have fa0 := hR.fr 0
  have fa1 := hR.fr 1
  have hsz : ¬ 9223372036854775807 < s.size + 1 := by omega
  have RS := Lib.hid (fun W => ref_read_of (s := s ++ ⟨#[x]⟩) (v := grow v n x) (n := n + 1) (st := 2) (a := 0) (c := 0) (d := 5) W (by rw [one_size]; omega) (by rw [one_more, run_snoc x _ _ _ _ _ h, hx]) rfl rfl rfl)
  clear h hx
  go_enter Try.func22, Try.ntmps22
  go_wp2_with (go_at_call 23; refine RD.out.mono ?_; rintro e' w' ⟨rfl, rfl⟩)
  go_region
  go_wp2_with fail
  refine (RS.out _).mono ?_
  rintro e' w' ⟨rfl, rfl⟩
  go_wp2_with fail
  go_ret2
  exact ⟨rfl, ((hR.str _).err 5).drew, grown_drew (grown_then hG (grown_then (block_kept _ _ _ _) (block_kept _ _ _ _)))⟩
end Go.Proofs.Ytoaoabffgllbbaa
