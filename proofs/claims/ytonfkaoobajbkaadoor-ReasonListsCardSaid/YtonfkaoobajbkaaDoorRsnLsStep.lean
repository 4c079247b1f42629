/-
  The region of the first loop's round in polyglotlaw06.ReasonLists: at the first number, and at a later one. Condition: the numbers ascend.
-/
import Derived.Test.YtonfkaoobajbkaaDoorRegEnv
import Derived.Test.YtonfkaoobajbkaaDoorKit
namespace Go.Proofs.YtonfkaoobajbkaaDoor
open Go.RowKit

section
variable {a : Act} {w : World} {d : Option Tmp} {p : String} {af : Array Edge} {gd : Option (Nat × Bool)} {x y z : Tmp} {r : TypeId}
theorem ls_index {g n c k : Nat} (hx : a.eval (.tmp x) = .slice (some ⟨g, 0, none⟩) n c) (hy : a.eval (.tmp y) = .int .i64 (k : Int)) (hk : (k : Int) < (n : Int)) :
    (execOp a.eval { dst := d, op := .indexAddr 26 (.tmp x) (.tmp y), type := r, pos := p, after := af, guard := gd }).run Tryd.prog w = .ok (.value (.pointer (some ⟨g, k, none⟩))) w := by
  generalize a.eval = f at *
  go_simp
theorem ls_index0 {g n c : Nat} (hx : a.eval (.tmp x) = .slice (some ⟨g, 0, none⟩) n c) (hk : (0 : Int) < (n : Int)) :
    (execOp a.eval { dst := d, op := .indexAddr 26 (.tmp x) (.const (.int .i64 0)), type := r, pos := p, after := af, guard := gd }).run Tryd.prog w = .ok (.value (.pointer (some ⟨g, 0, none⟩))) w := by
  have h0 : a.eval (.const (.int .i64 0)) = .int .i64 0 := rfl
  have h1 : 0 < n := by omega
  generalize a.eval = f at *
  go_simp
theorem ls_indexz {g n c : Nat} (hx : a.eval (.tmp x) = .slice (some ⟨g, 0, none⟩) n c) (hy : a.eval (.tmp y) = .int .i64 0) (_hk : (0 : Int) < (n : Int)) (hk2 : 0 < n) :
    (execOp a.eval { dst := d, op := .indexAddr 26 (.tmp x) (.tmp y), type := r, pos := p, after := af, guard := gd }).run Tryd.prog w = .ok (.value (.pointer (some ⟨g, 0, none⟩))) w := by
  generalize a.eval = f at *
  go_simp
theorem ls_load {g j : Nat} {v : Int} (hx : a.eval (.tmp x) = .pointer (some ⟨g, j, none⟩)) (hc : w.cell? ⟨g, j, none⟩ = some (.int .i64 v)) :
    (execOp a.eval { dst := d, op := .load 3 (.tmp x), type := 3, pos := p, after := af, guard := gd }).run Tryd.prog w = .ok (.value (.int .i64 v)) w := by
  generalize a.eval = f at *
  go_simp
theorem ls_eqz {v : Int} {b : Bool} (hx : a.eval (.tmp x) = .int .i64 v) (hb : (v == 0) = b) :
    (execOp a.eval { dst := d, op := .binOp .eql 3 (.tmp x) (.const (.int .i64 0)) 3, type := r, pos := p, after := af, guard := gd }).run Tryd.prog w = .ok (.value (.bool b)) w := by
  have h0 : a.eval (.const (.int .i64 0)) = .int .i64 0 := rfl
  subst hb
  generalize a.eval = f at *
  go_simp
theorem ls_nez {v : Int} {b : Bool} (hx : a.eval (.tmp x) = .int .i64 v) (hb : (v != 0) = b) :
    (execOp a.eval { dst := d, op := .binOp .neq 3 (.tmp x) (.const (.int .i64 0)) 3, type := r, pos := p, after := af, guard := gd }).run Tryd.prog w = .ok (.value (.bool b)) w := by
  have h0 : a.eval (.const (.int .i64 0)) = .int .i64 0 := rfl
  subst hb
  generalize a.eval = f at *
  go_simp
theorem ls_gtz {v : Int} {b : Bool} (hx : a.eval (.tmp x) = .int .i64 v) (hb : (decide (0 < v)) = b) :
    (execOp a.eval { dst := d, op := .binOp .gtr 3 (.tmp x) (.const (.int .i64 0)) 3, type := r, pos := p, after := af, guard := gd }).run Tryd.prog w = .ok (.value (.bool b)) w := by
  have h0 : a.eval (.const (.int .i64 0)) = .int .i64 0 := rfl
  subst hb
  generalize a.eval = f at *
  go_simp
theorem ls_ltz {v : Int} {b : Bool} (hx : a.eval (.tmp x) = .int .i64 v) (hb : (decide (v < 0)) = b) :
    (execOp a.eval { dst := d, op := .binOp .lss 3 (.tmp x) (.const (.int .i64 0)) 3, type := r, pos := p, after := af, guard := gd }).run Tryd.prog w = .ok (.value (.bool b)) w := by
  have h0 : a.eval (.const (.int .i64 0)) = .int .i64 0 := rfl
  subst hb
  generalize a.eval = f at *
  go_simp
theorem ls_gt255 {v : Int} {b : Bool} (hx : a.eval (.tmp x) = .int .i64 v) (hb : (decide (255 < v)) = b) :
    (execOp a.eval { dst := d, op := .binOp .gtr 3 (.tmp x) (.const (.int .i64 255)) 3, type := r, pos := p, after := af, guard := gd }).run Tryd.prog w = .ok (.value (.bool b)) w := by
  have h0 : a.eval (.const (.int .i64 255)) = .int .i64 255 := rfl
  subst hb
  generalize a.eval = f at *
  go_simp
theorem ls_geq {v u : Int} {b : Bool} (hx : a.eval (.tmp x) = .int .i64 v) (hy : a.eval (.tmp y) = .int .i64 u) (hb : decide (u ≤ v) = b) :
    (execOp a.eval { dst := d, op := .binOp .geq 3 (.tmp x) (.tmp y) 3, type := r, pos := p, after := af, guard := gd }).run Tryd.prog w = .ok (.value (.bool b)) w := by
  subst hb
  generalize a.eval = f at *
  go_simp
theorem ls_sub {k : Nat} (hx : a.eval (.tmp x) = .int .i64 ((k + 1 : Nat) : Int)) (hk : (k : Int) ≤ 1000) :
    (execOp a.eval { dst := d, op := .binOp .sub 3 (.tmp x) (.const (.int .i64 1)) 3, type := r, pos := p, after := af, guard := gd }).run Tryd.prog w = .ok (.value (.int .i64 (k : Int))) w := by
  have h0 : a.eval (.const (.int .i64 1)) = .int .i64 1 := rfl
  have h1 : IntKind.i64.wrap (((k + 1 : Nat) : Int) - 1) = (k : Int) := by rw [show ((k + 1 : Nat) : Int) - 1 = (k : Int) by omega]; exact IntWalk.i64_in _ (by omega)
  generalize ((k + 1 : Nat) : Int) = u at *
  generalize a.eval = f at *
  go_simp
theorem ls_not {b : Bool} (hx : a.eval (.tmp x) = .bool b) :
    (execOp a.eval { dst := d, op := .unOp .not 4 (.tmp x), type := r, pos := p, after := af, guard := gd }).run Tryd.prog w = .ok (.value (.bool !b)) w := by
  generalize a.eval = f at *
  go_simp
theorem ls_qu {s : ByteArray} (hx : a.eval (.tmp x) = .string s) (hs : (s.toList == [63]) = false) :
    (execOp a.eval { dst := d, op := .binOp .eql 9 (.tmp x) (.const (.string ⟨#[63]⟩)) 9, type := r, pos := p, after := af, guard := gd }).run Tryd.prog w = .ok (.value (.bool false)) w := by
  have h0 : a.eval (.const (.string ⟨#[63]⟩)) = .string ⟨#[63]⟩ := rfl
  have h1 : (⟨#[63]⟩ : ByteArray).toList = [63] := by rw [toList_data]
  generalize a.eval = f at *
  go_simp
theorem re_reason_May {ts : Array TypeId} {u v : Value} (hx : a.eval (.tmp x) = u) (hy : a.eval (.tmp y) = v) :
    (execOp a.eval { dst := d, op := .call { callee := .value (.func 12), args := #[.tmp x, .tmp y], argTypes := ts }, type := r, pos := p, after := af, guard := gd }).run Tryd.prog w = .ok (.enter 12 #[u, v]) w := by
  have hf : a.eval (.func 12) = .func (.func 12) #[] #[] := rfl
  generalize a.eval = f at *
  go_simp
theorem re_reason_Text {ts : Array TypeId} {u : Value} (hx : a.eval (.tmp x) = u) :
    (execOp a.eval { dst := d, op := .call { callee := .value (.func 16), args := #[.tmp x], argTypes := ts }, type := r, pos := p, after := af, guard := gd }).run Tryd.prog w = .ok (.enter 16 #[u]) w := by
  have hf : a.eval (.func 16) = .func (.func 16) #[] #[] := rfl
  generalize a.eval = f at *
  go_simp
end
set_option maxRecDepth 100000 in
set_option maxHeartbeats 4000000 in
theorem ls_first {Q : Exit → Act → World → Prop} {S : World → Prop} {W : World} {g n c : Nat} {kind : Int} {s : ByteArray} {x1 x2 x3 x4 x5 x6 x8 x10 x11 x12 x13 x14 x15 x16 x17 x18 x19 x20 x21 x22 x23 x24 x25 x26 x27 x28 x29 x30 x31 x32 x33 x34 x35 x36 x37 x38 x39 x40 x41 x42 x43 x44 x45 x46 x47 x48 x49 x50 x51 x52 x53 x54 x55 x56 x57 x58 x59 x60 x61 x62 x63 x64 x65 x66 x67 x68 x69 x70 x71 x72 x73 x74 x75 x76 x77 x78 x79 x80 x81 x82 x83 x84 x85 x86 x87 x88 x89 x90 x91 x92 x93 x94 x95 x96 x97 x98 x99 x100 x101 x102 x103 x104 x105 x106 x107 x108 x109 x110 x111 x112 x113 x114 x115 x116 x117 x118 x119 x120 x121 : Value}
    (hS : S W.drew) (hq : (s.toList == [63]) = false) (hn : (0 : Int) < (n : Int)) (hn2 : 0 < n) (CX : ∀ w, S w → w.cell? ⟨g, 0, none⟩ = some (.int .i64 0))
    (MA : ∀ w, S w → Calls Tryd.prog 12 #[(.int .i64 kind), (.int .i64 0)] w fun e w' => e = .returned (.bool true) ∧ S w')
    (TX : ∀ w, S w → Calls Tryd.prog 16 #[(.int .i64 0)] w fun e w' => e = .returned (.string s) ∧ S w')
    (fin : ∀ w, S w → Q .normal ⟨#[(.int .i64 kind), x1, x2, x3, x4, x5, x6, (.slice (some ⟨g, 0, none⟩) n c), x8, (.int .i64 0), x10, x11, x12, x13, x14, x15, x16, x17, x18, x19, x20, x21, (.int .i64 0), (.bool true), (.bool true), (.slice (some ⟨g, 0, none⟩) n c), (.pointer (some ⟨g, 0, none⟩)), (.int .i64 0), (.bool false), (.bool false), (.bool false), (.int .i64 0), (.bool false), (.bool false), undef, undef, undef, undef, undef, undef, undef, undef, undef, undef, (.bool false), (.bool false), (.bool false), (.slice (some ⟨g, 0, none⟩) n c), (.int .i64 0), (.pointer (some ⟨g, 0, none⟩)), (.int .i64 0), (.bool false), (.bool false), (.bool false), (.slice (some ⟨g, 0, none⟩) n c), (.int .i64 0), (.pointer (some ⟨g, 0, none⟩)), (.int .i64 0), (.bool false), (.bool false), (.bool false), (.int .i64 kind), (.slice (some ⟨g, 0, none⟩) n c), (.int .i64 0), (.pointer (some ⟨g, 0, none⟩)), (.int .i64 0), (.bool true), (.bool false), (.bool false), (.bool false), (.slice (some ⟨g, 0, none⟩) n c), (.int .i64 0), (.pointer (some ⟨g, 0, none⟩)), (.int .i64 0), (.string s), (.bool false), (.bool false), x77, x78, x79, x80, x81, x82, x83, x84, x85, x86, x87, x88, x89, x90, x91, x92, x93, x94, x95, x96, x97, x98, x99, x100, x101, x102, x103, x104, x105, x106, x107, x108, x109, x110, x111, x112, x113, x114, x115, x116, x117, x118, x119, x120, x121], []⟩ w) :
    (Code.region 8 (RegEnv.opsAt 8 Tryd.f6.body) true).wp Tryd.prog Q ⟨#[(.int .i64 kind), x1, x2, x3, x4, x5, x6, (.slice (some ⟨g, 0, none⟩) n c), x8, (.int .i64 0), x10, x11, x12, x13, x14, x15, x16, x17, x18, x19, x20, x21, x22, x23, x24, x25, x26, x27, x28, x29, x30, x31, x32, x33, x34, x35, x36, x37, x38, x39, x40, x41, x42, x43, x44, x45, x46, x47, x48, x49, x50, x51, x52, x53, x54, x55, x56, x57, x58, x59, x60, x61, x62, x63, x64, x65, x66, x67, x68, x69, x70, x71, x72, x73, x74, x75, x76, x77, x78, x79, x80, x81, x82, x83, x84, x85, x86, x87, x88, x89, x90, x91, x92, x93, x94, x95, x96, x97, x98, x99, x100, x101, x102, x103, x104, x105, x106, x107, x108, x109, x110, x111, x112, x113, x114, x115, x116, x117, x118, x119, x120, x121], []⟩ W := by
  refine RegEnv.wp_in (ds := [22, 23, 24, 25, 26, 27, 28, 29, 30, 31, 32, 33, 34, 35, 36, 37, 38, 39, 40, 41, 42, 43, 44, 45, 46, 47, 48, 49, 50, 51, 52, 53, 54, 55, 56, 57, 58, 59, 60, 61, 62, 63, 64, 65, 66, 67, 68, 69, 70, 71, 72, 73, 74, 75, 76]) (A := [(.int .i64 kind), x1, x2, x3, x4, x5, x6, (.slice (some ⟨g, 0, none⟩) n c), x8, (.int .i64 0), x10, x11, x12, x13, x14, x15, x16, x17, x18, x19, x20, x21, x22, x23, x24, x25, x26, x27, x28, x29, x30, x31, x32, x33, x34, x35, x36, x37, x38, x39, x40, x41, x42, x43, x44, x45, x46, x47, x48, x49, x50, x51, x52, x53, x54, x55, x56, x57, x58, x59, x60, x61, x62, x63, x64, x65, x66, x67, x68, x69, x70, x71, x72, x73, x74, x75, x76, x77, x78, x79, x80, x81, x82, x83, x84, x85, x86, x87, x88, x89, x90, x91, x92, x93, x94, x95, x96, x97, x98, x99, x100, x101, x102, x103, x104, x105, x106, x107, x108, x109, x110, x111, x112, x113, x114, x115, x116, x117, x118, x119, x120, x121]) (B := [(.int .i64 kind), x1, x2, x3, x4, x5, x6, (.slice (some ⟨g, 0, none⟩) n c), x8, (.int .i64 0), x10, x11, x12, x13, x14, x15, x16, x17, x18, x19, x20, x21, (.int .i64 0), (.bool true), (.bool true), (.slice (some ⟨g, 0, none⟩) n c), (.pointer (some ⟨g, 0, none⟩)), (.int .i64 0), (.bool false), (.bool false), (.bool false), (.int .i64 0), (.bool false), (.bool false), undef, undef, undef, undef, undef, undef, undef, undef, undef, undef, (.bool false), (.bool false), (.bool false), (.slice (some ⟨g, 0, none⟩) n c), (.int .i64 0), (.pointer (some ⟨g, 0, none⟩)), (.int .i64 0), (.bool false), (.bool false), (.bool false), (.slice (some ⟨g, 0, none⟩) n c), (.int .i64 0), (.pointer (some ⟨g, 0, none⟩)), (.int .i64 0), (.bool false), (.bool false), (.bool false), (.int .i64 kind), (.slice (some ⟨g, 0, none⟩) n c), (.int .i64 0), (.pointer (some ⟨g, 0, none⟩)), (.int .i64 0), (.bool true), (.bool false), (.bool false), (.bool false), (.slice (some ⟨g, 0, none⟩) n c), (.int .i64 0), (.pointer (some ⟨g, 0, none⟩)), (.int .i64 0), (.string s), (.bool false), (.bool false), x77, x78, x79, x80, x81, x82, x83, x84, x85, x86, x87, x88, x89, x90, x91, x92, x93, x94, x95, x96, x97, x98, x99, x100, x101, x102, x103, x104, x105, x106, x107, x108, x109, x110, x111, x112, x113, x114, x115, x116, x117, x118, x119, x120, x121]) (D := []) (by kernel_rfl) (by kernel_rfl) (by kernel_rfl) ?_ hS ?_ fin
  · exact ⟨.inr rfl, ⟨.inr rfl, ⟨.inr rfl, ⟨.inr rfl, ⟨.inr rfl, ⟨.inr rfl, ⟨.inr rfl, ⟨.inr rfl, ⟨.inr rfl, ⟨.inr rfl, ⟨.inr rfl, ⟨.inr rfl, ⟨.inr rfl, ⟨.inr rfl, ⟨.inr rfl, ⟨.inr rfl, ⟨.inr rfl, ⟨.inr rfl, ⟨.inr rfl, ⟨.inr rfl, ⟨.inr rfl, ⟨.inr rfl, ⟨.inl rfl, ⟨.inl rfl, ⟨.inl rfl, ⟨.inl rfl, ⟨.inl rfl, ⟨.inl rfl, ⟨.inl rfl, ⟨.inl rfl, ⟨.inl rfl, ⟨.inl rfl, ⟨.inl rfl, ⟨.inl rfl, ⟨.inl rfl, ⟨.inl rfl, ⟨.inl rfl, ⟨.inl rfl, ⟨.inl rfl, ⟨.inl rfl, ⟨.inl rfl, ⟨.inl rfl, ⟨.inl rfl, ⟨.inl rfl, ⟨.inl rfl, ⟨.inl rfl, ⟨.inl rfl, ⟨.inl rfl, ⟨.inl rfl, ⟨.inl rfl, ⟨.inl rfl, ⟨.inl rfl, ⟨.inl rfl, ⟨.inl rfl, ⟨.inl rfl, ⟨.inl rfl, ⟨.inl rfl, ⟨.inl rfl, ⟨.inl rfl, ⟨.inl rfl, ⟨.inl rfl, ⟨.inl rfl, ⟨.inl rfl, ⟨.inl rfl, ⟨.inl rfl, ⟨.inl rfl, ⟨.inl rfl, ⟨.inl rfl, ⟨.inl rfl, ⟨.inl rfl, ⟨.inl rfl, ⟨.inl rfl, ⟨.inl rfl, ⟨.inl rfl, ⟨.inl rfl, ⟨.inl rfl, ⟨.inl rfl, ⟨.inr rfl, ⟨.inr rfl, ⟨.inr rfl, ⟨.inr rfl, ⟨.inr rfl, ⟨.inr rfl, ⟨.inr rfl, ⟨.inr rfl, ⟨.inr rfl, ⟨.inr rfl, ⟨.inr rfl, ⟨.inr rfl, ⟨.inr rfl, ⟨.inr rfl, ⟨.inr rfl, ⟨.inr rfl, ⟨.inr rfl, ⟨.inr rfl, ⟨.inr rfl, ⟨.inr rfl, ⟨.inr rfl, ⟨.inr rfl, ⟨.inr rfl, ⟨.inr rfl, ⟨.inr rfl, ⟨.inr rfl, ⟨.inr rfl, ⟨.inr rfl, ⟨.inr rfl, ⟨.inr rfl, ⟨.inr rfl, ⟨.inr rfl, ⟨.inr rfl, ⟨.inr rfl, ⟨.inr rfl, ⟨.inr rfl, ⟨.inr rfl, ⟨.inr rfl, ⟨.inr rfl, ⟨.inr rfl, ⟨.inr rfl, ⟨.inr rfl, ⟨.inr rfl, ⟨.inr rfl, ⟨.inr rfl, trivial⟩⟩⟩⟩⟩⟩⟩⟩⟩⟩⟩⟩⟩⟩⟩⟩⟩⟩⟩⟩⟩⟩⟩⟩⟩⟩⟩⟩⟩⟩⟩⟩⟩⟩⟩⟩⟩⟩⟩⟩⟩⟩⟩⟩⟩⟩⟩⟩⟩⟩⟩⟩⟩⟩⟩⟩⟩⟩⟩⟩⟩⟩⟩⟩⟩⟩⟩⟩⟩⟩⟩⟩⟩⟩⟩⟩⟩⟩⟩⟩⟩⟩⟩⟩⟩⟩⟩⟩⟩⟩⟩⟩⟩⟩⟩⟩⟩⟩⟩⟩⟩⟩⟩⟩⟩⟩⟩⟩⟩⟩⟩⟩⟩⟩⟩⟩⟩⟩⟩⟩⟩⟩
  refine RegEnv.All.step rfl (RegEnv.Does.pure rfl rfl rfl (fun w hS => rfl)) ?_
  refine RegEnv.All.step rfl (RegEnv.Does.pure rfl rfl rfl (fun w hS => ls_eqz rfl rfl)) ?_
  refine RegEnv.All.step rfl (RegEnv.Does.pure rfl rfl rfl (fun w hS => rfl)) ?_
  refine RegEnv.All.step rfl (RegEnv.Does.pure rfl rfl rfl (fun w hS => rfl)) ?_
  refine RegEnv.All.step rfl (RegEnv.Does.pure rfl rfl rfl (fun w hS => ls_index0 rfl hn)) ?_
  refine RegEnv.All.step rfl (RegEnv.Does.pure rfl rfl rfl (fun w hS => ls_load rfl (CX w hS))) ?_
  refine RegEnv.All.step rfl (RegEnv.Does.pure rfl rfl rfl (fun w hS => ls_nez rfl rfl)) ?_
  refine RegEnv.All.step rfl (RegEnv.Does.pure rfl rfl rfl (fun w hS => rfl)) ?_
  refine RegEnv.All.step rfl (RegEnv.Does.pure rfl rfl rfl (fun w hS => rfl)) ?_
  refine RegEnv.All.step rfl (RegEnv.Does.pure rfl rfl rfl (fun w hS => rfl)) ?_
  refine RegEnv.All.step rfl (RegEnv.Does.pure rfl rfl rfl (fun w hS => ls_gtz rfl rfl)) ?_
  refine RegEnv.All.step rfl (RegEnv.Does.pure rfl rfl rfl (fun w hS => rfl)) ?_
  refine RegEnv.All.step rfl (RegEnv.Does.skip rfl rfl rfl) ?_
  refine RegEnv.All.step rfl (RegEnv.Does.skip rfl rfl rfl) ?_
  refine RegEnv.All.step rfl (RegEnv.Does.skip rfl rfl rfl) ?_
  refine RegEnv.All.step rfl (RegEnv.Does.skip rfl rfl rfl) ?_
  refine RegEnv.All.step rfl (RegEnv.Does.skip rfl rfl rfl) ?_
  refine RegEnv.All.step rfl (RegEnv.Does.skip rfl rfl rfl) ?_
  refine RegEnv.All.step rfl (RegEnv.Does.skip rfl rfl rfl) ?_
  refine RegEnv.All.step rfl (RegEnv.Does.skip rfl rfl rfl) ?_
  refine RegEnv.All.step rfl (RegEnv.Does.skip rfl rfl rfl) ?_
  refine RegEnv.All.step rfl (RegEnv.Does.skip rfl rfl rfl) ?_
  refine RegEnv.All.step rfl (RegEnv.Does.pure rfl rfl rfl (fun w hS => rfl)) ?_
  refine RegEnv.All.step rfl (RegEnv.Does.pure rfl rfl rfl (fun w hS => rfl)) ?_
  refine RegEnv.All.step rfl (RegEnv.Does.pure rfl rfl rfl (fun w hS => rfl)) ?_
  refine RegEnv.All.step rfl (RegEnv.Does.pure rfl rfl rfl (fun w hS => rfl)) ?_
  refine RegEnv.All.step rfl (RegEnv.Does.pure rfl rfl rfl (fun w hS => rfl)) ?_
  refine RegEnv.All.step rfl (RegEnv.Does.pure rfl rfl rfl (fun w hS => ls_indexz rfl rfl hn hn2)) ?_
  refine RegEnv.All.step rfl (RegEnv.Does.pure rfl rfl rfl (fun w hS => ls_load rfl (CX w hS))) ?_
  refine RegEnv.All.step rfl (RegEnv.Does.pure rfl rfl rfl (fun w hS => ls_ltz rfl rfl)) ?_
  refine RegEnv.All.step rfl (RegEnv.Does.pure rfl rfl rfl (fun w hS => rfl)) ?_
  refine RegEnv.All.step rfl (RegEnv.Does.pure rfl rfl rfl (fun w hS => rfl)) ?_
  refine RegEnv.All.step rfl (RegEnv.Does.pure rfl rfl rfl (fun w hS => rfl)) ?_
  refine RegEnv.All.step rfl (RegEnv.Does.pure rfl rfl rfl (fun w hS => rfl)) ?_
  refine RegEnv.All.step rfl (RegEnv.Does.pure rfl rfl rfl (fun w hS => ls_indexz rfl rfl hn hn2)) ?_
  refine RegEnv.All.step rfl (RegEnv.Does.pure rfl rfl rfl (fun w hS => ls_load rfl (CX w hS))) ?_
  refine RegEnv.All.step rfl (RegEnv.Does.pure rfl rfl rfl (fun w hS => ls_gt255 rfl rfl)) ?_
  refine RegEnv.All.step rfl (RegEnv.Does.pure rfl rfl rfl (fun w hS => rfl)) ?_
  refine RegEnv.All.step rfl (RegEnv.Does.pure rfl rfl rfl (fun w hS => rfl)) ?_
  refine RegEnv.All.step rfl (RegEnv.Does.pure rfl rfl rfl (fun w hS => rfl)) ?_
  refine RegEnv.All.step rfl (RegEnv.Does.pure rfl rfl rfl (fun w hS => rfl)) ?_
  refine RegEnv.All.step rfl (RegEnv.Does.pure rfl rfl rfl (fun w hS => rfl)) ?_
  refine RegEnv.All.step rfl (RegEnv.Does.pure rfl rfl rfl (fun w hS => ls_indexz rfl rfl hn hn2)) ?_
  refine RegEnv.All.step rfl (RegEnv.Does.pure rfl rfl rfl (fun w hS => ls_load rfl (CX w hS))) ?_
  refine RegEnv.All.step rfl (RegEnv.Does.call rfl rfl rfl (fun w => re_reason_May rfl rfl) MA) ?_
  refine RegEnv.All.step rfl (RegEnv.Does.pure rfl rfl rfl (fun w hS => ls_not (b := true) rfl)) ?_
  refine RegEnv.All.step rfl (RegEnv.Does.pure rfl rfl rfl (fun w hS => rfl)) ?_
  refine RegEnv.All.step rfl (RegEnv.Does.pure rfl rfl rfl (fun w hS => rfl)) ?_
  refine RegEnv.All.step rfl (RegEnv.Does.pure rfl rfl rfl (fun w hS => rfl)) ?_
  refine RegEnv.All.step rfl (RegEnv.Does.pure rfl rfl rfl (fun w hS => rfl)) ?_
  refine RegEnv.All.step rfl (RegEnv.Does.pure rfl rfl rfl (fun w hS => ls_indexz rfl rfl hn hn2)) ?_
  refine RegEnv.All.step rfl (RegEnv.Does.pure rfl rfl rfl (fun w hS => ls_load rfl (CX w hS))) ?_
  refine RegEnv.All.step rfl (RegEnv.Does.call rfl rfl rfl (fun w => re_reason_Text rfl) TX) ?_
  refine RegEnv.All.step rfl (RegEnv.Does.pure rfl rfl rfl (fun w hS => ls_qu rfl hq)) ?_
  refine RegEnv.All.step rfl (RegEnv.Does.pure rfl rfl rfl (fun w hS => rfl)) ?_
  exact RegEnv.All.fin rfl
set_option maxRecDepth 100000 in
set_option maxHeartbeats 4000000 in
theorem ls_next {Q : Exit → Act → World → Prop} {S : World → Prop} {W : World} {g n c k xp xn : Nat} {kind : Int} {s : ByteArray} {x1 x2 x3 x4 x5 x6 x8 x10 x11 x12 x13 x14 x15 x16 x17 x18 x19 x20 x21 x22 x23 x24 x25 x26 x27 x28 x29 x30 x31 x32 x33 x34 x35 x36 x37 x38 x39 x40 x41 x42 x43 x44 x45 x46 x47 x48 x49 x50 x51 x52 x53 x54 x55 x56 x57 x58 x59 x60 x61 x62 x63 x64 x65 x66 x67 x68 x69 x70 x71 x72 x73 x74 x75 x76 x77 x78 x79 x80 x81 x82 x83 x84 x85 x86 x87 x88 x89 x90 x91 x92 x93 x94 x95 x96 x97 x98 x99 x100 x101 x102 x103 x104 x105 x106 x107 x108 x109 x110 x111 x112 x113 x114 x115 x116 x117 x118 x119 x120 x121 : Value}
    (hS : S W.drew) (hq : (s.toList == [63]) = false) (hk0 : (k : Int) < (n : Int)) (hk1 : ((k + 1 : Nat) : Int) < (n : Int)) (hk9 : (k : Int) ≤ 1000) (hz : (((k + 1 : Nat) : Int) == 0) = false) (hgt : decide (0 < ((k + 1 : Nat) : Int)) = true) (hlt : decide ((xn : Int) < 0) = false) (h255 : decide (255 < (xn : Int)) = false) (hge : decide ((xn : Int) ≤ (xp : Int)) = false)
    (CP : ∀ w, S w → w.cell? ⟨g, k, none⟩ = some (.int .i64 (xp : Int))) (CX : ∀ w, S w → w.cell? ⟨g, k + 1, none⟩ = some (.int .i64 (xn : Int)))
    (MA : ∀ w, S w → Calls Tryd.prog 12 #[(.int .i64 kind), (.int .i64 (xn : Int))] w fun e w' => e = .returned (.bool true) ∧ S w')
    (TX : ∀ w, S w → Calls Tryd.prog 16 #[(.int .i64 (xn : Int))] w fun e w' => e = .returned (.string s) ∧ S w')
    (fin : ∀ w, S w → Q .normal ⟨#[(.int .i64 kind), x1, x2, x3, x4, x5, x6, (.slice (some ⟨g, 0, none⟩) n c), x8, (.int .i64 ((k + 1 : Nat) : Int)), x10, x11, x12, x13, x14, x15, x16, x17, x18, x19, x20, x21, (.int .i64 ((k + 1 : Nat) : Int)), (.bool false), (.bool false), undef, undef, undef, undef, (.bool false), (.bool false), (.int .i64 ((k + 1 : Nat) : Int)), (.bool true), (.bool true), (.slice (some ⟨g, 0, none⟩) n c), (.int .i64 ((k + 1 : Nat) : Int)), (.int .i64 (k : Int)), (.pointer (some ⟨g, k, none⟩)), (.int .i64 (xp : Int)), (.slice (some ⟨g, 0, none⟩) n c), (.int .i64 ((k + 1 : Nat) : Int)), (.pointer (some ⟨g, k + 1, none⟩)), (.int .i64 (xn : Int)), (.bool false), (.bool false), (.bool false), (.bool false), (.slice (some ⟨g, 0, none⟩) n c), (.int .i64 ((k + 1 : Nat) : Int)), (.pointer (some ⟨g, k + 1, none⟩)), (.int .i64 (xn : Int)), (.bool false), (.bool false), (.bool false), (.slice (some ⟨g, 0, none⟩) n c), (.int .i64 ((k + 1 : Nat) : Int)), (.pointer (some ⟨g, k + 1, none⟩)), (.int .i64 (xn : Int)), (.bool false), (.bool false), (.bool false), (.int .i64 kind), (.slice (some ⟨g, 0, none⟩) n c), (.int .i64 ((k + 1 : Nat) : Int)), (.pointer (some ⟨g, k + 1, none⟩)), (.int .i64 (xn : Int)), (.bool true), (.bool false), (.bool false), (.bool false), (.slice (some ⟨g, 0, none⟩) n c), (.int .i64 ((k + 1 : Nat) : Int)), (.pointer (some ⟨g, k + 1, none⟩)), (.int .i64 (xn : Int)), (.string s), (.bool false), (.bool false), x77, x78, x79, x80, x81, x82, x83, x84, x85, x86, x87, x88, x89, x90, x91, x92, x93, x94, x95, x96, x97, x98, x99, x100, x101, x102, x103, x104, x105, x106, x107, x108, x109, x110, x111, x112, x113, x114, x115, x116, x117, x118, x119, x120, x121], []⟩ w) :
    (Code.region 8 (RegEnv.opsAt 8 Tryd.f6.body) true).wp Tryd.prog Q ⟨#[(.int .i64 kind), x1, x2, x3, x4, x5, x6, (.slice (some ⟨g, 0, none⟩) n c), x8, (.int .i64 ((k + 1 : Nat) : Int)), x10, x11, x12, x13, x14, x15, x16, x17, x18, x19, x20, x21, x22, x23, x24, x25, x26, x27, x28, x29, x30, x31, x32, x33, x34, x35, x36, x37, x38, x39, x40, x41, x42, x43, x44, x45, x46, x47, x48, x49, x50, x51, x52, x53, x54, x55, x56, x57, x58, x59, x60, x61, x62, x63, x64, x65, x66, x67, x68, x69, x70, x71, x72, x73, x74, x75, x76, x77, x78, x79, x80, x81, x82, x83, x84, x85, x86, x87, x88, x89, x90, x91, x92, x93, x94, x95, x96, x97, x98, x99, x100, x101, x102, x103, x104, x105, x106, x107, x108, x109, x110, x111, x112, x113, x114, x115, x116, x117, x118, x119, x120, x121], []⟩ W := by
  refine RegEnv.wp_in (ds := [22, 23, 24, 25, 26, 27, 28, 29, 30, 31, 32, 33, 34, 35, 36, 37, 38, 39, 40, 41, 42, 43, 44, 45, 46, 47, 48, 49, 50, 51, 52, 53, 54, 55, 56, 57, 58, 59, 60, 61, 62, 63, 64, 65, 66, 67, 68, 69, 70, 71, 72, 73, 74, 75, 76]) (A := [(.int .i64 kind), x1, x2, x3, x4, x5, x6, (.slice (some ⟨g, 0, none⟩) n c), x8, (.int .i64 ((k + 1 : Nat) : Int)), x10, x11, x12, x13, x14, x15, x16, x17, x18, x19, x20, x21, x22, x23, x24, x25, x26, x27, x28, x29, x30, x31, x32, x33, x34, x35, x36, x37, x38, x39, x40, x41, x42, x43, x44, x45, x46, x47, x48, x49, x50, x51, x52, x53, x54, x55, x56, x57, x58, x59, x60, x61, x62, x63, x64, x65, x66, x67, x68, x69, x70, x71, x72, x73, x74, x75, x76, x77, x78, x79, x80, x81, x82, x83, x84, x85, x86, x87, x88, x89, x90, x91, x92, x93, x94, x95, x96, x97, x98, x99, x100, x101, x102, x103, x104, x105, x106, x107, x108, x109, x110, x111, x112, x113, x114, x115, x116, x117, x118, x119, x120, x121]) (B := [(.int .i64 kind), x1, x2, x3, x4, x5, x6, (.slice (some ⟨g, 0, none⟩) n c), x8, (.int .i64 ((k + 1 : Nat) : Int)), x10, x11, x12, x13, x14, x15, x16, x17, x18, x19, x20, x21, (.int .i64 ((k + 1 : Nat) : Int)), (.bool false), (.bool false), undef, undef, undef, undef, (.bool false), (.bool false), (.int .i64 ((k + 1 : Nat) : Int)), (.bool true), (.bool true), (.slice (some ⟨g, 0, none⟩) n c), (.int .i64 ((k + 1 : Nat) : Int)), (.int .i64 (k : Int)), (.pointer (some ⟨g, k, none⟩)), (.int .i64 (xp : Int)), (.slice (some ⟨g, 0, none⟩) n c), (.int .i64 ((k + 1 : Nat) : Int)), (.pointer (some ⟨g, k + 1, none⟩)), (.int .i64 (xn : Int)), (.bool false), (.bool false), (.bool false), (.bool false), (.slice (some ⟨g, 0, none⟩) n c), (.int .i64 ((k + 1 : Nat) : Int)), (.pointer (some ⟨g, k + 1, none⟩)), (.int .i64 (xn : Int)), (.bool false), (.bool false), (.bool false), (.slice (some ⟨g, 0, none⟩) n c), (.int .i64 ((k + 1 : Nat) : Int)), (.pointer (some ⟨g, k + 1, none⟩)), (.int .i64 (xn : Int)), (.bool false), (.bool false), (.bool false), (.int .i64 kind), (.slice (some ⟨g, 0, none⟩) n c), (.int .i64 ((k + 1 : Nat) : Int)), (.pointer (some ⟨g, k + 1, none⟩)), (.int .i64 (xn : Int)), (.bool true), (.bool false), (.bool false), (.bool false), (.slice (some ⟨g, 0, none⟩) n c), (.int .i64 ((k + 1 : Nat) : Int)), (.pointer (some ⟨g, k + 1, none⟩)), (.int .i64 (xn : Int)), (.string s), (.bool false), (.bool false), x77, x78, x79, x80, x81, x82, x83, x84, x85, x86, x87, x88, x89, x90, x91, x92, x93, x94, x95, x96, x97, x98, x99, x100, x101, x102, x103, x104, x105, x106, x107, x108, x109, x110, x111, x112, x113, x114, x115, x116, x117, x118, x119, x120, x121]) (D := []) (by kernel_rfl) (by kernel_rfl) (by kernel_rfl) ?_ hS ?_ fin
  · exact ⟨.inr rfl, ⟨.inr rfl, ⟨.inr rfl, ⟨.inr rfl, ⟨.inr rfl, ⟨.inr rfl, ⟨.inr rfl, ⟨.inr rfl, ⟨.inr rfl, ⟨.inr rfl, ⟨.inr rfl, ⟨.inr rfl, ⟨.inr rfl, ⟨.inr rfl, ⟨.inr rfl, ⟨.inr rfl, ⟨.inr rfl, ⟨.inr rfl, ⟨.inr rfl, ⟨.inr rfl, ⟨.inr rfl, ⟨.inr rfl, ⟨.inl rfl, ⟨.inl rfl, ⟨.inl rfl, ⟨.inl rfl, ⟨.inl rfl, ⟨.inl rfl, ⟨.inl rfl, ⟨.inl rfl, ⟨.inl rfl, ⟨.inl rfl, ⟨.inl rfl, ⟨.inl rfl, ⟨.inl rfl, ⟨.inl rfl, ⟨.inl rfl, ⟨.inl rfl, ⟨.inl rfl, ⟨.inl rfl, ⟨.inl rfl, ⟨.inl rfl, ⟨.inl rfl, ⟨.inl rfl, ⟨.inl rfl, ⟨.inl rfl, ⟨.inl rfl, ⟨.inl rfl, ⟨.inl rfl, ⟨.inl rfl, ⟨.inl rfl, ⟨.inl rfl, ⟨.inl rfl, ⟨.inl rfl, ⟨.inl rfl, ⟨.inl rfl, ⟨.inl rfl, ⟨.inl rfl, ⟨.inl rfl, ⟨.inl rfl, ⟨.inl rfl, ⟨.inl rfl, ⟨.inl rfl, ⟨.inl rfl, ⟨.inl rfl, ⟨.inl rfl, ⟨.inl rfl, ⟨.inl rfl, ⟨.inl rfl, ⟨.inl rfl, ⟨.inl rfl, ⟨.inl rfl, ⟨.inl rfl, ⟨.inl rfl, ⟨.inl rfl, ⟨.inl rfl, ⟨.inl rfl, ⟨.inr rfl, ⟨.inr rfl, ⟨.inr rfl, ⟨.inr rfl, ⟨.inr rfl, ⟨.inr rfl, ⟨.inr rfl, ⟨.inr rfl, ⟨.inr rfl, ⟨.inr rfl, ⟨.inr rfl, ⟨.inr rfl, ⟨.inr rfl, ⟨.inr rfl, ⟨.inr rfl, ⟨.inr rfl, ⟨.inr rfl, ⟨.inr rfl, ⟨.inr rfl, ⟨.inr rfl, ⟨.inr rfl, ⟨.inr rfl, ⟨.inr rfl, ⟨.inr rfl, ⟨.inr rfl, ⟨.inr rfl, ⟨.inr rfl, ⟨.inr rfl, ⟨.inr rfl, ⟨.inr rfl, ⟨.inr rfl, ⟨.inr rfl, ⟨.inr rfl, ⟨.inr rfl, ⟨.inr rfl, ⟨.inr rfl, ⟨.inr rfl, ⟨.inr rfl, ⟨.inr rfl, ⟨.inr rfl, ⟨.inr rfl, ⟨.inr rfl, ⟨.inr rfl, ⟨.inr rfl, ⟨.inr rfl, trivial⟩⟩⟩⟩⟩⟩⟩⟩⟩⟩⟩⟩⟩⟩⟩⟩⟩⟩⟩⟩⟩⟩⟩⟩⟩⟩⟩⟩⟩⟩⟩⟩⟩⟩⟩⟩⟩⟩⟩⟩⟩⟩⟩⟩⟩⟩⟩⟩⟩⟩⟩⟩⟩⟩⟩⟩⟩⟩⟩⟩⟩⟩⟩⟩⟩⟩⟩⟩⟩⟩⟩⟩⟩⟩⟩⟩⟩⟩⟩⟩⟩⟩⟩⟩⟩⟩⟩⟩⟩⟩⟩⟩⟩⟩⟩⟩⟩⟩⟩⟩⟩⟩⟩⟩⟩⟩⟩⟩⟩⟩⟩⟩⟩⟩⟩⟩⟩⟩⟩⟩⟩⟩
  refine RegEnv.All.step rfl (RegEnv.Does.pure rfl rfl rfl (fun w hS => rfl)) ?_
  refine RegEnv.All.step rfl (RegEnv.Does.pure rfl rfl rfl (fun w hS => ls_eqz rfl hz)) ?_
  refine RegEnv.All.step rfl (RegEnv.Does.pure rfl rfl rfl (fun w hS => rfl)) ?_
  refine RegEnv.All.step rfl (RegEnv.Does.skip rfl rfl rfl) ?_
  refine RegEnv.All.step rfl (RegEnv.Does.skip rfl rfl rfl) ?_
  refine RegEnv.All.step rfl (RegEnv.Does.skip rfl rfl rfl) ?_
  refine RegEnv.All.step rfl (RegEnv.Does.skip rfl rfl rfl) ?_
  refine RegEnv.All.step rfl (RegEnv.Does.pure rfl rfl rfl (fun w hS => rfl)) ?_
  refine RegEnv.All.step rfl (RegEnv.Does.pure rfl rfl rfl (fun w hS => rfl)) ?_
  refine RegEnv.All.step rfl (RegEnv.Does.pure rfl rfl rfl (fun w hS => rfl)) ?_
  refine RegEnv.All.step rfl (RegEnv.Does.pure rfl rfl rfl (fun w hS => ls_gtz rfl hgt)) ?_
  refine RegEnv.All.step rfl (RegEnv.Does.pure rfl rfl rfl (fun w hS => rfl)) ?_
  refine RegEnv.All.step rfl (RegEnv.Does.pure rfl rfl rfl (fun w hS => rfl)) ?_
  refine RegEnv.All.step rfl (RegEnv.Does.pure rfl rfl rfl (fun w hS => rfl)) ?_
  refine RegEnv.All.step rfl (RegEnv.Does.pure rfl rfl rfl (fun w hS => ls_sub rfl hk9)) ?_
  refine RegEnv.All.step rfl (RegEnv.Does.pure rfl rfl rfl (fun w hS => ls_index rfl rfl hk0)) ?_
  refine RegEnv.All.step rfl (RegEnv.Does.pure rfl rfl rfl (fun w hS => ls_load rfl (CP w hS))) ?_
  refine RegEnv.All.step rfl (RegEnv.Does.pure rfl rfl rfl (fun w hS => rfl)) ?_
  refine RegEnv.All.step rfl (RegEnv.Does.pure rfl rfl rfl (fun w hS => rfl)) ?_
  refine RegEnv.All.step rfl (RegEnv.Does.pure rfl rfl rfl (fun w hS => ls_index rfl rfl hk1)) ?_
  refine RegEnv.All.step rfl (RegEnv.Does.pure rfl rfl rfl (fun w hS => ls_load rfl (CX w hS))) ?_
  refine RegEnv.All.step rfl (RegEnv.Does.pure rfl rfl rfl (fun w hS => ls_geq rfl rfl hge)) ?_
  refine RegEnv.All.step rfl (RegEnv.Does.pure rfl rfl rfl (fun w hS => rfl)) ?_
  refine RegEnv.All.step rfl (RegEnv.Does.pure rfl rfl rfl (fun w hS => rfl)) ?_
  refine RegEnv.All.step rfl (RegEnv.Does.pure rfl rfl rfl (fun w hS => rfl)) ?_
  refine RegEnv.All.step rfl (RegEnv.Does.pure rfl rfl rfl (fun w hS => rfl)) ?_
  refine RegEnv.All.step rfl (RegEnv.Does.pure rfl rfl rfl (fun w hS => rfl)) ?_
  refine RegEnv.All.step rfl (RegEnv.Does.pure rfl rfl rfl (fun w hS => ls_index rfl rfl hk1)) ?_
  refine RegEnv.All.step rfl (RegEnv.Does.pure rfl rfl rfl (fun w hS => ls_load rfl (CX w hS))) ?_
  refine RegEnv.All.step rfl (RegEnv.Does.pure rfl rfl rfl (fun w hS => ls_ltz rfl hlt)) ?_
  refine RegEnv.All.step rfl (RegEnv.Does.pure rfl rfl rfl (fun w hS => rfl)) ?_
  refine RegEnv.All.step rfl (RegEnv.Does.pure rfl rfl rfl (fun w hS => rfl)) ?_
  refine RegEnv.All.step rfl (RegEnv.Does.pure rfl rfl rfl (fun w hS => rfl)) ?_
  refine RegEnv.All.step rfl (RegEnv.Does.pure rfl rfl rfl (fun w hS => rfl)) ?_
  refine RegEnv.All.step rfl (RegEnv.Does.pure rfl rfl rfl (fun w hS => ls_index rfl rfl hk1)) ?_
  refine RegEnv.All.step rfl (RegEnv.Does.pure rfl rfl rfl (fun w hS => ls_load rfl (CX w hS))) ?_
  refine RegEnv.All.step rfl (RegEnv.Does.pure rfl rfl rfl (fun w hS => ls_gt255 rfl h255)) ?_
  refine RegEnv.All.step rfl (RegEnv.Does.pure rfl rfl rfl (fun w hS => rfl)) ?_
  refine RegEnv.All.step rfl (RegEnv.Does.pure rfl rfl rfl (fun w hS => rfl)) ?_
  refine RegEnv.All.step rfl (RegEnv.Does.pure rfl rfl rfl (fun w hS => rfl)) ?_
  refine RegEnv.All.step rfl (RegEnv.Does.pure rfl rfl rfl (fun w hS => rfl)) ?_
  refine RegEnv.All.step rfl (RegEnv.Does.pure rfl rfl rfl (fun w hS => rfl)) ?_
  refine RegEnv.All.step rfl (RegEnv.Does.pure rfl rfl rfl (fun w hS => ls_index rfl rfl hk1)) ?_
  refine RegEnv.All.step rfl (RegEnv.Does.pure rfl rfl rfl (fun w hS => ls_load rfl (CX w hS))) ?_
  refine RegEnv.All.step rfl (RegEnv.Does.call rfl rfl rfl (fun w => re_reason_May rfl rfl) MA) ?_
  refine RegEnv.All.step rfl (RegEnv.Does.pure rfl rfl rfl (fun w hS => ls_not (b := true) rfl)) ?_
  refine RegEnv.All.step rfl (RegEnv.Does.pure rfl rfl rfl (fun w hS => rfl)) ?_
  refine RegEnv.All.step rfl (RegEnv.Does.pure rfl rfl rfl (fun w hS => rfl)) ?_
  refine RegEnv.All.step rfl (RegEnv.Does.pure rfl rfl rfl (fun w hS => rfl)) ?_
  refine RegEnv.All.step rfl (RegEnv.Does.pure rfl rfl rfl (fun w hS => rfl)) ?_
  refine RegEnv.All.step rfl (RegEnv.Does.pure rfl rfl rfl (fun w hS => ls_index rfl rfl hk1)) ?_
  refine RegEnv.All.step rfl (RegEnv.Does.pure rfl rfl rfl (fun w hS => ls_load rfl (CX w hS))) ?_
  refine RegEnv.All.step rfl (RegEnv.Does.call rfl rfl rfl (fun w => re_reason_Text rfl) TX) ?_
  refine RegEnv.All.step rfl (RegEnv.Does.pure rfl rfl rfl (fun w hS => ls_qu rfl hq)) ?_
  refine RegEnv.All.step rfl (RegEnv.Does.pure rfl rfl rfl (fun w hS => rfl)) ?_
  exact RegEnv.All.fin rfl
end Go.Proofs.YtonfkaoobajbkaaDoor
