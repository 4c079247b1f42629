/-
  The last region of polyglotlaw05.PropCalls: whatever order its operations come in, it ends with true. Condition: the calls answer alike.
-/
import Derived.Test.YtckdbnndpoleeaaGreatK08
import Derived.Test.YtckdbnndpoleeaaGreatK10
namespace Go.Proofs.YtckdbnndpoleeaaGreat
open Go.RowKit

section
variable {a : Act} {w : World} {d : Option Tmp} {p : String} {af : Array Edge} {gd : Option (Nat × Bool)} {x y : Tmp} {r : TypeId}
theorem re_int {v : Int} (hx : a.eval (.tmp x) = .int .i64 v) (hy : a.eval (.tmp y) = .int .i64 v) :
    (execOp a.eval { dst := d, op := .binOp .eql 3 (.tmp x) (.tmp y) 3, type := r, pos := p, after := af, guard := gd }).run Tryz.prog w = .ok (.value (.bool true)) w := by
  generalize a.eval = f at *
  go_simp
theorem re_err {v : Int} (hx : a.eval (.tmp x) = .int .i64 v) (hy : a.eval (.tmp y) = .int .i64 v) :
    (execOp a.eval { dst := d, op := .binOp .eql 28 (.tmp x) (.tmp y) 28, type := r, pos := p, after := af, guard := gd }).run Tryz.prog w = .ok (.value (.bool true)) w := by
  generalize a.eval = f at *
  go_simp
theorem re_str {v : ByteArray} (hx : a.eval (.tmp x) = .string v) (hy : a.eval (.tmp y) = .string v) :
    (execOp a.eval { dst := d, op := .binOp .eql 9 (.tmp x) (.tmp y) 9, type := r, pos := p, after := af, guard := gd }).run Tryz.prog w = .ok (.value (.bool true)) w := by
  generalize a.eval = f at *
  go_simp
theorem re_polyglotkit_Same__ {ts : Array TypeId} {u v : Value} (hx : a.eval (.tmp x) = u) (hy : a.eval (.tmp y) = v) :
    (execOp a.eval { dst := d, op := .call { callee := .value (.func 23), args := #[.tmp x, .tmp y], argTypes := ts }, type := r, pos := p, after := af, guard := gd }).run Tryz.prog w = .ok (.enter 23 #[u, v]) w := by
  have hf : a.eval (.func 23) = .func (.func 23) #[] #[] := rfl
  generalize a.eval = f at *
  go_simp
theorem re_polyglotref05_Check {ts : Array TypeId} {u v : Value} (hx : a.eval (.tmp x) = u) (hy : a.eval (.tmp y) = v) :
    (execOp a.eval { dst := d, op := .call { callee := .value (.func 20), args := #[.tmp x, .tmp y], argTypes := ts }, type := r, pos := p, after := af, guard := gd }).run Tryz.prog w = .ok (.enter 20 #[u, v]) w := by
  have hf : a.eval (.func 20) = .func (.func 20) #[] #[] := rfl
  generalize a.eval = f at *
  go_simp
theorem re_polyglotref05_Many {ts : Array TypeId} {u v : Value} (hx : a.eval (.tmp x) = u) (hy : a.eval (.tmp y) = v) :
    (execOp a.eval { dst := d, op := .call { callee := .value (.func 18), args := #[.tmp x, .tmp y], argTypes := ts }, type := r, pos := p, after := af, guard := gd }).run Tryz.prog w = .ok (.enter 18 #[u, v]) w := by
  have hf : a.eval (.func 18) = .func (.func 18) #[] #[] := rfl
  generalize a.eval = f at *
  go_simp
theorem re_polyglotref05_May {ts : Array TypeId} {u v : Value} (hx : a.eval (.tmp x) = u) (hy : a.eval (.tmp y) = v) :
    (execOp a.eval { dst := d, op := .call { callee := .value (.func 16), args := #[.tmp x, .tmp y], argTypes := ts }, type := r, pos := p, after := af, guard := gd }).run Tryz.prog w = .ok (.enter 16 #[u, v]) w := by
  have hf : a.eval (.func 16) = .func (.func 16) #[] #[] := rfl
  generalize a.eval = f at *
  go_simp
theorem re_polyglotref05_Same {ts : Array TypeId} {u v : Value} (hx : a.eval (.tmp x) = u) (hy : a.eval (.tmp y) = v) :
    (execOp a.eval { dst := d, op := .call { callee := .value (.func 25), args := #[.tmp x, .tmp y], argTypes := ts }, type := r, pos := p, after := af, guard := gd }).run Tryz.prog w = .ok (.enter 25 #[u, v]) w := by
  have hf : a.eval (.func 25) = .func (.func 25) #[] #[] := rfl
  generalize a.eval = f at *
  go_simp
theorem re_polyglotref05_Shape {ts : Array TypeId} {u : Value} (hx : a.eval (.tmp x) = u) :
    (execOp a.eval { dst := d, op := .call { callee := .value (.func 14), args := #[.tmp x], argTypes := ts }, type := r, pos := p, after := af, guard := gd }).run Tryz.prog w = .ok (.enter 14 #[u]) w := by
  have hf : a.eval (.func 14) = .func (.func 14) #[] #[] := rfl
  generalize a.eval = f at *
  go_simp
theorem re_polyglotref05_Valid {ts : Array TypeId} {u v : Value} (hx : a.eval (.tmp x) = u) (hy : a.eval (.tmp y) = v) :
    (execOp a.eval { dst := d, op := .call { callee := .value (.func 22), args := #[.tmp x, .tmp y], argTypes := ts }, type := r, pos := p, after := af, guard := gd }).run Tryz.prog w = .ok (.enter 22 #[u, v]) w := by
  have hf : a.eval (.func 22) = .func (.func 22) #[] #[] := rfl
  generalize a.eval = f at *
  go_simp
theorem re_prop_Check {ts : Array TypeId} {u v : Value} (hx : a.eval (.tmp x) = u) (hy : a.eval (.tmp y) = v) :
    (execOp a.eval { dst := d, op := .call { callee := .value (.func 19), args := #[.tmp x, .tmp y], argTypes := ts }, type := r, pos := p, after := af, guard := gd }).run Tryz.prog w = .ok (.enter 19 #[u, v]) w := by
  have hf : a.eval (.func 19) = .func (.func 19) #[] #[] := rfl
  generalize a.eval = f at *
  go_simp
theorem re_prop_Many {ts : Array TypeId} {u v : Value} (hx : a.eval (.tmp x) = u) (hy : a.eval (.tmp y) = v) :
    (execOp a.eval { dst := d, op := .call { callee := .value (.func 17), args := #[.tmp x, .tmp y], argTypes := ts }, type := r, pos := p, after := af, guard := gd }).run Tryz.prog w = .ok (.enter 17 #[u, v]) w := by
  have hf : a.eval (.func 17) = .func (.func 17) #[] #[] := rfl
  generalize a.eval = f at *
  go_simp
theorem re_prop_May {ts : Array TypeId} {u v : Value} (hx : a.eval (.tmp x) = u) (hy : a.eval (.tmp y) = v) :
    (execOp a.eval { dst := d, op := .call { callee := .value (.func 15), args := #[.tmp x, .tmp y], argTypes := ts }, type := r, pos := p, after := af, guard := gd }).run Tryz.prog w = .ok (.enter 15 #[u, v]) w := by
  have hf : a.eval (.func 15) = .func (.func 15) #[] #[] := rfl
  generalize a.eval = f at *
  go_simp
theorem re_prop_Same {ts : Array TypeId} {u v : Value} (hx : a.eval (.tmp x) = u) (hy : a.eval (.tmp y) = v) :
    (execOp a.eval { dst := d, op := .call { callee := .value (.func 24), args := #[.tmp x, .tmp y], argTypes := ts }, type := r, pos := p, after := af, guard := gd }).run Tryz.prog w = .ok (.enter 24 #[u, v]) w := by
  have hf : a.eval (.func 24) = .func (.func 24) #[] #[] := rfl
  generalize a.eval = f at *
  go_simp
theorem re_prop_Shape {ts : Array TypeId} {u : Value} (hx : a.eval (.tmp x) = u) :
    (execOp a.eval { dst := d, op := .call { callee := .value (.func 13), args := #[.tmp x], argTypes := ts }, type := r, pos := p, after := af, guard := gd }).run Tryz.prog w = .ok (.enter 13 #[u]) w := by
  have hf : a.eval (.func 13) = .func (.func 13) #[] #[] := rfl
  generalize a.eval = f at *
  go_simp
theorem re_prop_Valid {ts : Array TypeId} {u v : Value} (hx : a.eval (.tmp x) = u) (hy : a.eval (.tmp y) = v) :
    (execOp a.eval { dst := d, op := .call { callee := .value (.func 21), args := #[.tmp x, .tmp y], argTypes := ts }, type := r, pos := p, after := af, guard := gd }).run Tryz.prog w = .ok (.enter 21 #[u, v]) w := by
  have hf : a.eval (.func 21) = .func (.func 21) #[] #[] := rfl
  generalize a.eval = f at *
  go_simp
theorem re_bool {v : Bool} (hx : a.eval (.tmp x) = .bool v) (hy : a.eval (.tmp y) = .bool v) :
    (execOp a.eval { dst := d, op := .binOp .eql 4 (.tmp x) (.tmp y) 4, type := r, pos := p, after := af, guard := gd }).run Tryz.prog w = .ok (.value (.bool true)) w := by
  generalize a.eval = f at *
  cases v <;> go_simp
theorem re_prop {v0 v1 : Int} {v2 v3 : ByteArray} (hx : a.eval (.tmp x) = .agg #[.int .i64 v0, .int .u32 v1, .string v2, .string v3]) (hy : a.eval (.tmp y) = .agg #[.int .i64 v0, .int .u32 v1, .string v2, .string v3]) :
    (execOp a.eval { dst := d, op := .binOp .eql 24 (.tmp x) (.tmp y) 24, type := r, pos := p, after := af, guard := gd }).run Tryz.prog w = .ok (.value (.bool true)) w := by
  generalize a.eval = f at *
  go_simp
theorem re_load {k : Nat} {a0 a1 a2 a3 : Value} (hx : a.eval (.tmp x) = .pointer (some ⟨k, 0, none⟩)) (hS : w.cell? ⟨k, 0, none⟩ = some a0 ∧ w.cell? ⟨k, 1, none⟩ = some a1 ∧ w.cell? ⟨k, 2, none⟩ = some a2 ∧ w.cell? ⟨k, 3, none⟩ = some a3) :
    (execOp a.eval { dst := d, op := .load 24 (.tmp x), type := 24, pos := p, after := af, guard := gd }).run Tryz.prog w = .ok (.value (.agg #[a0, a1, a2, a3])) w := by
  obtain ⟨h0, h1, h2, h3⟩ := hS
  generalize a.eval = f at *
  go_simp
end
set_option maxRecDepth 100000 in
set_option maxHeartbeats 4000000 in
theorem pc_last {Q : Exit → Act → World → Prop} {S : World → Prop} {W : World} {g0 g1 g2 n c nl c3 c4 : Nat} {A A3 A4 : Option Addr} {kind id e1 d1 e2 z0 z1 z2 p0 p1 q0 q1 : Int} {s1 p2 p3 q2 q3 : ByteArray} {bq b1 b2 b3 : Bool} {x2 x4 x5 x6 x8 x9 x10 x25 x26 x27 x28 x29 x30 x31 x32 x33 x34 x35 x36 x37 x38 x39 x40 x41 x42 x43 x44 x45 x46 x47 x48 x49 x50 x51 x52 x53 x54 x55 x56 x57 x58 x59 x60 x61 x62 x63 x64 x65 x66 x67 x68 x69 x70 x71 x72 x73 x74 x75 x76 x77 x78 x79 x80 x81 x82 x83 x84 x85 x86 x87 x88 x89 x90 x91 x92 x93 x94 x95 x96 x97 x98 x99 x100 x101 x102 x103 x104 x105 x106 x107 x108 x109 x110 x111 x112 x113 x114 x115 x116 x117 x118 x119 x120 x121 x122 x123 x124 x125 x126 x127 x128 x129 x130 x131 x132 x133 x134 x135 x136 x137 x138 x139 x140 x141 x142 x143 x144 x145 x146 x147 x148 x149 x150 x151 x152 x153 x154 x155 x156 x157 x158 x159 x160 x161 x162 x163 x164 x165 x166 x167 x168 x169 : Value}
    (hS : S W.drew) (LP : ∀ w, S w → w.cell? ⟨g0, 0, none⟩ = some (.int .i64 p0) ∧ w.cell? ⟨g0, 1, none⟩ = some (.int .u32 p1) ∧ w.cell? ⟨g0, 2, none⟩ = some (.string p2) ∧ w.cell? ⟨g0, 3, none⟩ = some (.string p3))
    (LQ : ∀ w, S w → w.cell? ⟨g1, 0, none⟩ = some (.int .i64 q0) ∧ w.cell? ⟨g1, 1, none⟩ = some (.int .u32 q1) ∧ w.cell? ⟨g1, 2, none⟩ = some (.string q2) ∧ w.cell? ⟨g1, 3, none⟩ = some (.string q3))
    (LR : ∀ w, S w → w.cell? ⟨g2, 0, none⟩ = some (.int .i64 q0) ∧ w.cell? ⟨g2, 1, none⟩ = some (.int .u32 q1) ∧ w.cell? ⟨g2, 2, none⟩ = some (.string q2) ∧ w.cell? ⟨g2, 3, none⟩ = some (.string q3))
    (H1 : ∀ w, S w → Calls Tryz.prog 13 #[(.int .i64 id)] w fun e w' => e = .returned (.int .i64 z0) ∧ S w')
    (H2 : ∀ w, S w → Calls Tryz.prog 14 #[(.int .i64 id)] w fun e w' => e = .returned (.int .i64 z0) ∧ S w')
    (H3 : ∀ w, S w → Calls Tryz.prog 15 #[(.int .i64 kind), (.int .i64 id)] w fun e w' => e = .returned (.bool b1) ∧ S w')
    (H4 : ∀ w, S w → Calls Tryz.prog 16 #[(.int .i64 kind), (.int .i64 id)] w fun e w' => e = .returned (.bool b1) ∧ S w')
    (H5 : ∀ w, S w → Calls Tryz.prog 17 #[(.int .i64 kind), (.int .i64 id)] w fun e w' => e = .returned (.bool b2) ∧ S w')
    (H6 : ∀ w, S w → Calls Tryz.prog 18 #[(.int .i64 kind), (.int .i64 id)] w fun e w' => e = .returned (.bool b2) ∧ S w')
    (H7 : ∀ w, S w → Calls Tryz.prog 19 #[(.int .i64 kind), (.agg #[.int .i64 p0, .int .u32 p1, .string p2, .string p3])] w fun e w' => e = .returned (.int .i64 z1) ∧ S w')
    (H8 : ∀ w, S w → Calls Tryz.prog 20 #[(.int .i64 kind), (.agg #[.int .i64 p0, .int .u32 p1, .string p2, .string p3])] w fun e w' => e = .returned (.int .i64 z1) ∧ S w')
    (H9 : ∀ w, S w → Calls Tryz.prog 21 #[(.int .i64 kind), (.slice A n c)] w fun e w' => e = .returned (.int .i64 z2) ∧ S w')
    (H10 : ∀ w, S w → Calls Tryz.prog 22 #[(.int .i64 kind), (.slice A n c)] w fun e w' => e = .returned (.int .i64 z2) ∧ S w')
    (H11 : ∀ w, S w → Calls Tryz.prog 23 #[(.slice A3 nl c3), (.slice A4 nl c4)] w fun e w' => e = .returned (.bool true) ∧ S w')
    (H12 : ∀ w, S w → Calls Tryz.prog 24 #[(.slice A n c), (.slice A3 nl c3)] w fun e w' => e = .returned (.bool b3) ∧ S w')
    (H13 : ∀ w, S w → Calls Tryz.prog 25 #[(.slice A n c), (.slice A3 nl c3)] w fun e w' => e = .returned (.bool b3) ∧ S w')
    (H14 : ∀ w, S w → Calls Tryz.prog 24 #[(.slice A3 nl c3), (.slice A4 nl c4)] w fun e w' => e = .returned (.bool true) ∧ S w')
    (fin : ∀ w, S w → Q .normal ⟨#[(.int .i64 kind), (.int .i64 id), x2, (.slice A n c), x4, x5, x6, (.pointer (some ⟨g0, 0, none⟩)), x8, x9, (.bool true), (.string s1), (.int .i64 e1), (.string s1), (.int .i64 e1), (.slice A3 nl c3), (.int .i64 d1), (.int .i64 e2), (.slice A4 nl c4), (.int .i64 d1), (.int .i64 e2), (.pointer (some ⟨g1, 0, none⟩)), (.bool bq), (.pointer (some ⟨g2, 0, none⟩)), (.bool bq), x25, x26, x27, x28, x29, x30, x31, x32, x33, x34, x35, x36, x37, x38, x39, x40, x41, x42, x43, x44, x45, x46, x47, x48, x49, x50, x51, x52, x53, x54, x55, x56, x57, x58, x59, x60, x61, x62, x63, x64, x65, x66, x67, x68, x69, x70, x71, x72, x73, x74, x75, x76, x77, x78, x79, (.int .i64 id), (.int .i64 z0), (.int .i64 id), (.int .i64 z0), (.bool true), (.bool true), (.int .i64 kind), (.int .i64 id), (.bool b1), (.int .i64 kind), (.int .i64 id), (.bool b1), (.bool true), (.bool true), (.bool true), (.int .i64 kind), (.int .i64 id), (.bool b2), (.int .i64 kind), (.int .i64 id), (.bool b2), (.bool true), (.bool true), (.bool true), (.int .i64 kind), (.agg #[.int .i64 p0, .int .u32 p1, .string p2, .string p3]), (.int .i64 z1), (.int .i64 kind), (.agg #[.int .i64 p0, .int .u32 p1, .string p2, .string p3]), (.int .i64 z1), (.bool true), (.bool true), (.bool true), (.int .i64 kind), (.slice A n c), (.int .i64 z2), (.int .i64 kind), (.slice A n c), (.int .i64 z2), (.bool true), (.bool true), (.bool true), (.string s1), (.string s1), (.bool true), (.bool true), (.bool true), (.int .i64 e1), (.int .i64 e1), (.bool true), (.bool true), (.bool true), (.slice A3 nl c3), (.slice A4 nl c4), (.bool true), (.bool true), (.bool true), (.int .i64 d1), (.int .i64 d1), (.bool true), (.bool true), (.bool true), (.int .i64 e2), (.int .i64 e2), (.bool true), (.bool true), (.bool true), (.agg #[.int .i64 q0, .int .u32 q1, .string q2, .string q3]), (.agg #[.int .i64 q0, .int .u32 q1, .string q2, .string q3]), (.bool true), (.bool true), (.bool true), (.bool bq), (.bool bq), (.bool true), (.bool true), (.bool true), (.slice A n c), (.slice A3 nl c3), (.bool b3), (.slice A n c), (.slice A3 nl c3), (.bool b3), (.bool true), (.bool true), (.bool true), (.slice A3 nl c3), (.slice A4 nl c4), (.bool true), (.bool true)], []⟩ w) :
    (Code.region 11 (RegEnv.opsAt 11 Tryz.f3.body) true).wp Tryz.prog Q ⟨#[(.int .i64 kind), (.int .i64 id), x2, (.slice A n c), x4, x5, x6, (.pointer (some ⟨g0, 0, none⟩)), x8, x9, x10, (.string s1), (.int .i64 e1), (.string s1), (.int .i64 e1), (.slice A3 nl c3), (.int .i64 d1), (.int .i64 e2), (.slice A4 nl c4), (.int .i64 d1), (.int .i64 e2), (.pointer (some ⟨g1, 0, none⟩)), (.bool bq), (.pointer (some ⟨g2, 0, none⟩)), (.bool bq), x25, x26, x27, x28, x29, x30, x31, x32, x33, x34, x35, x36, x37, x38, x39, x40, x41, x42, x43, x44, x45, x46, x47, x48, x49, x50, x51, x52, x53, x54, x55, x56, x57, x58, x59, x60, x61, x62, x63, x64, x65, x66, x67, x68, x69, x70, x71, x72, x73, x74, x75, x76, x77, x78, x79, x80, x81, x82, x83, x84, x85, x86, x87, x88, x89, x90, x91, x92, x93, x94, x95, x96, x97, x98, x99, x100, x101, x102, x103, x104, x105, x106, x107, x108, x109, x110, x111, x112, x113, x114, x115, x116, x117, x118, x119, x120, x121, x122, x123, x124, x125, x126, x127, x128, x129, x130, x131, x132, x133, x134, x135, x136, x137, x138, x139, x140, x141, x142, x143, x144, x145, x146, x147, x148, x149, x150, x151, x152, x153, x154, x155, x156, x157, x158, x159, x160, x161, x162, x163, x164, x165, x166, x167, x168, x169], []⟩ W := by
  refine RegEnv.wp_in (ds := [80, 81, 82, 83, 84, 85, 86, 87, 88, 89, 90, 91, 92, 93, 94, 95, 96, 97, 98, 99, 100, 101, 102, 103, 104, 105, 106, 107, 108, 109, 110, 111, 112, 113, 114, 115, 116, 117, 118, 119, 120, 121, 122, 123, 124, 125, 126, 127, 128, 129, 130, 131, 132, 133, 134, 135, 136, 137, 138, 139, 140, 141, 142, 143, 144, 145, 146, 147, 148, 149, 150, 151, 152, 153, 154, 155, 156, 157, 158, 159, 160, 161, 162, 163, 164, 165, 166, 167, 168, 169, 10]) (A := [(.int .i64 kind), (.int .i64 id), x2, (.slice A n c), x4, x5, x6, (.pointer (some ⟨g0, 0, none⟩)), x8, x9, x10, (.string s1), (.int .i64 e1), (.string s1), (.int .i64 e1), (.slice A3 nl c3), (.int .i64 d1), (.int .i64 e2), (.slice A4 nl c4), (.int .i64 d1), (.int .i64 e2), (.pointer (some ⟨g1, 0, none⟩)), (.bool bq), (.pointer (some ⟨g2, 0, none⟩)), (.bool bq), x25, x26, x27, x28, x29, x30, x31, x32, x33, x34, x35, x36, x37, x38, x39, x40, x41, x42, x43, x44, x45, x46, x47, x48, x49, x50, x51, x52, x53, x54, x55, x56, x57, x58, x59, x60, x61, x62, x63, x64, x65, x66, x67, x68, x69, x70, x71, x72, x73, x74, x75, x76, x77, x78, x79, x80, x81, x82, x83, x84, x85, x86, x87, x88, x89, x90, x91, x92, x93, x94, x95, x96, x97, x98, x99, x100, x101, x102, x103, x104, x105, x106, x107, x108, x109, x110, x111, x112, x113, x114, x115, x116, x117, x118, x119, x120, x121, x122, x123, x124, x125, x126, x127, x128, x129, x130, x131, x132, x133, x134, x135, x136, x137, x138, x139, x140, x141, x142, x143, x144, x145, x146, x147, x148, x149, x150, x151, x152, x153, x154, x155, x156, x157, x158, x159, x160, x161, x162, x163, x164, x165, x166, x167, x168, x169]) (B := [(.int .i64 kind), (.int .i64 id), x2, (.slice A n c), x4, x5, x6, (.pointer (some ⟨g0, 0, none⟩)), x8, x9, (.bool true), (.string s1), (.int .i64 e1), (.string s1), (.int .i64 e1), (.slice A3 nl c3), (.int .i64 d1), (.int .i64 e2), (.slice A4 nl c4), (.int .i64 d1), (.int .i64 e2), (.pointer (some ⟨g1, 0, none⟩)), (.bool bq), (.pointer (some ⟨g2, 0, none⟩)), (.bool bq), x25, x26, x27, x28, x29, x30, x31, x32, x33, x34, x35, x36, x37, x38, x39, x40, x41, x42, x43, x44, x45, x46, x47, x48, x49, x50, x51, x52, x53, x54, x55, x56, x57, x58, x59, x60, x61, x62, x63, x64, x65, x66, x67, x68, x69, x70, x71, x72, x73, x74, x75, x76, x77, x78, x79, (.int .i64 id), (.int .i64 z0), (.int .i64 id), (.int .i64 z0), (.bool true), (.bool true), (.int .i64 kind), (.int .i64 id), (.bool b1), (.int .i64 kind), (.int .i64 id), (.bool b1), (.bool true), (.bool true), (.bool true), (.int .i64 kind), (.int .i64 id), (.bool b2), (.int .i64 kind), (.int .i64 id), (.bool b2), (.bool true), (.bool true), (.bool true), (.int .i64 kind), (.agg #[.int .i64 p0, .int .u32 p1, .string p2, .string p3]), (.int .i64 z1), (.int .i64 kind), (.agg #[.int .i64 p0, .int .u32 p1, .string p2, .string p3]), (.int .i64 z1), (.bool true), (.bool true), (.bool true), (.int .i64 kind), (.slice A n c), (.int .i64 z2), (.int .i64 kind), (.slice A n c), (.int .i64 z2), (.bool true), (.bool true), (.bool true), (.string s1), (.string s1), (.bool true), (.bool true), (.bool true), (.int .i64 e1), (.int .i64 e1), (.bool true), (.bool true), (.bool true), (.slice A3 nl c3), (.slice A4 nl c4), (.bool true), (.bool true), (.bool true), (.int .i64 d1), (.int .i64 d1), (.bool true), (.bool true), (.bool true), (.int .i64 e2), (.int .i64 e2), (.bool true), (.bool true), (.bool true), (.agg #[.int .i64 q0, .int .u32 q1, .string q2, .string q3]), (.agg #[.int .i64 q0, .int .u32 q1, .string q2, .string q3]), (.bool true), (.bool true), (.bool true), (.bool bq), (.bool bq), (.bool true), (.bool true), (.bool true), (.slice A n c), (.slice A3 nl c3), (.bool b3), (.slice A n c), (.slice A3 nl c3), (.bool b3), (.bool true), (.bool true), (.bool true), (.slice A3 nl c3), (.slice A4 nl c4), (.bool true), (.bool true)]) (D := []) (by kernel_rfl) (by kernel_rfl) (by kernel_rfl) ?_ hS ?_ fin
  · exact ⟨.inr rfl, ⟨.inr rfl, ⟨.inr rfl, ⟨.inr rfl, ⟨.inr rfl, ⟨.inr rfl, ⟨.inr rfl, ⟨.inr rfl, ⟨.inr rfl, ⟨.inr rfl, ⟨.inl rfl, ⟨.inr rfl, ⟨.inr rfl, ⟨.inr rfl, ⟨.inr rfl, ⟨.inr rfl, ⟨.inr rfl, ⟨.inr rfl, ⟨.inr rfl, ⟨.inr rfl, ⟨.inr rfl, ⟨.inr rfl, ⟨.inr rfl, ⟨.inr rfl, ⟨.inr rfl, ⟨.inr rfl, ⟨.inr rfl, ⟨.inr rfl, ⟨.inr rfl, ⟨.inr rfl, ⟨.inr rfl, ⟨.inr rfl, ⟨.inr rfl, ⟨.inr rfl, ⟨.inr rfl, ⟨.inr rfl, ⟨.inr rfl, ⟨.inr rfl, ⟨.inr rfl, ⟨.inr rfl, ⟨.inr rfl, ⟨.inr rfl, ⟨.inr rfl, ⟨.inr rfl, ⟨.inr rfl, ⟨.inr rfl, ⟨.inr rfl, ⟨.inr rfl, ⟨.inr rfl, ⟨.inr rfl, ⟨.inr rfl, ⟨.inr rfl, ⟨.inr rfl, ⟨.inr rfl, ⟨.inr rfl, ⟨.inr rfl, ⟨.inr rfl, ⟨.inr rfl, ⟨.inr rfl, ⟨.inr rfl, ⟨.inr rfl, ⟨.inr rfl, ⟨.inr rfl, ⟨.inr rfl, ⟨.inr rfl, ⟨.inr rfl, ⟨.inr rfl, ⟨.inr rfl, ⟨.inr rfl, ⟨.inr rfl, ⟨.inr rfl, ⟨.inr rfl, ⟨.inr rfl, ⟨.inr rfl, ⟨.inr rfl, ⟨.inr rfl, ⟨.inr rfl, ⟨.inr rfl, ⟨.inr rfl, ⟨.inr rfl, ⟨.inl rfl, ⟨.inl rfl, ⟨.inl rfl, ⟨.inl rfl, ⟨.inl rfl, ⟨.inl rfl, ⟨.inl rfl, ⟨.inl rfl, ⟨.inl rfl, ⟨.inl rfl, ⟨.inl rfl, ⟨.inl rfl, ⟨.inl rfl, ⟨.inl rfl, ⟨.inl rfl, ⟨.inl rfl, ⟨.inl rfl, ⟨.inl rfl, ⟨.inl rfl, ⟨.inl rfl, ⟨.inl rfl, ⟨.inl rfl, ⟨.inl rfl, ⟨.inl rfl, ⟨.inl rfl, ⟨.inl rfl, ⟨.inl rfl, ⟨.inl rfl, ⟨.inl rfl, ⟨.inl rfl, ⟨.inl rfl, ⟨.inl rfl, ⟨.inl rfl, ⟨.inl rfl, ⟨.inl rfl, ⟨.inl rfl, ⟨.inl rfl, ⟨.inl rfl, ⟨.inl rfl, ⟨.inl rfl, ⟨.inl rfl, ⟨.inl rfl, ⟨.inl rfl, ⟨.inl rfl, ⟨.inl rfl, ⟨.inl rfl, ⟨.inl rfl, ⟨.inl rfl, ⟨.inl rfl, ⟨.inl rfl, ⟨.inl rfl, ⟨.inl rfl, ⟨.inl rfl, ⟨.inl rfl, ⟨.inl rfl, ⟨.inl rfl, ⟨.inl rfl, ⟨.inl rfl, ⟨.inl rfl, ⟨.inl rfl, ⟨.inl rfl, ⟨.inl rfl, ⟨.inl rfl, ⟨.inl rfl, ⟨.inl rfl, ⟨.inl rfl, ⟨.inl rfl, ⟨.inl rfl, ⟨.inl rfl, ⟨.inl rfl, ⟨.inl rfl, ⟨.inl rfl, ⟨.inl rfl, ⟨.inl rfl, ⟨.inl rfl, ⟨.inl rfl, ⟨.inl rfl, ⟨.inl rfl, ⟨.inl rfl, ⟨.inl rfl, ⟨.inl rfl, ⟨.inl rfl, ⟨.inl rfl, ⟨.inl rfl, ⟨.inl rfl, ⟨.inl rfl, ⟨.inl rfl, ⟨.inl rfl, ⟨.inl rfl, ⟨.inl rfl, trivial⟩⟩⟩⟩⟩⟩⟩⟩⟩⟩⟩⟩⟩⟩⟩⟩⟩⟩⟩⟩⟩⟩⟩⟩⟩⟩⟩⟩⟩⟩⟩⟩⟩⟩⟩⟩⟩⟩⟩⟩⟩⟩⟩⟩⟩⟩⟩⟩⟩⟩⟩⟩⟩⟩⟩⟩⟩⟩⟩⟩⟩⟩⟩⟩⟩⟩⟩⟩⟩⟩⟩⟩⟩⟩⟩⟩⟩⟩⟩⟩⟩⟩⟩⟩⟩⟩⟩⟩⟩⟩⟩⟩⟩⟩⟩⟩⟩⟩⟩⟩⟩⟩⟩⟩⟩⟩⟩⟩⟩⟩⟩⟩⟩⟩⟩⟩⟩⟩⟩⟩⟩⟩⟩⟩⟩⟩⟩⟩⟩⟩⟩⟩⟩⟩⟩⟩⟩⟩⟩⟩⟩⟩⟩⟩⟩⟩⟩⟩⟩⟩⟩⟩⟩⟩⟩⟩⟩⟩⟩⟩⟩⟩⟩⟩⟩⟩⟩⟩⟩⟩
  refine RegEnv.All.step rfl (RegEnv.Does.pure rfl rfl rfl (fun w hS => rfl)) ?_
  refine RegEnv.All.step rfl (RegEnv.Does.call rfl rfl rfl (fun w => re_prop_Shape rfl) H1) ?_
  refine RegEnv.All.step rfl (RegEnv.Does.pure rfl rfl rfl (fun w hS => rfl)) ?_
  refine RegEnv.All.step rfl (RegEnv.Does.call rfl rfl rfl (fun w => re_polyglotref05_Shape rfl) H2) ?_
  refine RegEnv.All.step rfl (RegEnv.Does.pure rfl rfl rfl (fun w hS => re_int rfl rfl)) ?_
  refine RegEnv.All.step rfl (RegEnv.Does.pure rfl rfl rfl (fun w hS => rfl)) ?_
  refine RegEnv.All.step rfl (RegEnv.Does.pure rfl rfl rfl (fun w hS => rfl)) ?_
  refine RegEnv.All.step rfl (RegEnv.Does.pure rfl rfl rfl (fun w hS => rfl)) ?_
  refine RegEnv.All.step rfl (RegEnv.Does.call rfl rfl rfl (fun w => re_prop_May rfl rfl) H3) ?_
  refine RegEnv.All.step rfl (RegEnv.Does.pure rfl rfl rfl (fun w hS => rfl)) ?_
  refine RegEnv.All.step rfl (RegEnv.Does.pure rfl rfl rfl (fun w hS => rfl)) ?_
  refine RegEnv.All.step rfl (RegEnv.Does.call rfl rfl rfl (fun w => re_polyglotref05_May rfl rfl) H4) ?_
  refine RegEnv.All.step rfl (RegEnv.Does.pure rfl rfl rfl (fun w hS => re_bool rfl rfl)) ?_
  refine RegEnv.All.step rfl (RegEnv.Does.pure rfl rfl rfl (fun w hS => rfl)) ?_
  refine RegEnv.All.step rfl (RegEnv.Does.pure rfl rfl rfl (fun w hS => rfl)) ?_
  refine RegEnv.All.step rfl (RegEnv.Does.pure rfl rfl rfl (fun w hS => rfl)) ?_
  refine RegEnv.All.step rfl (RegEnv.Does.pure rfl rfl rfl (fun w hS => rfl)) ?_
  refine RegEnv.All.step rfl (RegEnv.Does.call rfl rfl rfl (fun w => re_prop_Many rfl rfl) H5) ?_
  refine RegEnv.All.step rfl (RegEnv.Does.pure rfl rfl rfl (fun w hS => rfl)) ?_
  refine RegEnv.All.step rfl (RegEnv.Does.pure rfl rfl rfl (fun w hS => rfl)) ?_
  refine RegEnv.All.step rfl (RegEnv.Does.call rfl rfl rfl (fun w => re_polyglotref05_Many rfl rfl) H6) ?_
  refine RegEnv.All.step rfl (RegEnv.Does.pure rfl rfl rfl (fun w hS => re_bool rfl rfl)) ?_
  refine RegEnv.All.step rfl (RegEnv.Does.pure rfl rfl rfl (fun w hS => rfl)) ?_
  refine RegEnv.All.step rfl (RegEnv.Does.pure rfl rfl rfl (fun w hS => rfl)) ?_
  refine RegEnv.All.step rfl (RegEnv.Does.pure rfl rfl rfl (fun w hS => rfl)) ?_
  refine RegEnv.All.step rfl (RegEnv.Does.pure rfl rfl rfl (fun w hS => re_load rfl (LP w hS))) ?_
  refine RegEnv.All.step rfl (RegEnv.Does.call rfl rfl rfl (fun w => re_prop_Check rfl rfl) H7) ?_
  refine RegEnv.All.step rfl (RegEnv.Does.pure rfl rfl rfl (fun w hS => rfl)) ?_
  refine RegEnv.All.step rfl (RegEnv.Does.pure rfl rfl rfl (fun w hS => re_load rfl (LP w hS))) ?_
  refine RegEnv.All.step rfl (RegEnv.Does.call rfl rfl rfl (fun w => re_polyglotref05_Check rfl rfl) H8) ?_
  refine RegEnv.All.step rfl (RegEnv.Does.pure rfl rfl rfl (fun w hS => re_err rfl rfl)) ?_
  refine RegEnv.All.step rfl (RegEnv.Does.pure rfl rfl rfl (fun w hS => rfl)) ?_
  refine RegEnv.All.step rfl (RegEnv.Does.pure rfl rfl rfl (fun w hS => rfl)) ?_
  refine RegEnv.All.step rfl (RegEnv.Does.pure rfl rfl rfl (fun w hS => rfl)) ?_
  refine RegEnv.All.step rfl (RegEnv.Does.pure rfl rfl rfl (fun w hS => rfl)) ?_
  refine RegEnv.All.step rfl (RegEnv.Does.call rfl rfl rfl (fun w => re_prop_Valid rfl rfl) H9) ?_
  refine RegEnv.All.step rfl (RegEnv.Does.pure rfl rfl rfl (fun w hS => rfl)) ?_
  refine RegEnv.All.step rfl (RegEnv.Does.pure rfl rfl rfl (fun w hS => rfl)) ?_
  refine RegEnv.All.step rfl (RegEnv.Does.call rfl rfl rfl (fun w => re_polyglotref05_Valid rfl rfl) H10) ?_
  refine RegEnv.All.step rfl (RegEnv.Does.pure rfl rfl rfl (fun w hS => re_err rfl rfl)) ?_
  refine RegEnv.All.step rfl (RegEnv.Does.pure rfl rfl rfl (fun w hS => rfl)) ?_
  refine RegEnv.All.step rfl (RegEnv.Does.pure rfl rfl rfl (fun w hS => rfl)) ?_
  refine RegEnv.All.step rfl (RegEnv.Does.pure rfl rfl rfl (fun w hS => rfl)) ?_
  refine RegEnv.All.step rfl (RegEnv.Does.pure rfl rfl rfl (fun w hS => rfl)) ?_
  refine RegEnv.All.step rfl (RegEnv.Does.pure rfl rfl rfl (fun w hS => re_str rfl rfl)) ?_
  refine RegEnv.All.step rfl (RegEnv.Does.pure rfl rfl rfl (fun w hS => rfl)) ?_
  refine RegEnv.All.step rfl (RegEnv.Does.pure rfl rfl rfl (fun w hS => rfl)) ?_
  refine RegEnv.All.step rfl (RegEnv.Does.pure rfl rfl rfl (fun w hS => rfl)) ?_
  refine RegEnv.All.step rfl (RegEnv.Does.pure rfl rfl rfl (fun w hS => rfl)) ?_
  refine RegEnv.All.step rfl (RegEnv.Does.pure rfl rfl rfl (fun w hS => re_err rfl rfl)) ?_
  refine RegEnv.All.step rfl (RegEnv.Does.pure rfl rfl rfl (fun w hS => rfl)) ?_
  refine RegEnv.All.step rfl (RegEnv.Does.pure rfl rfl rfl (fun w hS => rfl)) ?_
  refine RegEnv.All.step rfl (RegEnv.Does.pure rfl rfl rfl (fun w hS => rfl)) ?_
  refine RegEnv.All.step rfl (RegEnv.Does.pure rfl rfl rfl (fun w hS => rfl)) ?_
  refine RegEnv.All.step rfl (RegEnv.Does.call rfl rfl rfl (fun w => re_polyglotkit_Same__ rfl rfl) H11) ?_
  refine RegEnv.All.step rfl (RegEnv.Does.pure rfl rfl rfl (fun w hS => rfl)) ?_
  refine RegEnv.All.step rfl (RegEnv.Does.pure rfl rfl rfl (fun w hS => rfl)) ?_
  refine RegEnv.All.step rfl (RegEnv.Does.pure rfl rfl rfl (fun w hS => rfl)) ?_
  refine RegEnv.All.step rfl (RegEnv.Does.pure rfl rfl rfl (fun w hS => rfl)) ?_
  refine RegEnv.All.step rfl (RegEnv.Does.pure rfl rfl rfl (fun w hS => re_int rfl rfl)) ?_
  refine RegEnv.All.step rfl (RegEnv.Does.pure rfl rfl rfl (fun w hS => rfl)) ?_
  refine RegEnv.All.step rfl (RegEnv.Does.pure rfl rfl rfl (fun w hS => rfl)) ?_
  refine RegEnv.All.step rfl (RegEnv.Does.pure rfl rfl rfl (fun w hS => rfl)) ?_
  refine RegEnv.All.step rfl (RegEnv.Does.pure rfl rfl rfl (fun w hS => rfl)) ?_
  refine RegEnv.All.step rfl (RegEnv.Does.pure rfl rfl rfl (fun w hS => re_err rfl rfl)) ?_
  refine RegEnv.All.step rfl (RegEnv.Does.pure rfl rfl rfl (fun w hS => rfl)) ?_
  refine RegEnv.All.step rfl (RegEnv.Does.pure rfl rfl rfl (fun w hS => rfl)) ?_
  refine RegEnv.All.step rfl (RegEnv.Does.pure rfl rfl rfl (fun w hS => re_load rfl (LQ w hS))) ?_
  refine RegEnv.All.step rfl (RegEnv.Does.pure rfl rfl rfl (fun w hS => re_load rfl (LR w hS))) ?_
  refine RegEnv.All.step rfl (RegEnv.Does.pure rfl rfl rfl (fun w hS => re_prop rfl rfl)) ?_
  refine RegEnv.All.step rfl (RegEnv.Does.pure rfl rfl rfl (fun w hS => rfl)) ?_
  refine RegEnv.All.step rfl (RegEnv.Does.pure rfl rfl rfl (fun w hS => rfl)) ?_
  refine RegEnv.All.step rfl (RegEnv.Does.pure rfl rfl rfl (fun w hS => rfl)) ?_
  refine RegEnv.All.step rfl (RegEnv.Does.pure rfl rfl rfl (fun w hS => rfl)) ?_
  refine RegEnv.All.step rfl (RegEnv.Does.pure rfl rfl rfl (fun w hS => re_bool rfl rfl)) ?_
  refine RegEnv.All.step rfl (RegEnv.Does.pure rfl rfl rfl (fun w hS => rfl)) ?_
  refine RegEnv.All.step rfl (RegEnv.Does.pure rfl rfl rfl (fun w hS => rfl)) ?_
  refine RegEnv.All.step rfl (RegEnv.Does.pure rfl rfl rfl (fun w hS => rfl)) ?_
  refine RegEnv.All.step rfl (RegEnv.Does.pure rfl rfl rfl (fun w hS => rfl)) ?_
  refine RegEnv.All.step rfl (RegEnv.Does.call rfl rfl rfl (fun w => re_prop_Same rfl rfl) H12) ?_
  refine RegEnv.All.step rfl (RegEnv.Does.pure rfl rfl rfl (fun w hS => rfl)) ?_
  refine RegEnv.All.step rfl (RegEnv.Does.pure rfl rfl rfl (fun w hS => rfl)) ?_
  refine RegEnv.All.step rfl (RegEnv.Does.call rfl rfl rfl (fun w => re_polyglotref05_Same rfl rfl) H13) ?_
  refine RegEnv.All.step rfl (RegEnv.Does.pure rfl rfl rfl (fun w hS => re_bool rfl rfl)) ?_
  refine RegEnv.All.step rfl (RegEnv.Does.pure rfl rfl rfl (fun w hS => rfl)) ?_
  refine RegEnv.All.step rfl (RegEnv.Does.pure rfl rfl rfl (fun w hS => rfl)) ?_
  refine RegEnv.All.step rfl (RegEnv.Does.pure rfl rfl rfl (fun w hS => rfl)) ?_
  refine RegEnv.All.step rfl (RegEnv.Does.pure rfl rfl rfl (fun w hS => rfl)) ?_
  refine RegEnv.All.step rfl (RegEnv.Does.call rfl rfl rfl (fun w => re_prop_Same rfl rfl) H14) ?_
  refine RegEnv.All.step rfl (RegEnv.Does.pure rfl rfl rfl (fun w hS => rfl)) ?_
  refine RegEnv.All.step rfl (RegEnv.Does.pure rfl rfl rfl (fun w hS => rfl)) ?_
  exact RegEnv.All.fin rfl
end Go.Proofs.YtckdbnndpoleeaaGreat
