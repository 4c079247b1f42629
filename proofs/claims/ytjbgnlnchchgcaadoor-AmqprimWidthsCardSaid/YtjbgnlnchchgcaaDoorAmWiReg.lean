/-
  The region of AmqprimWidths that asks whether a number that fits a narrow constructor fits a wide one, four ways. No condition.
-/
import Derived.Test.YtjbgnlnchchgcaaDoorRegEnv
import Derived.Test.YtjbgnlnchchgcaaDoorKit
import Derived.Test.YtjbgnlnchchgcaaDoorVaKit
namespace Go.Proofs.YtjbgnlnchchgcaaDoor
open Go.RowKit

section
variable {a : Act} {w : World} {d : Option Tmp} {p : String} {af : Array Edge} {gd : Option (Nat × Bool)} {x y z : Tmp} {r : TypeId}
theorem wk_f2 {g : Nat} (hx : a.eval (.tmp x) = .pointer (some ⟨g, 0, none⟩)) :
    (execOp a.eval { dst := d, op := .fieldAddr 32 (.tmp x) 2, type := r, pos := p, after := af, guard := gd }).run Tryd.prog w = .ok (.value (.pointer (some ⟨g, 2, none⟩))) w := by
  generalize a.eval = f at *
  go_simp
theorem wk_int {g j : Nat} {v : Int} (hx : a.eval (.tmp x) = .pointer (some ⟨g, j, none⟩)) (hc : w.cell? ⟨g, j, none⟩ = some (.int .i64 v)) :
    (execOp a.eval { dst := d, op := .load 3 (.tmp x), type := 3, pos := p, after := af, guard := gd }).run Tryd.prog w = .ok (.value (.int .i64 v)) w := by
  generalize a.eval = f at *
  go_simp
theorem wk_ix {g n c i : Nat} (hx : a.eval (.tmp x) = .slice (some ⟨g, 0, none⟩) n c) (hy : a.eval (.tmp y) = .int .i64 (i : Int)) (hi : (i : Int) < (n : Int)) :
    (execOp a.eval { dst := d, op := .indexAddr 41 (.tmp x) (.tmp y), type := r, pos := p, after := af, guard := gd }).run Tryd.prog w = .ok (.value (.pointer (some ⟨g, i, none⟩))) w := by
  generalize a.eval = f at *
  go_simp
theorem wk_row {g : Nat} {C : Array Value} (hx : a.eval (.tmp x) = .pointer (some ⟨g, 0, none⟩)) (hs : C.size = 4) (hg : w.heap[g]? = some (.cells C 26 (0, 0))) :
    (execOp a.eval { dst := d, op := .load 26 (.tmp x), type := 26, pos := p, after := af, guard := gd }).run Tryd.prog w = .ok (.value (.agg C)) w := by
  have h := run_loadVar_row (P := Tryd.prog) w g 26 26 C (0, 0) _ hg Tryd.underlying26 rfl (by rw [hs]; exact info_va)
  simp [execOp, hx, Instr.loadAt, Instr.sureAddr, Sem.run_bind, Result.andThen, h]
theorem wk_not {b : Bool} (hx : a.eval (.tmp x) = .bool b) :
    (execOp a.eval { dst := d, op := .unOp .not 4 (.tmp x), type := r, pos := p, after := af, guard := gd }).run Tryd.prog w = .ok (.value (.bool !b)) w := by
  generalize a.eval = f at *
  go_simp
theorem wk_gtz {v : Int} {b : Bool} (hx : a.eval (.tmp x) = .int .i64 v) (hb : decide (0 < v) = b) :
    (execOp a.eval { dst := d, op := .binOp .gtr 3 (.tmp x) (.const (.int .i64 0)) 3, type := r, pos := p, after := af, guard := gd }).run Tryd.prog w = .ok (.value (.bool b)) w := by
  have h0 : a.eval (.const (.int .i64 0)) = .int .i64 0 := rfl
  subst hb
  generalize a.eval = f at *
  go_simp
theorem wk_le {v u : Int} {b : Bool} (hx : a.eval (.tmp x) = .int .i64 v) (hy : a.eval (.tmp y) = .int .i64 u) (hb : decide (v ≤ u) = b) :
    (execOp a.eval { dst := d, op := .binOp .leq 3 (.tmp x) (.tmp y) 3, type := r, pos := p, after := af, guard := gd }).run Tryd.prog w = .ok (.value (.bool b)) w := by
  subst hb
  generalize a.eval = f at *
  go_simp
theorem re_amqprim_Fits {ts : Array TypeId} {u v : Value} (hx : a.eval (.tmp x) = u) (hy : a.eval (.tmp y) = v) :
    (execOp a.eval { dst := d, op := .call { callee := .value (.func 20), args := #[.tmp x, .tmp y], argTypes := ts }, type := r, pos := p, after := af, guard := gd }).run Tryd.prog w = .ok (.enter 20 #[u, v]) w := by
  have hf : a.eval (.func 20) = .func (.func 20) #[] #[] := rfl
  generalize a.eval = f at *
  go_simp
end
set_option maxRecDepth 100000 in
set_option maxHeartbeats 4000000 in
theorem wid_0 {Q : Exit → Act → World → Prop} {S : World → Prop} {W : World} {p q g l i j n c : Nat} {a1 : Int} {x0 x1 x5 x6 x7 x8 x11 x13 x14 x15 x16 x17 x18 x19 x20 x21 x22 x23 x24 x25 x26 x27 x28 x29 x30 x31 x32 x33 x34 x35 x36 x37 x38 x39 x40 x41 x42 x43 x44 x45 x46 x47 x48 x49 x50 x51 x52 x53 x54 x55 x56 x57 x58 x59 x60 x61 x62 x63 x64 x65 x66 x67 x68 x69 x70 x71 x72 x73 x74 x75 x76 x77 x78 x79 x80 x81 x82 x83 x84 x85 x86 x87 x88 x89 x90 x91 x92 x93 x94 x95 x96 x97 x98 x99 x100 x101 x102 x103 x104 x105 x106 x107 x108 x109 x110 x111 x112 x113 x114 x115 x116 x117 x118 x119 x120 x121 x122 x123 x124 x125 x126 x127 x128 x129 x130 x131 x132 x133 x134 x135 x136 x137 x138 x139 x140 x141 x142 x143 x144 x145 x146 x147 x148 x149 x150 x151 : Value}
    (hS : S W.drew) (KP : ∀ w, S w → w.cell? ⟨p, 2, none⟩ = some (.int .i64 a1)) (h0 : decide (0 < a1) = false)
    (fin : ∀ w, S w → Q .normal ⟨#[x0, x1, (.int .i64 (i : Nat)), (.int .i64 (j : Nat)), (.pointer (some ⟨g, 0, none⟩)), x5, x6, x7, x8, (.slice (some ⟨l, 0, none⟩) n c), (.pointer (some ⟨p, 0, none⟩)), x11, (.pointer (some ⟨q, 0, none⟩)), x13, x14, x15, x16, x17, x18, x19, x20, x21, x22, x23, x24, x25, x26, x27, x28, x29, x30, x31, x32, x33, x34, x35, x36, x37, x38, x39, x40, x41, x42, x43, x44, x45, x46, x47, x48, x49, x50, x51, x52, x53, x54, x55, x56, x57, x58, x59, x60, x61, x62, (.pointer (some ⟨p, 2, none⟩)), (.int .i64 a1), (.bool false), (.bool false), undef, undef, undef, undef, undef, (.bool false), (.bool false), undef, undef, undef, undef, undef, undef, (.bool false), (.bool false), undef, undef, undef, undef, undef, undef, undef, (.bool false), x90, x91, x92, x93, x94, x95, x96, x97, x98, x99, x100, x101, x102, x103, x104, x105, x106, x107, x108, x109, x110, x111, x112, x113, x114, x115, x116, x117, x118, x119, x120, x121, x122, x123, x124, x125, x126, x127, x128, x129, x130, x131, x132, x133, x134, x135, x136, x137, x138, x139, x140, x141, x142, x143, x144, x145, x146, x147, x148, x149, x150, x151], []⟩ w) :
    (Code.region 11 (RegEnv.opsAt 11 Tryd.f7.body) true).wp Tryd.prog Q ⟨#[x0, x1, (.int .i64 (i : Nat)), (.int .i64 (j : Nat)), (.pointer (some ⟨g, 0, none⟩)), x5, x6, x7, x8, (.slice (some ⟨l, 0, none⟩) n c), (.pointer (some ⟨p, 0, none⟩)), x11, (.pointer (some ⟨q, 0, none⟩)), x13, x14, x15, x16, x17, x18, x19, x20, x21, x22, x23, x24, x25, x26, x27, x28, x29, x30, x31, x32, x33, x34, x35, x36, x37, x38, x39, x40, x41, x42, x43, x44, x45, x46, x47, x48, x49, x50, x51, x52, x53, x54, x55, x56, x57, x58, x59, x60, x61, x62, x63, x64, x65, x66, x67, x68, x69, x70, x71, x72, x73, x74, x75, x76, x77, x78, x79, x80, x81, x82, x83, x84, x85, x86, x87, x88, x89, x90, x91, x92, x93, x94, x95, x96, x97, x98, x99, x100, x101, x102, x103, x104, x105, x106, x107, x108, x109, x110, x111, x112, x113, x114, x115, x116, x117, x118, x119, x120, x121, x122, x123, x124, x125, x126, x127, x128, x129, x130, x131, x132, x133, x134, x135, x136, x137, x138, x139, x140, x141, x142, x143, x144, x145, x146, x147, x148, x149, x150, x151], []⟩ W := by
  refine RegEnv.wp_in (ds := [63, 64, 65, 66, 67, 68, 69, 70, 71, 72, 73, 74, 75, 76, 77, 78, 79, 80, 81, 82, 83, 84, 85, 86, 87, 88, 89]) (A := [x0, x1, (.int .i64 (i : Nat)), (.int .i64 (j : Nat)), (.pointer (some ⟨g, 0, none⟩)), x5, x6, x7, x8, (.slice (some ⟨l, 0, none⟩) n c), (.pointer (some ⟨p, 0, none⟩)), x11, (.pointer (some ⟨q, 0, none⟩)), x13, x14, x15, x16, x17, x18, x19, x20, x21, x22, x23, x24, x25, x26, x27, x28, x29, x30, x31, x32, x33, x34, x35, x36, x37, x38, x39, x40, x41, x42, x43, x44, x45, x46, x47, x48, x49, x50, x51, x52, x53, x54, x55, x56, x57, x58, x59, x60, x61, x62, x63, x64, x65, x66, x67, x68, x69, x70, x71, x72, x73, x74, x75, x76, x77, x78, x79, x80, x81, x82, x83, x84, x85, x86, x87, x88, x89, x90, x91, x92, x93, x94, x95, x96, x97, x98, x99, x100, x101, x102, x103, x104, x105, x106, x107, x108, x109, x110, x111, x112, x113, x114, x115, x116, x117, x118, x119, x120, x121, x122, x123, x124, x125, x126, x127, x128, x129, x130, x131, x132, x133, x134, x135, x136, x137, x138, x139, x140, x141, x142, x143, x144, x145, x146, x147, x148, x149, x150, x151]) (B := [x0, x1, (.int .i64 (i : Nat)), (.int .i64 (j : Nat)), (.pointer (some ⟨g, 0, none⟩)), x5, x6, x7, x8, (.slice (some ⟨l, 0, none⟩) n c), (.pointer (some ⟨p, 0, none⟩)), x11, (.pointer (some ⟨q, 0, none⟩)), x13, x14, x15, x16, x17, x18, x19, x20, x21, x22, x23, x24, x25, x26, x27, x28, x29, x30, x31, x32, x33, x34, x35, x36, x37, x38, x39, x40, x41, x42, x43, x44, x45, x46, x47, x48, x49, x50, x51, x52, x53, x54, x55, x56, x57, x58, x59, x60, x61, x62, (.pointer (some ⟨p, 2, none⟩)), (.int .i64 a1), (.bool false), (.bool false), undef, undef, undef, undef, undef, (.bool false), (.bool false), undef, undef, undef, undef, undef, undef, (.bool false), (.bool false), undef, undef, undef, undef, undef, undef, undef, (.bool false), x90, x91, x92, x93, x94, x95, x96, x97, x98, x99, x100, x101, x102, x103, x104, x105, x106, x107, x108, x109, x110, x111, x112, x113, x114, x115, x116, x117, x118, x119, x120, x121, x122, x123, x124, x125, x126, x127, x128, x129, x130, x131, x132, x133, x134, x135, x136, x137, x138, x139, x140, x141, x142, x143, x144, x145, x146, x147, x148, x149, x150, x151]) (D := []) (by kernel_rfl) (by kernel_rfl) (by kernel_rfl) ?_ hS ?_ fin
  · exact (by repeat (first | exact trivial | refine ⟨.inr rfl, ?_⟩ | refine ⟨.inl rfl, ?_⟩))
  refine RegEnv.All.step rfl (RegEnv.Does.pure rfl rfl rfl (fun w hS => wk_f2 rfl)) ?_
  refine RegEnv.All.step rfl (RegEnv.Does.pure rfl rfl rfl (fun w hS => wk_int rfl (KP w hS))) ?_
  refine RegEnv.All.step rfl (RegEnv.Does.pure rfl rfl rfl (fun w hS => wk_gtz rfl h0)) ?_
  refine RegEnv.All.step rfl (RegEnv.Does.pure rfl rfl rfl (fun w hS => rfl)) ?_
  refine RegEnv.All.step rfl (RegEnv.Does.skip rfl rfl rfl) ?_
  refine RegEnv.All.step rfl (RegEnv.Does.skip rfl rfl rfl) ?_
  refine RegEnv.All.step rfl (RegEnv.Does.skip rfl rfl rfl) ?_
  refine RegEnv.All.step rfl (RegEnv.Does.skip rfl rfl rfl) ?_
  refine RegEnv.All.step rfl (RegEnv.Does.skip rfl rfl rfl) ?_
  refine RegEnv.All.step rfl (RegEnv.Does.pure rfl rfl rfl (fun w hS => rfl)) ?_
  refine RegEnv.All.step rfl (RegEnv.Does.pure rfl rfl rfl (fun w hS => rfl)) ?_
  refine RegEnv.All.step rfl (RegEnv.Does.skip rfl rfl rfl) ?_
  refine RegEnv.All.step rfl (RegEnv.Does.skip rfl rfl rfl) ?_
  refine RegEnv.All.step rfl (RegEnv.Does.skip rfl rfl rfl) ?_
  refine RegEnv.All.step rfl (RegEnv.Does.skip rfl rfl rfl) ?_
  refine RegEnv.All.step rfl (RegEnv.Does.skip rfl rfl rfl) ?_
  refine RegEnv.All.step rfl (RegEnv.Does.skip rfl rfl rfl) ?_
  refine RegEnv.All.step rfl (RegEnv.Does.pure rfl rfl rfl (fun w hS => rfl)) ?_
  refine RegEnv.All.step rfl (RegEnv.Does.pure rfl rfl rfl (fun w hS => rfl)) ?_
  refine RegEnv.All.step rfl (RegEnv.Does.skip rfl rfl rfl) ?_
  refine RegEnv.All.step rfl (RegEnv.Does.skip rfl rfl rfl) ?_
  refine RegEnv.All.step rfl (RegEnv.Does.skip rfl rfl rfl) ?_
  refine RegEnv.All.step rfl (RegEnv.Does.skip rfl rfl rfl) ?_
  refine RegEnv.All.step rfl (RegEnv.Does.skip rfl rfl rfl) ?_
  refine RegEnv.All.step rfl (RegEnv.Does.skip rfl rfl rfl) ?_
  refine RegEnv.All.step rfl (RegEnv.Does.skip rfl rfl rfl) ?_
  refine RegEnv.All.step rfl (RegEnv.Does.pure rfl rfl rfl (fun w hS => rfl)) ?_
  exact RegEnv.All.fin rfl
set_option maxRecDepth 100000 in
set_option maxHeartbeats 4000000 in
theorem wid_1 {Q : Exit → Act → World → Prop} {S : World → Prop} {W : World} {p q g l i j n c : Nat} {a1 a2 : Int} {x0 x1 x5 x6 x7 x8 x11 x13 x14 x15 x16 x17 x18 x19 x20 x21 x22 x23 x24 x25 x26 x27 x28 x29 x30 x31 x32 x33 x34 x35 x36 x37 x38 x39 x40 x41 x42 x43 x44 x45 x46 x47 x48 x49 x50 x51 x52 x53 x54 x55 x56 x57 x58 x59 x60 x61 x62 x63 x64 x65 x66 x67 x68 x69 x70 x71 x72 x73 x74 x75 x76 x77 x78 x79 x80 x81 x82 x83 x84 x85 x86 x87 x88 x89 x90 x91 x92 x93 x94 x95 x96 x97 x98 x99 x100 x101 x102 x103 x104 x105 x106 x107 x108 x109 x110 x111 x112 x113 x114 x115 x116 x117 x118 x119 x120 x121 x122 x123 x124 x125 x126 x127 x128 x129 x130 x131 x132 x133 x134 x135 x136 x137 x138 x139 x140 x141 x142 x143 x144 x145 x146 x147 x148 x149 x150 x151 : Value}
    (hS : S W.drew) (KP : ∀ w, S w → w.cell? ⟨p, 2, none⟩ = some (.int .i64 a1)) (h0 : decide (0 < a1) = true) (KQ : ∀ w, S w → w.cell? ⟨q, 2, none⟩ = some (.int .i64 a2)) (h1 : decide (a1 ≤ a2) = false)
    (fin : ∀ w, S w → Q .normal ⟨#[x0, x1, (.int .i64 (i : Nat)), (.int .i64 (j : Nat)), (.pointer (some ⟨g, 0, none⟩)), x5, x6, x7, x8, (.slice (some ⟨l, 0, none⟩) n c), (.pointer (some ⟨p, 0, none⟩)), x11, (.pointer (some ⟨q, 0, none⟩)), x13, x14, x15, x16, x17, x18, x19, x20, x21, x22, x23, x24, x25, x26, x27, x28, x29, x30, x31, x32, x33, x34, x35, x36, x37, x38, x39, x40, x41, x42, x43, x44, x45, x46, x47, x48, x49, x50, x51, x52, x53, x54, x55, x56, x57, x58, x59, x60, x61, x62, (.pointer (some ⟨p, 2, none⟩)), (.int .i64 a1), (.bool true), (.bool true), (.pointer (some ⟨p, 2, none⟩)), (.int .i64 a1), (.pointer (some ⟨q, 2, none⟩)), (.int .i64 a2), (.bool false), (.bool false), (.bool false), undef, undef, undef, undef, undef, undef, (.bool false), (.bool false), undef, undef, undef, undef, undef, undef, undef, (.bool false), x90, x91, x92, x93, x94, x95, x96, x97, x98, x99, x100, x101, x102, x103, x104, x105, x106, x107, x108, x109, x110, x111, x112, x113, x114, x115, x116, x117, x118, x119, x120, x121, x122, x123, x124, x125, x126, x127, x128, x129, x130, x131, x132, x133, x134, x135, x136, x137, x138, x139, x140, x141, x142, x143, x144, x145, x146, x147, x148, x149, x150, x151], []⟩ w) :
    (Code.region 11 (RegEnv.opsAt 11 Tryd.f7.body) true).wp Tryd.prog Q ⟨#[x0, x1, (.int .i64 (i : Nat)), (.int .i64 (j : Nat)), (.pointer (some ⟨g, 0, none⟩)), x5, x6, x7, x8, (.slice (some ⟨l, 0, none⟩) n c), (.pointer (some ⟨p, 0, none⟩)), x11, (.pointer (some ⟨q, 0, none⟩)), x13, x14, x15, x16, x17, x18, x19, x20, x21, x22, x23, x24, x25, x26, x27, x28, x29, x30, x31, x32, x33, x34, x35, x36, x37, x38, x39, x40, x41, x42, x43, x44, x45, x46, x47, x48, x49, x50, x51, x52, x53, x54, x55, x56, x57, x58, x59, x60, x61, x62, x63, x64, x65, x66, x67, x68, x69, x70, x71, x72, x73, x74, x75, x76, x77, x78, x79, x80, x81, x82, x83, x84, x85, x86, x87, x88, x89, x90, x91, x92, x93, x94, x95, x96, x97, x98, x99, x100, x101, x102, x103, x104, x105, x106, x107, x108, x109, x110, x111, x112, x113, x114, x115, x116, x117, x118, x119, x120, x121, x122, x123, x124, x125, x126, x127, x128, x129, x130, x131, x132, x133, x134, x135, x136, x137, x138, x139, x140, x141, x142, x143, x144, x145, x146, x147, x148, x149, x150, x151], []⟩ W := by
  refine RegEnv.wp_in (ds := [63, 64, 65, 66, 67, 68, 69, 70, 71, 72, 73, 74, 75, 76, 77, 78, 79, 80, 81, 82, 83, 84, 85, 86, 87, 88, 89]) (A := [x0, x1, (.int .i64 (i : Nat)), (.int .i64 (j : Nat)), (.pointer (some ⟨g, 0, none⟩)), x5, x6, x7, x8, (.slice (some ⟨l, 0, none⟩) n c), (.pointer (some ⟨p, 0, none⟩)), x11, (.pointer (some ⟨q, 0, none⟩)), x13, x14, x15, x16, x17, x18, x19, x20, x21, x22, x23, x24, x25, x26, x27, x28, x29, x30, x31, x32, x33, x34, x35, x36, x37, x38, x39, x40, x41, x42, x43, x44, x45, x46, x47, x48, x49, x50, x51, x52, x53, x54, x55, x56, x57, x58, x59, x60, x61, x62, x63, x64, x65, x66, x67, x68, x69, x70, x71, x72, x73, x74, x75, x76, x77, x78, x79, x80, x81, x82, x83, x84, x85, x86, x87, x88, x89, x90, x91, x92, x93, x94, x95, x96, x97, x98, x99, x100, x101, x102, x103, x104, x105, x106, x107, x108, x109, x110, x111, x112, x113, x114, x115, x116, x117, x118, x119, x120, x121, x122, x123, x124, x125, x126, x127, x128, x129, x130, x131, x132, x133, x134, x135, x136, x137, x138, x139, x140, x141, x142, x143, x144, x145, x146, x147, x148, x149, x150, x151]) (B := [x0, x1, (.int .i64 (i : Nat)), (.int .i64 (j : Nat)), (.pointer (some ⟨g, 0, none⟩)), x5, x6, x7, x8, (.slice (some ⟨l, 0, none⟩) n c), (.pointer (some ⟨p, 0, none⟩)), x11, (.pointer (some ⟨q, 0, none⟩)), x13, x14, x15, x16, x17, x18, x19, x20, x21, x22, x23, x24, x25, x26, x27, x28, x29, x30, x31, x32, x33, x34, x35, x36, x37, x38, x39, x40, x41, x42, x43, x44, x45, x46, x47, x48, x49, x50, x51, x52, x53, x54, x55, x56, x57, x58, x59, x60, x61, x62, (.pointer (some ⟨p, 2, none⟩)), (.int .i64 a1), (.bool true), (.bool true), (.pointer (some ⟨p, 2, none⟩)), (.int .i64 a1), (.pointer (some ⟨q, 2, none⟩)), (.int .i64 a2), (.bool false), (.bool false), (.bool false), undef, undef, undef, undef, undef, undef, (.bool false), (.bool false), undef, undef, undef, undef, undef, undef, undef, (.bool false), x90, x91, x92, x93, x94, x95, x96, x97, x98, x99, x100, x101, x102, x103, x104, x105, x106, x107, x108, x109, x110, x111, x112, x113, x114, x115, x116, x117, x118, x119, x120, x121, x122, x123, x124, x125, x126, x127, x128, x129, x130, x131, x132, x133, x134, x135, x136, x137, x138, x139, x140, x141, x142, x143, x144, x145, x146, x147, x148, x149, x150, x151]) (D := []) (by kernel_rfl) (by kernel_rfl) (by kernel_rfl) ?_ hS ?_ fin
  · exact (by repeat (first | exact trivial | refine ⟨.inr rfl, ?_⟩ | refine ⟨.inl rfl, ?_⟩))
  refine RegEnv.All.step rfl (RegEnv.Does.pure rfl rfl rfl (fun w hS => wk_f2 rfl)) ?_
  refine RegEnv.All.step rfl (RegEnv.Does.pure rfl rfl rfl (fun w hS => wk_int rfl (KP w hS))) ?_
  refine RegEnv.All.step rfl (RegEnv.Does.pure rfl rfl rfl (fun w hS => wk_gtz rfl h0)) ?_
  refine RegEnv.All.step rfl (RegEnv.Does.pure rfl rfl rfl (fun w hS => rfl)) ?_
  refine RegEnv.All.step rfl (RegEnv.Does.pure rfl rfl rfl (fun w hS => wk_f2 rfl)) ?_
  refine RegEnv.All.step rfl (RegEnv.Does.pure rfl rfl rfl (fun w hS => wk_int rfl (KP w hS))) ?_
  refine RegEnv.All.step rfl (RegEnv.Does.pure rfl rfl rfl (fun w hS => wk_f2 rfl)) ?_
  refine RegEnv.All.step rfl (RegEnv.Does.pure rfl rfl rfl (fun w hS => wk_int rfl (KQ w hS))) ?_
  refine RegEnv.All.step rfl (RegEnv.Does.pure rfl rfl rfl (fun w hS => wk_le rfl rfl h1)) ?_
  refine RegEnv.All.step rfl (RegEnv.Does.pure rfl rfl rfl (fun w hS => rfl)) ?_
  refine RegEnv.All.step rfl (RegEnv.Does.pure rfl rfl rfl (fun w hS => rfl)) ?_
  refine RegEnv.All.step rfl (RegEnv.Does.skip rfl rfl rfl) ?_
  refine RegEnv.All.step rfl (RegEnv.Does.skip rfl rfl rfl) ?_
  refine RegEnv.All.step rfl (RegEnv.Does.skip rfl rfl rfl) ?_
  refine RegEnv.All.step rfl (RegEnv.Does.skip rfl rfl rfl) ?_
  refine RegEnv.All.step rfl (RegEnv.Does.skip rfl rfl rfl) ?_
  refine RegEnv.All.step rfl (RegEnv.Does.skip rfl rfl rfl) ?_
  refine RegEnv.All.step rfl (RegEnv.Does.pure rfl rfl rfl (fun w hS => rfl)) ?_
  refine RegEnv.All.step rfl (RegEnv.Does.pure rfl rfl rfl (fun w hS => rfl)) ?_
  refine RegEnv.All.step rfl (RegEnv.Does.skip rfl rfl rfl) ?_
  refine RegEnv.All.step rfl (RegEnv.Does.skip rfl rfl rfl) ?_
  refine RegEnv.All.step rfl (RegEnv.Does.skip rfl rfl rfl) ?_
  refine RegEnv.All.step rfl (RegEnv.Does.skip rfl rfl rfl) ?_
  refine RegEnv.All.step rfl (RegEnv.Does.skip rfl rfl rfl) ?_
  refine RegEnv.All.step rfl (RegEnv.Does.skip rfl rfl rfl) ?_
  refine RegEnv.All.step rfl (RegEnv.Does.skip rfl rfl rfl) ?_
  refine RegEnv.All.step rfl (RegEnv.Does.pure rfl rfl rfl (fun w hS => rfl)) ?_
  exact RegEnv.All.fin rfl
set_option maxRecDepth 100000 in
set_option maxHeartbeats 4000000 in
theorem wid_2 {Q : Exit → Act → World → Prop} {S : World → Prop} {W : World} {p q g l i j n c : Nat} {a1 a2 x : Int} {C : Array Value} {x0 x1 x5 x6 x7 x8 x11 x13 x14 x15 x16 x17 x18 x19 x20 x21 x22 x23 x24 x25 x26 x27 x28 x29 x30 x31 x32 x33 x34 x35 x36 x37 x38 x39 x40 x41 x42 x43 x44 x45 x46 x47 x48 x49 x50 x51 x52 x53 x54 x55 x56 x57 x58 x59 x60 x61 x62 x63 x64 x65 x66 x67 x68 x69 x70 x71 x72 x73 x74 x75 x76 x77 x78 x79 x80 x81 x82 x83 x84 x85 x86 x87 x88 x89 x90 x91 x92 x93 x94 x95 x96 x97 x98 x99 x100 x101 x102 x103 x104 x105 x106 x107 x108 x109 x110 x111 x112 x113 x114 x115 x116 x117 x118 x119 x120 x121 x122 x123 x124 x125 x126 x127 x128 x129 x130 x131 x132 x133 x134 x135 x136 x137 x138 x139 x140 x141 x142 x143 x144 x145 x146 x147 x148 x149 x150 x151 : Value}
    (hS : S W.drew) (KP : ∀ w, S w → w.cell? ⟨p, 2, none⟩ = some (.int .i64 a1)) (h0 : decide (0 < a1) = true) (KQ : ∀ w, S w → w.cell? ⟨q, 2, none⟩ = some (.int .i64 a2)) (h1 : decide (a1 ≤ a2) = true)
    (hC : C.size = 4) (KR : ∀ w, S w → w.heap[g]? = some (.cells C 26 (0, 0))) (hi : (i : Int) < (n : Int)) (KI : ∀ w, S w → w.cell? ⟨l, i, none⟩ = some (.int .i64 x))
    (FX : ∀ w, S w → Calls Tryd.prog 20 #[.int .i64 x, .agg C] w fun e w' => e = .returned (.bool false) ∧ S w')
    (fin : ∀ w, S w → Q .normal ⟨#[x0, x1, (.int .i64 (i : Nat)), (.int .i64 (j : Nat)), (.pointer (some ⟨g, 0, none⟩)), x5, x6, x7, x8, (.slice (some ⟨l, 0, none⟩) n c), (.pointer (some ⟨p, 0, none⟩)), x11, (.pointer (some ⟨q, 0, none⟩)), x13, x14, x15, x16, x17, x18, x19, x20, x21, x22, x23, x24, x25, x26, x27, x28, x29, x30, x31, x32, x33, x34, x35, x36, x37, x38, x39, x40, x41, x42, x43, x44, x45, x46, x47, x48, x49, x50, x51, x52, x53, x54, x55, x56, x57, x58, x59, x60, x61, x62, (.pointer (some ⟨p, 2, none⟩)), (.int .i64 a1), (.bool true), (.bool true), (.pointer (some ⟨p, 2, none⟩)), (.int .i64 a1), (.pointer (some ⟨q, 2, none⟩)), (.int .i64 a2), (.bool true), (.bool true), (.bool true), (.slice (some ⟨l, 0, none⟩) n c), (.int .i64 (i : Nat)), (.pointer (some ⟨l, i, none⟩)), (.int .i64 x), (.agg C), (.bool false), (.bool false), (.bool false), undef, undef, undef, undef, undef, undef, undef, (.bool false), x90, x91, x92, x93, x94, x95, x96, x97, x98, x99, x100, x101, x102, x103, x104, x105, x106, x107, x108, x109, x110, x111, x112, x113, x114, x115, x116, x117, x118, x119, x120, x121, x122, x123, x124, x125, x126, x127, x128, x129, x130, x131, x132, x133, x134, x135, x136, x137, x138, x139, x140, x141, x142, x143, x144, x145, x146, x147, x148, x149, x150, x151], []⟩ w) :
    (Code.region 11 (RegEnv.opsAt 11 Tryd.f7.body) true).wp Tryd.prog Q ⟨#[x0, x1, (.int .i64 (i : Nat)), (.int .i64 (j : Nat)), (.pointer (some ⟨g, 0, none⟩)), x5, x6, x7, x8, (.slice (some ⟨l, 0, none⟩) n c), (.pointer (some ⟨p, 0, none⟩)), x11, (.pointer (some ⟨q, 0, none⟩)), x13, x14, x15, x16, x17, x18, x19, x20, x21, x22, x23, x24, x25, x26, x27, x28, x29, x30, x31, x32, x33, x34, x35, x36, x37, x38, x39, x40, x41, x42, x43, x44, x45, x46, x47, x48, x49, x50, x51, x52, x53, x54, x55, x56, x57, x58, x59, x60, x61, x62, x63, x64, x65, x66, x67, x68, x69, x70, x71, x72, x73, x74, x75, x76, x77, x78, x79, x80, x81, x82, x83, x84, x85, x86, x87, x88, x89, x90, x91, x92, x93, x94, x95, x96, x97, x98, x99, x100, x101, x102, x103, x104, x105, x106, x107, x108, x109, x110, x111, x112, x113, x114, x115, x116, x117, x118, x119, x120, x121, x122, x123, x124, x125, x126, x127, x128, x129, x130, x131, x132, x133, x134, x135, x136, x137, x138, x139, x140, x141, x142, x143, x144, x145, x146, x147, x148, x149, x150, x151], []⟩ W := by
  refine RegEnv.wp_in (ds := [63, 64, 65, 66, 67, 68, 69, 70, 71, 72, 73, 74, 75, 76, 77, 78, 79, 80, 81, 82, 83, 84, 85, 86, 87, 88, 89]) (A := [x0, x1, (.int .i64 (i : Nat)), (.int .i64 (j : Nat)), (.pointer (some ⟨g, 0, none⟩)), x5, x6, x7, x8, (.slice (some ⟨l, 0, none⟩) n c), (.pointer (some ⟨p, 0, none⟩)), x11, (.pointer (some ⟨q, 0, none⟩)), x13, x14, x15, x16, x17, x18, x19, x20, x21, x22, x23, x24, x25, x26, x27, x28, x29, x30, x31, x32, x33, x34, x35, x36, x37, x38, x39, x40, x41, x42, x43, x44, x45, x46, x47, x48, x49, x50, x51, x52, x53, x54, x55, x56, x57, x58, x59, x60, x61, x62, x63, x64, x65, x66, x67, x68, x69, x70, x71, x72, x73, x74, x75, x76, x77, x78, x79, x80, x81, x82, x83, x84, x85, x86, x87, x88, x89, x90, x91, x92, x93, x94, x95, x96, x97, x98, x99, x100, x101, x102, x103, x104, x105, x106, x107, x108, x109, x110, x111, x112, x113, x114, x115, x116, x117, x118, x119, x120, x121, x122, x123, x124, x125, x126, x127, x128, x129, x130, x131, x132, x133, x134, x135, x136, x137, x138, x139, x140, x141, x142, x143, x144, x145, x146, x147, x148, x149, x150, x151]) (B := [x0, x1, (.int .i64 (i : Nat)), (.int .i64 (j : Nat)), (.pointer (some ⟨g, 0, none⟩)), x5, x6, x7, x8, (.slice (some ⟨l, 0, none⟩) n c), (.pointer (some ⟨p, 0, none⟩)), x11, (.pointer (some ⟨q, 0, none⟩)), x13, x14, x15, x16, x17, x18, x19, x20, x21, x22, x23, x24, x25, x26, x27, x28, x29, x30, x31, x32, x33, x34, x35, x36, x37, x38, x39, x40, x41, x42, x43, x44, x45, x46, x47, x48, x49, x50, x51, x52, x53, x54, x55, x56, x57, x58, x59, x60, x61, x62, (.pointer (some ⟨p, 2, none⟩)), (.int .i64 a1), (.bool true), (.bool true), (.pointer (some ⟨p, 2, none⟩)), (.int .i64 a1), (.pointer (some ⟨q, 2, none⟩)), (.int .i64 a2), (.bool true), (.bool true), (.bool true), (.slice (some ⟨l, 0, none⟩) n c), (.int .i64 (i : Nat)), (.pointer (some ⟨l, i, none⟩)), (.int .i64 x), (.agg C), (.bool false), (.bool false), (.bool false), undef, undef, undef, undef, undef, undef, undef, (.bool false), x90, x91, x92, x93, x94, x95, x96, x97, x98, x99, x100, x101, x102, x103, x104, x105, x106, x107, x108, x109, x110, x111, x112, x113, x114, x115, x116, x117, x118, x119, x120, x121, x122, x123, x124, x125, x126, x127, x128, x129, x130, x131, x132, x133, x134, x135, x136, x137, x138, x139, x140, x141, x142, x143, x144, x145, x146, x147, x148, x149, x150, x151]) (D := []) (by kernel_rfl) (by kernel_rfl) (by kernel_rfl) ?_ hS ?_ fin
  · exact (by repeat (first | exact trivial | refine ⟨.inr rfl, ?_⟩ | refine ⟨.inl rfl, ?_⟩))
  refine RegEnv.All.step rfl (RegEnv.Does.pure rfl rfl rfl (fun w hS => wk_f2 rfl)) ?_
  refine RegEnv.All.step rfl (RegEnv.Does.pure rfl rfl rfl (fun w hS => wk_int rfl (KP w hS))) ?_
  refine RegEnv.All.step rfl (RegEnv.Does.pure rfl rfl rfl (fun w hS => wk_gtz rfl h0)) ?_
  refine RegEnv.All.step rfl (RegEnv.Does.pure rfl rfl rfl (fun w hS => rfl)) ?_
  refine RegEnv.All.step rfl (RegEnv.Does.pure rfl rfl rfl (fun w hS => wk_f2 rfl)) ?_
  refine RegEnv.All.step rfl (RegEnv.Does.pure rfl rfl rfl (fun w hS => wk_int rfl (KP w hS))) ?_
  refine RegEnv.All.step rfl (RegEnv.Does.pure rfl rfl rfl (fun w hS => wk_f2 rfl)) ?_
  refine RegEnv.All.step rfl (RegEnv.Does.pure rfl rfl rfl (fun w hS => wk_int rfl (KQ w hS))) ?_
  refine RegEnv.All.step rfl (RegEnv.Does.pure rfl rfl rfl (fun w hS => wk_le rfl rfl h1)) ?_
  refine RegEnv.All.step rfl (RegEnv.Does.pure rfl rfl rfl (fun w hS => rfl)) ?_
  refine RegEnv.All.step rfl (RegEnv.Does.pure rfl rfl rfl (fun w hS => rfl)) ?_
  refine RegEnv.All.step rfl (RegEnv.Does.pure rfl rfl rfl (fun w hS => rfl)) ?_
  refine RegEnv.All.step rfl (RegEnv.Does.pure rfl rfl rfl (fun w hS => rfl)) ?_
  refine RegEnv.All.step rfl (RegEnv.Does.pure rfl rfl rfl (fun w hS => wk_ix rfl rfl hi)) ?_
  refine RegEnv.All.step rfl (RegEnv.Does.pure rfl rfl rfl (fun w hS => wk_int rfl (KI w hS))) ?_
  refine RegEnv.All.step rfl (RegEnv.Does.pure rfl rfl rfl (fun w hS => wk_row rfl hC (KR w hS))) ?_
  refine RegEnv.All.step rfl (RegEnv.Does.call rfl rfl rfl (fun w => re_amqprim_Fits rfl rfl) FX) ?_
  refine RegEnv.All.step rfl (RegEnv.Does.pure rfl rfl rfl (fun w hS => rfl)) ?_
  refine RegEnv.All.step rfl (RegEnv.Does.pure rfl rfl rfl (fun w hS => rfl)) ?_
  refine RegEnv.All.step rfl (RegEnv.Does.skip rfl rfl rfl) ?_
  refine RegEnv.All.step rfl (RegEnv.Does.skip rfl rfl rfl) ?_
  refine RegEnv.All.step rfl (RegEnv.Does.skip rfl rfl rfl) ?_
  refine RegEnv.All.step rfl (RegEnv.Does.skip rfl rfl rfl) ?_
  refine RegEnv.All.step rfl (RegEnv.Does.skip rfl rfl rfl) ?_
  refine RegEnv.All.step rfl (RegEnv.Does.skip rfl rfl rfl) ?_
  refine RegEnv.All.step rfl (RegEnv.Does.skip rfl rfl rfl) ?_
  refine RegEnv.All.step rfl (RegEnv.Does.pure rfl rfl rfl (fun w hS => rfl)) ?_
  exact RegEnv.All.fin rfl
set_option maxRecDepth 100000 in
set_option maxHeartbeats 4000000 in
theorem wid_3 {Q : Exit → Act → World → Prop} {S : World → Prop} {W : World} {p q g l i j n c : Nat} {a1 a2 x y : Int} {C : Array Value} {x0 x1 x5 x6 x7 x8 x11 x13 x14 x15 x16 x17 x18 x19 x20 x21 x22 x23 x24 x25 x26 x27 x28 x29 x30 x31 x32 x33 x34 x35 x36 x37 x38 x39 x40 x41 x42 x43 x44 x45 x46 x47 x48 x49 x50 x51 x52 x53 x54 x55 x56 x57 x58 x59 x60 x61 x62 x63 x64 x65 x66 x67 x68 x69 x70 x71 x72 x73 x74 x75 x76 x77 x78 x79 x80 x81 x82 x83 x84 x85 x86 x87 x88 x89 x90 x91 x92 x93 x94 x95 x96 x97 x98 x99 x100 x101 x102 x103 x104 x105 x106 x107 x108 x109 x110 x111 x112 x113 x114 x115 x116 x117 x118 x119 x120 x121 x122 x123 x124 x125 x126 x127 x128 x129 x130 x131 x132 x133 x134 x135 x136 x137 x138 x139 x140 x141 x142 x143 x144 x145 x146 x147 x148 x149 x150 x151 : Value}
    (hS : S W.drew) (KP : ∀ w, S w → w.cell? ⟨p, 2, none⟩ = some (.int .i64 a1)) (h0 : decide (0 < a1) = true) (KQ : ∀ w, S w → w.cell? ⟨q, 2, none⟩ = some (.int .i64 a2)) (h1 : decide (a1 ≤ a2) = true)
    (hC : C.size = 4) (KR : ∀ w, S w → w.heap[g]? = some (.cells C 26 (0, 0))) (hi : (i : Int) < (n : Int)) (KI : ∀ w, S w → w.cell? ⟨l, i, none⟩ = some (.int .i64 x))
    (FX : ∀ w, S w → Calls Tryd.prog 20 #[.int .i64 x, .agg C] w fun e w' => e = .returned (.bool true) ∧ S w')
    (hj : (j : Int) < (n : Int)) (KJ : ∀ w, S w → w.cell? ⟨l, j, none⟩ = some (.int .i64 y))
    (FY : ∀ w, S w → Calls Tryd.prog 20 #[.int .i64 y, .agg C] w fun e w' => e = .returned (.bool true) ∧ S w')
    (fin : ∀ w, S w → Q .normal ⟨#[x0, x1, (.int .i64 (i : Nat)), (.int .i64 (j : Nat)), (.pointer (some ⟨g, 0, none⟩)), x5, x6, x7, x8, (.slice (some ⟨l, 0, none⟩) n c), (.pointer (some ⟨p, 0, none⟩)), x11, (.pointer (some ⟨q, 0, none⟩)), x13, x14, x15, x16, x17, x18, x19, x20, x21, x22, x23, x24, x25, x26, x27, x28, x29, x30, x31, x32, x33, x34, x35, x36, x37, x38, x39, x40, x41, x42, x43, x44, x45, x46, x47, x48, x49, x50, x51, x52, x53, x54, x55, x56, x57, x58, x59, x60, x61, x62, (.pointer (some ⟨p, 2, none⟩)), (.int .i64 a1), (.bool true), (.bool true), (.pointer (some ⟨p, 2, none⟩)), (.int .i64 a1), (.pointer (some ⟨q, 2, none⟩)), (.int .i64 a2), (.bool true), (.bool true), (.bool true), (.slice (some ⟨l, 0, none⟩) n c), (.int .i64 (i : Nat)), (.pointer (some ⟨l, i, none⟩)), (.int .i64 x), (.agg C), (.bool true), (.bool true), (.bool true), (.slice (some ⟨l, 0, none⟩) n c), (.int .i64 (j : Nat)), (.pointer (some ⟨l, j, none⟩)), (.int .i64 y), (.agg C), (.bool true), (.bool false), (.bool false), x90, x91, x92, x93, x94, x95, x96, x97, x98, x99, x100, x101, x102, x103, x104, x105, x106, x107, x108, x109, x110, x111, x112, x113, x114, x115, x116, x117, x118, x119, x120, x121, x122, x123, x124, x125, x126, x127, x128, x129, x130, x131, x132, x133, x134, x135, x136, x137, x138, x139, x140, x141, x142, x143, x144, x145, x146, x147, x148, x149, x150, x151], []⟩ w) :
    (Code.region 11 (RegEnv.opsAt 11 Tryd.f7.body) true).wp Tryd.prog Q ⟨#[x0, x1, (.int .i64 (i : Nat)), (.int .i64 (j : Nat)), (.pointer (some ⟨g, 0, none⟩)), x5, x6, x7, x8, (.slice (some ⟨l, 0, none⟩) n c), (.pointer (some ⟨p, 0, none⟩)), x11, (.pointer (some ⟨q, 0, none⟩)), x13, x14, x15, x16, x17, x18, x19, x20, x21, x22, x23, x24, x25, x26, x27, x28, x29, x30, x31, x32, x33, x34, x35, x36, x37, x38, x39, x40, x41, x42, x43, x44, x45, x46, x47, x48, x49, x50, x51, x52, x53, x54, x55, x56, x57, x58, x59, x60, x61, x62, x63, x64, x65, x66, x67, x68, x69, x70, x71, x72, x73, x74, x75, x76, x77, x78, x79, x80, x81, x82, x83, x84, x85, x86, x87, x88, x89, x90, x91, x92, x93, x94, x95, x96, x97, x98, x99, x100, x101, x102, x103, x104, x105, x106, x107, x108, x109, x110, x111, x112, x113, x114, x115, x116, x117, x118, x119, x120, x121, x122, x123, x124, x125, x126, x127, x128, x129, x130, x131, x132, x133, x134, x135, x136, x137, x138, x139, x140, x141, x142, x143, x144, x145, x146, x147, x148, x149, x150, x151], []⟩ W := by
  refine RegEnv.wp_in (ds := [63, 64, 65, 66, 67, 68, 69, 70, 71, 72, 73, 74, 75, 76, 77, 78, 79, 80, 81, 82, 83, 84, 85, 86, 87, 88, 89]) (A := [x0, x1, (.int .i64 (i : Nat)), (.int .i64 (j : Nat)), (.pointer (some ⟨g, 0, none⟩)), x5, x6, x7, x8, (.slice (some ⟨l, 0, none⟩) n c), (.pointer (some ⟨p, 0, none⟩)), x11, (.pointer (some ⟨q, 0, none⟩)), x13, x14, x15, x16, x17, x18, x19, x20, x21, x22, x23, x24, x25, x26, x27, x28, x29, x30, x31, x32, x33, x34, x35, x36, x37, x38, x39, x40, x41, x42, x43, x44, x45, x46, x47, x48, x49, x50, x51, x52, x53, x54, x55, x56, x57, x58, x59, x60, x61, x62, x63, x64, x65, x66, x67, x68, x69, x70, x71, x72, x73, x74, x75, x76, x77, x78, x79, x80, x81, x82, x83, x84, x85, x86, x87, x88, x89, x90, x91, x92, x93, x94, x95, x96, x97, x98, x99, x100, x101, x102, x103, x104, x105, x106, x107, x108, x109, x110, x111, x112, x113, x114, x115, x116, x117, x118, x119, x120, x121, x122, x123, x124, x125, x126, x127, x128, x129, x130, x131, x132, x133, x134, x135, x136, x137, x138, x139, x140, x141, x142, x143, x144, x145, x146, x147, x148, x149, x150, x151]) (B := [x0, x1, (.int .i64 (i : Nat)), (.int .i64 (j : Nat)), (.pointer (some ⟨g, 0, none⟩)), x5, x6, x7, x8, (.slice (some ⟨l, 0, none⟩) n c), (.pointer (some ⟨p, 0, none⟩)), x11, (.pointer (some ⟨q, 0, none⟩)), x13, x14, x15, x16, x17, x18, x19, x20, x21, x22, x23, x24, x25, x26, x27, x28, x29, x30, x31, x32, x33, x34, x35, x36, x37, x38, x39, x40, x41, x42, x43, x44, x45, x46, x47, x48, x49, x50, x51, x52, x53, x54, x55, x56, x57, x58, x59, x60, x61, x62, (.pointer (some ⟨p, 2, none⟩)), (.int .i64 a1), (.bool true), (.bool true), (.pointer (some ⟨p, 2, none⟩)), (.int .i64 a1), (.pointer (some ⟨q, 2, none⟩)), (.int .i64 a2), (.bool true), (.bool true), (.bool true), (.slice (some ⟨l, 0, none⟩) n c), (.int .i64 (i : Nat)), (.pointer (some ⟨l, i, none⟩)), (.int .i64 x), (.agg C), (.bool true), (.bool true), (.bool true), (.slice (some ⟨l, 0, none⟩) n c), (.int .i64 (j : Nat)), (.pointer (some ⟨l, j, none⟩)), (.int .i64 y), (.agg C), (.bool true), (.bool false), (.bool false), x90, x91, x92, x93, x94, x95, x96, x97, x98, x99, x100, x101, x102, x103, x104, x105, x106, x107, x108, x109, x110, x111, x112, x113, x114, x115, x116, x117, x118, x119, x120, x121, x122, x123, x124, x125, x126, x127, x128, x129, x130, x131, x132, x133, x134, x135, x136, x137, x138, x139, x140, x141, x142, x143, x144, x145, x146, x147, x148, x149, x150, x151]) (D := []) (by kernel_rfl) (by kernel_rfl) (by kernel_rfl) ?_ hS ?_ fin
  · exact (by repeat (first | exact trivial | refine ⟨.inr rfl, ?_⟩ | refine ⟨.inl rfl, ?_⟩))
  refine RegEnv.All.step rfl (RegEnv.Does.pure rfl rfl rfl (fun w hS => wk_f2 rfl)) ?_
  refine RegEnv.All.step rfl (RegEnv.Does.pure rfl rfl rfl (fun w hS => wk_int rfl (KP w hS))) ?_
  refine RegEnv.All.step rfl (RegEnv.Does.pure rfl rfl rfl (fun w hS => wk_gtz rfl h0)) ?_
  refine RegEnv.All.step rfl (RegEnv.Does.pure rfl rfl rfl (fun w hS => rfl)) ?_
  refine RegEnv.All.step rfl (RegEnv.Does.pure rfl rfl rfl (fun w hS => wk_f2 rfl)) ?_
  refine RegEnv.All.step rfl (RegEnv.Does.pure rfl rfl rfl (fun w hS => wk_int rfl (KP w hS))) ?_
  refine RegEnv.All.step rfl (RegEnv.Does.pure rfl rfl rfl (fun w hS => wk_f2 rfl)) ?_
  refine RegEnv.All.step rfl (RegEnv.Does.pure rfl rfl rfl (fun w hS => wk_int rfl (KQ w hS))) ?_
  refine RegEnv.All.step rfl (RegEnv.Does.pure rfl rfl rfl (fun w hS => wk_le rfl rfl h1)) ?_
  refine RegEnv.All.step rfl (RegEnv.Does.pure rfl rfl rfl (fun w hS => rfl)) ?_
  refine RegEnv.All.step rfl (RegEnv.Does.pure rfl rfl rfl (fun w hS => rfl)) ?_
  refine RegEnv.All.step rfl (RegEnv.Does.pure rfl rfl rfl (fun w hS => rfl)) ?_
  refine RegEnv.All.step rfl (RegEnv.Does.pure rfl rfl rfl (fun w hS => rfl)) ?_
  refine RegEnv.All.step rfl (RegEnv.Does.pure rfl rfl rfl (fun w hS => wk_ix rfl rfl hi)) ?_
  refine RegEnv.All.step rfl (RegEnv.Does.pure rfl rfl rfl (fun w hS => wk_int rfl (KI w hS))) ?_
  refine RegEnv.All.step rfl (RegEnv.Does.pure rfl rfl rfl (fun w hS => wk_row rfl hC (KR w hS))) ?_
  refine RegEnv.All.step rfl (RegEnv.Does.call rfl rfl rfl (fun w => re_amqprim_Fits rfl rfl) FX) ?_
  refine RegEnv.All.step rfl (RegEnv.Does.pure rfl rfl rfl (fun w hS => rfl)) ?_
  refine RegEnv.All.step rfl (RegEnv.Does.pure rfl rfl rfl (fun w hS => rfl)) ?_
  refine RegEnv.All.step rfl (RegEnv.Does.pure rfl rfl rfl (fun w hS => rfl)) ?_
  refine RegEnv.All.step rfl (RegEnv.Does.pure rfl rfl rfl (fun w hS => rfl)) ?_
  refine RegEnv.All.step rfl (RegEnv.Does.pure rfl rfl rfl (fun w hS => wk_ix rfl rfl hj)) ?_
  refine RegEnv.All.step rfl (RegEnv.Does.pure rfl rfl rfl (fun w hS => wk_int rfl (KJ w hS))) ?_
  refine RegEnv.All.step rfl (RegEnv.Does.pure rfl rfl rfl (fun w hS => wk_row rfl hC (KR w hS))) ?_
  refine RegEnv.All.step rfl (RegEnv.Does.call rfl rfl rfl (fun w => re_amqprim_Fits rfl rfl) FY) ?_
  refine RegEnv.All.step rfl (RegEnv.Does.pure rfl rfl rfl (fun w hS => wk_not (b := true) rfl)) ?_
  refine RegEnv.All.step rfl (RegEnv.Does.pure rfl rfl rfl (fun w hS => rfl)) ?_
  exact RegEnv.All.fin rfl
set_option maxRecDepth 100000 in
theorem wid_all {Q : Exit → Act → World → Prop} {S : World → Prop} {W : World} {p q g l i j n c : Nat} {a1 a2 x y : Int} {C : Array Value} {fx fy : Bool} {x0 x1 x5 x6 x7 x8 x11 x13 x14 x15 x16 x17 x18 x19 x20 x21 x22 x23 x24 x25 x26 x27 x28 x29 x30 x31 x32 x33 x34 x35 x36 x37 x38 x39 x40 x41 x42 x43 x44 x45 x46 x47 x48 x49 x50 x51 x52 x53 x54 x55 x56 x57 x58 x59 x60 x61 x62 x63 x64 x65 x66 x67 x68 x69 x70 x71 x72 x73 x74 x75 x76 x77 x78 x79 x80 x81 x82 x83 x84 x85 x86 x87 x88 x89 x90 x91 x92 x93 x94 x95 x96 x97 x98 x99 x100 x101 x102 x103 x104 x105 x106 x107 x108 x109 x110 x111 x112 x113 x114 x115 x116 x117 x118 x119 x120 x121 x122 x123 x124 x125 x126 x127 x128 x129 x130 x131 x132 x133 x134 x135 x136 x137 x138 x139 x140 x141 x142 x143 x144 x145 x146 x147 x148 x149 x150 x151 : Value}
    (hS : S W.drew) (KP : ∀ w, S w → w.cell? ⟨p, 2, none⟩ = some (.int .i64 a1)) (KQ : ∀ w, S w → w.cell? ⟨q, 2, none⟩ = some (.int .i64 a2))
    (hC : C.size = 4) (KR : ∀ w, S w → w.heap[g]? = some (.cells C 26 (0, 0))) (hi : (i : Int) < (n : Int)) (KI : ∀ w, S w → w.cell? ⟨l, i, none⟩ = some (.int .i64 x)) (hj : (j : Int) < (n : Int)) (KJ : ∀ w, S w → w.cell? ⟨l, j, none⟩ = some (.int .i64 y))
    (FX : ∀ w, S w → Calls Tryd.prog 20 #[.int .i64 x, .agg C] w fun e w' => e = .returned (.bool fx) ∧ S w')
    (FY : ∀ w, S w → Calls Tryd.prog 20 #[.int .i64 y, .agg C] w fun e w' => e = .returned (.bool fy) ∧ S w')
    (hw : 0 < a1 → a1 ≤ a2 → fx = true → fy = true)
    (fin : ∀ w, S w → ∀ y63 y64 y65 y66 y67 y68 y69 y70 y71 y72 y73 y74 y75 y76 y77 y78 y79 y80 y81 y82 y83 y84 y85 y86 y87 y88 : Value, Q .normal ⟨#[x0, x1, (.int .i64 (i : Nat)), (.int .i64 (j : Nat)), (.pointer (some ⟨g, 0, none⟩)), x5, x6, x7, x8, (.slice (some ⟨l, 0, none⟩) n c), (.pointer (some ⟨p, 0, none⟩)), x11, (.pointer (some ⟨q, 0, none⟩)), x13, x14, x15, x16, x17, x18, x19, x20, x21, x22, x23, x24, x25, x26, x27, x28, x29, x30, x31, x32, x33, x34, x35, x36, x37, x38, x39, x40, x41, x42, x43, x44, x45, x46, x47, x48, x49, x50, x51, x52, x53, x54, x55, x56, x57, x58, x59, x60, x61, x62, y63, y64, y65, y66, y67, y68, y69, y70, y71, y72, y73, y74, y75, y76, y77, y78, y79, y80, y81, y82, y83, y84, y85, y86, y87, y88, (.bool false), x90, x91, x92, x93, x94, x95, x96, x97, x98, x99, x100, x101, x102, x103, x104, x105, x106, x107, x108, x109, x110, x111, x112, x113, x114, x115, x116, x117, x118, x119, x120, x121, x122, x123, x124, x125, x126, x127, x128, x129, x130, x131, x132, x133, x134, x135, x136, x137, x138, x139, x140, x141, x142, x143, x144, x145, x146, x147, x148, x149, x150, x151], []⟩ w) :
    (Code.region 11 (RegEnv.opsAt 11 Tryd.f7.body) true).wp Tryd.prog Q ⟨#[x0, x1, (.int .i64 (i : Nat)), (.int .i64 (j : Nat)), (.pointer (some ⟨g, 0, none⟩)), x5, x6, x7, x8, (.slice (some ⟨l, 0, none⟩) n c), (.pointer (some ⟨p, 0, none⟩)), x11, (.pointer (some ⟨q, 0, none⟩)), x13, x14, x15, x16, x17, x18, x19, x20, x21, x22, x23, x24, x25, x26, x27, x28, x29, x30, x31, x32, x33, x34, x35, x36, x37, x38, x39, x40, x41, x42, x43, x44, x45, x46, x47, x48, x49, x50, x51, x52, x53, x54, x55, x56, x57, x58, x59, x60, x61, x62, x63, x64, x65, x66, x67, x68, x69, x70, x71, x72, x73, x74, x75, x76, x77, x78, x79, x80, x81, x82, x83, x84, x85, x86, x87, x88, x89, x90, x91, x92, x93, x94, x95, x96, x97, x98, x99, x100, x101, x102, x103, x104, x105, x106, x107, x108, x109, x110, x111, x112, x113, x114, x115, x116, x117, x118, x119, x120, x121, x122, x123, x124, x125, x126, x127, x128, x129, x130, x131, x132, x133, x134, x135, x136, x137, x138, x139, x140, x141, x142, x143, x144, x145, x146, x147, x148, x149, x150, x151], []⟩ W := by
  by_cases h0 : 0 < a1
  · by_cases h1 : a1 ≤ a2
    · cases fx
      · exact wid_2 hS KP (decide_eq_true h0) KQ (decide_eq_true h1) hC KR hi KI FX fun w h => fin w h _ _ _ _ _ _ _ _ _ _ _ _ _ _ _ _ _ _ _ _ _ _ _ _ _ _
      · rw [hw h0 h1 rfl] at FY
        exact wid_3 hS KP (decide_eq_true h0) KQ (decide_eq_true h1) hC KR hi KI FX hj KJ FY fun w h => fin w h _ _ _ _ _ _ _ _ _ _ _ _ _ _ _ _ _ _ _ _ _ _ _ _ _ _
    · exact wid_1 hS KP (decide_eq_true h0) KQ (decide_eq_false h1) fun w h => fin w h _ _ _ _ _ _ _ _ _ _ _ _ _ _ _ _ _ _ _ _ _ _ _ _ _ _
  · exact wid_0 hS KP (decide_eq_false h0) fun w h => fin w h _ _ _ _ _ _ _ _ _ _ _ _ _ _ _ _ _ _ _ _ _ _ _ _ _ _
end Go.Proofs.YtjbgnlnchchgcaaDoor
