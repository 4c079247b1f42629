/-
  The last region of ConnectNames: whatever order its operations come in, it ends with true. Condition: the calls answer as is asked.
-/
import Derived.Test.YtbgpcmbaodjibaaGreatK02
import Derived.Test.YtbgpcmbaodjibaaGreatK21
namespace Go.Proofs.YtbgpcmbaodjibaaGreat
open Go.RowKit

section
variable {a : Act} {w : World} {d : Option Tmp} {p : String} {af : Array Edge} {gd : Option (Nat × Bool)} {x y z : Tmp} {r : TypeId}
theorem nl_row {g : Nat} {C : Array Value} (hx : a.eval (.tmp x) = .pointer (some ⟨g, 0, none⟩)) (hs : C.size = 25) (hg : w.heap[g]? = some (.cells C 32 (0, 0))) :
    (execOp a.eval { dst := d, op := .load 32 (.tmp x), type := 32, pos := p, after := af, guard := gd }).run Tryz.prog w = .ok (.value (.agg C)) w := by
  unfold execOp
  simp only [hx, Instr.loadAt, Instr.sureAddr, Sem.run_bind, Sem.run_pure, Result.andThen_ok, run_loadVar_row w g 32 32 C (0, 0) _ hg Tryz.underlying32 rfl (by rw [hs]; exact info_pk)]
theorem nl_errc {z : Int} (hx : a.eval (.tmp x) = .int .i64 z) :
    (execOp a.eval { dst := d, op := .binOp .eql 23 (.tmp x) (.const (.int .i64 z)) 23, type := r, pos := p, after := af, guard := gd }).run Tryz.prog w = .ok (.value (.bool true)) w := by
  have hc : a.eval (.const (.int .i64 z)) = .int .i64 z := rfl
  generalize a.eval = f at *
  go_simp
theorem nl_intc {z : Int} (hx : a.eval (.tmp x) = .int .i64 z) :
    (execOp a.eval { dst := d, op := .binOp .eql 3 (.tmp x) (.const (.int .i64 z)) 3, type := r, pos := p, after := af, guard := gd }).run Tryz.prog w = .ok (.value (.bool true)) w := by
  have hc : a.eval (.const (.int .i64 z)) = .int .i64 z := rfl
  generalize a.eval = f at *
  go_simp
theorem nl_strc {z u : ByteArray} (hx : a.eval (.tmp x) = .string z) (hu : z = u) :
    (execOp a.eval { dst := d, op := .binOp .eql 9 (.tmp x) (.const (.string u)) 9, type := r, pos := p, after := af, guard := gd }).run Tryz.prog w = .ok (.value (.bool true)) w := by
  subst hu
  have hc : a.eval (.const (.string z)) = .string z := rfl
  generalize a.eval = f at *
  go_simp
theorem nl_zero  :
    (execOp a.eval { dst := d, op := .build 32 #[], type := r, pos := p, after := af, guard := gd }).run Tryz.prog w = .ok (.value (.agg pkZ)) w := by
  have hz := zero_pk w
  have hne : ¬ pkZ = #[] := by intro h; have := pkZ_size; rw [h] at this; cases this
  have hs := pkZ_size
  generalize a.eval = f at *
  go_simp
theorem re_polyglotlaw08_plain {ts : Array TypeId}  :
    (execOp a.eval { dst := d, op := .call { callee := .value (.func 9), args := #[], argTypes := ts }, type := r, pos := p, after := af, guard := gd }).run Tryz.prog w = .ok (.enter 9 #[]) w := by
  have hf : a.eval (.func 9) = .func (.func 9) #[] #[] := rfl
  generalize a.eval = f at *
  go_simp
theorem re_polyglotkit_SamePacket {ts : Array TypeId} {u v : Value} (hx : a.eval (.tmp x) = u) (hy : a.eval (.tmp y) = v) :
    (execOp a.eval { dst := d, op := .call { callee := .value (.func 11), args := #[.tmp x, .tmp y], argTypes := ts }, type := r, pos := p, after := af, guard := gd }).run Tryz.prog w = .ok (.enter 11 #[u, v]) w := by
  have hf : a.eval (.func 11) = .func (.func 11) #[] #[] := rfl
  generalize a.eval = f at *
  go_simp
theorem re_connect_Flags {ts : Array TypeId} {u : Value} (hx : a.eval (.tmp x) = u) :
    (execOp a.eval { dst := d, op := .call { callee := .value (.func 12), args := #[.tmp x], argTypes := ts }, type := r, pos := p, after := af, guard := gd }).run Tryz.prog w = .ok (.enter 12 #[u]) w := by
  have hf : a.eval (.func 12) = .func (.func 12) #[] #[] := rfl
  generalize a.eval = f at *
  go_simp
theorem re_connect_Valid_inti644 {ts : Array TypeId} {u : Value} (hx : a.eval (.tmp x) = u) :
    (execOp a.eval { dst := d, op := .call { callee := .value (.func 13), args := #[.const (.int .i64 4), .tmp x], argTypes := ts }, type := r, pos := p, after := af, guard := gd }).run Tryz.prog w = .ok (.enter 13 #[.int .i64 4, u]) w := by
  have hf : a.eval (.func 13) = .func (.func 13) #[] #[] := rfl
  have hc0 : a.eval (.const (.int .i64 4)) = .int .i64 4 := rfl
  generalize a.eval = f at *
  go_simp
theorem re_connect_Valid_inti645 {ts : Array TypeId} {u : Value} (hx : a.eval (.tmp x) = u) :
    (execOp a.eval { dst := d, op := .call { callee := .value (.func 13), args := #[.const (.int .i64 5), .tmp x], argTypes := ts }, type := r, pos := p, after := af, guard := gd }).run Tryz.prog w = .ok (.enter 13 #[.int .i64 5, u]) w := by
  have hf : a.eval (.func 13) = .func (.func 13) #[] #[] := rfl
  have hc0 : a.eval (.const (.int .i64 5)) = .int .i64 5 := rfl
  generalize a.eval = f at *
  go_simp
end
set_option maxRecDepth 100000 in
set_option maxHeartbeats 8000000 in
theorem conname_last {Q : Exit → Act → World → Prop} {T : World → Prop} {W : World} {g5 gF gO gL gP : Nat} {A A5 C : ByteArray} {E D5 DF DO DL DP : Array Value} {x7 x9 x11 x13 x15 x17 x19 x27 x29 x31 x33 x34 x35 x36 x37 x38 x39 x40 x41 x42 x43 x44 x45 x46 x47 x48 x49 x50 x51 x52 x53 x54 x55 x56 x57 x58 x59 x60 x61 x62 x63 x64 x65 x66 x67 x68 x69 x70 x71 x72 x73 x74 x75 x76 x77 x78 x79 x80 x81 x82 x83 x84 x85 x86 x87 x88 x89 x90 x91 x92 x93 x94 x95 x96 x97 x98 x99 x100 x101 x102 x103 x104 x105 x106 x107 x108 x109 x110 x111 x112 x113 x114 x115 x116 x117 x118 x119 x120 x121 x122 x123 x124 x125 x126 x127 x128 x129 x130 x131 x132 x133 x134 x135 x136 x137 x138 x139 x140 x141 x142 x143 x144 x145 x146 x147 x148 x149 x150 x151 x152 x153 x154 x155 x156 x157 x158 x159 x160 x161 x162 x163 x164 x165 x166 x167 x168 x169 x170 x171 x172 x173 x174 x175 x176 x177 x178 x179 x180 x181 x182 x183 x184 x185 x186 x187 x188 x189 x190 x191 x192 x193 x194 x195 x196 x197 x198 x199 x200 x201 x202 x203 x204 x205 x206 x207 x208 x209 x210 x211 x212 x213 x214 x215 x216 x217 x218 : Value}
    (hT : T W.drew) (hA : A = ⟨#[0, 4, 77, 81, 84, 84, 4, 2, 0, 10, 0, 1, 99]⟩) (hA5 : A5 = ⟨#[0, 4, 77, 81, 84, 84, 5, 2, 0, 10, 0, 0, 1, 99]⟩) (hC : C = ⟨#[0, 4, 77, 81, 84, 84, 4, 238, 0, 10, 0, 1, 99, 0, 1, 119, 0, 1, 112, 0, 1, 117, 0, 1, 115]⟩)
    (s5 : D5.size = 25) (sF : DF.size = 25) (sO : DO.size = 25) (sL : DL.size = 25) (sP : DP.size = 25)
    (R5 : ∀ w, T w → w.heap[g5]? = some (.cells D5 32 (0, 0)))
    (RF : ∀ w, T w → w.heap[gF]? = some (.cells DF 32 (0, 0)))
    (RO : ∀ w, T w → w.heap[gO]? = some (.cells DO 32 (0, 0)))
    (RL : ∀ w, T w → w.heap[gL]? = some (.cells DL 32 (0, 0)))
    (RP : ∀ w, T w → w.heap[gP]? = some (.cells DP 32 (0, 0)))
    (H1 : ∀ w, T w → Calls Tryz.prog 9 #[] w fun e w' => e = .returned (.agg E) ∧ T w')
    (H2 : ∀ w, T w → Calls Tryz.prog 11 #[(.agg D5), (.agg E)] w fun e w' => e = .returned (.bool true) ∧ T w')
    (H3 : ∀ w, T w → Calls Tryz.prog 12 #[(.agg DF)] w fun e w' => e = .returned (.int .i64 238) ∧ T w')
    (H4 : ∀ w, T w → Calls Tryz.prog 12 #[(.agg pkZ)] w fun e w' => e = .returned (.int .i64 0) ∧ T w')
    (H5 : ∀ w, T w → Calls Tryz.prog 13 #[(.int .i64 4), (.agg DO)] w fun e w' => e = .returned (.int .i64 10) ∧ T w')
    (H6 : ∀ w, T w → Calls Tryz.prog 13 #[(.int .i64 5), (.agg DL)] w fun e w' => e = .returned (.int .i64 2) ∧ T w')
    (H7 : ∀ w, T w → Calls Tryz.prog 13 #[(.int .i64 4), (.agg DP)] w fun e w' => e = .returned (.int .i64 2) ∧ T w')
    (H8 : ∀ w, T w → Calls Tryz.prog 13 #[(.int .i64 5), (.agg DP)] w fun e w' => e = .returned (.int .i64 0) ∧ T w')
    (fin : ∀ w, T w → Q .normal ⟨#[(.bool true), (.string A), (.int .i64 0), (.string A5), (.int .i64 0), (.pointer (some ⟨g5, 0, none⟩)), (.int .i64 0), x7, (.int .i64 5), x9, (.int .i64 5), x11, (.int .i64 3), x13, (.int .i64 7), x15, (.int .i64 7), x17, (.int .i64 2), x19, (.int .i64 5), (.pointer (some ⟨gF, 0, none⟩)), (.string C), (.int .i64 0), (.pointer (some ⟨gO, 0, none⟩)), (.pointer (some ⟨gL, 0, none⟩)), (.pointer (some ⟨gP, 0, none⟩)), x27, (.int .i64 7), x29, (.int .i64 2), x31, (.int .i64 2), x33, x34, x35, x36, x37, x38, x39, x40, x41, x42, x43, x44, x45, x46, x47, x48, x49, x50, x51, x52, x53, x54, x55, x56, x57, x58, x59, x60, x61, x62, x63, x64, x65, x66, x67, x68, x69, x70, x71, x72, x73, x74, x75, x76, x77, x78, x79, x80, x81, x82, x83, x84, x85, x86, x87, x88, x89, x90, x91, x92, x93, x94, x95, x96, x97, x98, x99, x100, x101, x102, x103, x104, x105, x106, x107, x108, x109, x110, x111, x112, x113, x114, x115, x116, x117, (.int .i64 0), (.bool true), (.bool true), (.string A), (.bool true), (.bool true), (.bool true), (.int .i64 0), (.bool true), (.bool true), (.bool true), (.string A5), (.bool true), (.bool true), (.bool true), (.int .i64 0), (.bool true), (.bool true), (.bool true), (.agg D5), (.agg E), (.bool true), (.bool true), (.bool true), (.int .i64 5), (.bool true), (.bool true), (.bool true), (.int .i64 5), (.bool true), (.bool true), (.bool true), (.int .i64 3), (.bool true), (.bool true), (.bool true), (.int .i64 7), (.bool true), (.bool true), (.bool true), (.int .i64 7), (.bool true), (.bool true), (.bool true), (.int .i64 2), (.bool true), (.bool true), (.bool true), (.int .i64 5), (.bool true), (.bool true), (.bool true), (.int .i64 0), (.bool true), (.bool true), (.bool true), (.string C), (.bool true), (.bool true), (.bool true), (.agg DF), (.int .i64 238), (.bool true), (.bool true), (.bool true), (.agg pkZ), (.int .i64 0), (.bool true), (.bool true), (.bool true), (.agg DO), (.int .i64 10), (.bool true), (.bool true), (.bool true), (.agg DL), (.int .i64 2), (.bool true), (.bool true), (.bool true), (.agg DP), (.int .i64 2), (.bool true), (.bool true), (.bool true), (.agg DP), (.int .i64 0), (.bool true), (.bool true), (.bool true), (.int .i64 7), (.bool true), (.bool true), (.bool true), (.int .i64 2), (.bool true), (.bool true), (.bool true), (.int .i64 2), (.bool true), (.bool true)], []⟩ w) :
    (Code.region 26 (RegEnv.opsAt 26 Tryz.f3.body) true).wp Tryz.prog Q ⟨#[(.bool false), (.string A), (.int .i64 0), (.string A5), (.int .i64 0), (.pointer (some ⟨g5, 0, none⟩)), (.int .i64 0), x7, (.int .i64 5), x9, (.int .i64 5), x11, (.int .i64 3), x13, (.int .i64 7), x15, (.int .i64 7), x17, (.int .i64 2), x19, (.int .i64 5), (.pointer (some ⟨gF, 0, none⟩)), (.string C), (.int .i64 0), (.pointer (some ⟨gO, 0, none⟩)), (.pointer (some ⟨gL, 0, none⟩)), (.pointer (some ⟨gP, 0, none⟩)), x27, (.int .i64 7), x29, (.int .i64 2), x31, (.int .i64 2), x33, x34, x35, x36, x37, x38, x39, x40, x41, x42, x43, x44, x45, x46, x47, x48, x49, x50, x51, x52, x53, x54, x55, x56, x57, x58, x59, x60, x61, x62, x63, x64, x65, x66, x67, x68, x69, x70, x71, x72, x73, x74, x75, x76, x77, x78, x79, x80, x81, x82, x83, x84, x85, x86, x87, x88, x89, x90, x91, x92, x93, x94, x95, x96, x97, x98, x99, x100, x101, x102, x103, x104, x105, x106, x107, x108, x109, x110, x111, x112, x113, x114, x115, x116, x117, x118, x119, x120, x121, x122, x123, x124, x125, x126, x127, x128, x129, x130, x131, x132, x133, x134, x135, x136, x137, x138, x139, x140, x141, x142, x143, x144, x145, x146, x147, x148, x149, x150, x151, x152, x153, x154, x155, x156, x157, x158, x159, x160, x161, x162, x163, x164, x165, x166, x167, x168, x169, x170, x171, x172, x173, x174, x175, x176, x177, x178, x179, x180, x181, x182, x183, x184, x185, x186, x187, x188, x189, x190, x191, x192, x193, x194, x195, x196, x197, x198, x199, x200, x201, x202, x203, x204, x205, x206, x207, x208, x209, x210, x211, x212, x213, x214, x215, x216, x217, x218], []⟩ W := by
  refine RegEnv.wp_in (ds := [118, 119, 120, 121, 122, 123, 124, 125, 126, 127, 128, 129, 130, 131, 132, 133, 134, 135, 136, 137, 138, 139, 140, 141, 142, 143, 144, 145, 146, 147, 148, 149, 150, 151, 152, 153, 154, 155, 156, 157, 158, 159, 160, 161, 162, 163, 164, 165, 166, 167, 168, 169, 170, 171, 172, 173, 174, 175, 176, 177, 178, 179, 180, 181, 182, 183, 184, 185, 186, 187, 188, 189, 190, 191, 192, 193, 194, 195, 196, 197, 198, 199, 200, 201, 202, 203, 204, 205, 206, 207, 208, 209, 210, 211, 212, 213, 214, 215, 216, 217, 218, 0]) (A := [(.bool false), (.string A), (.int .i64 0), (.string A5), (.int .i64 0), (.pointer (some ⟨g5, 0, none⟩)), (.int .i64 0), x7, (.int .i64 5), x9, (.int .i64 5), x11, (.int .i64 3), x13, (.int .i64 7), x15, (.int .i64 7), x17, (.int .i64 2), x19, (.int .i64 5), (.pointer (some ⟨gF, 0, none⟩)), (.string C), (.int .i64 0), (.pointer (some ⟨gO, 0, none⟩)), (.pointer (some ⟨gL, 0, none⟩)), (.pointer (some ⟨gP, 0, none⟩)), x27, (.int .i64 7), x29, (.int .i64 2), x31, (.int .i64 2), x33, x34, x35, x36, x37, x38, x39, x40, x41, x42, x43, x44, x45, x46, x47, x48, x49, x50, x51, x52, x53, x54, x55, x56, x57, x58, x59, x60, x61, x62, x63, x64, x65, x66, x67, x68, x69, x70, x71, x72, x73, x74, x75, x76, x77, x78, x79, x80, x81, x82, x83, x84, x85, x86, x87, x88, x89, x90, x91, x92, x93, x94, x95, x96, x97, x98, x99, x100, x101, x102, x103, x104, x105, x106, x107, x108, x109, x110, x111, x112, x113, x114, x115, x116, x117, x118, x119, x120, x121, x122, x123, x124, x125, x126, x127, x128, x129, x130, x131, x132, x133, x134, x135, x136, x137, x138, x139, x140, x141, x142, x143, x144, x145, x146, x147, x148, x149, x150, x151, x152, x153, x154, x155, x156, x157, x158, x159, x160, x161, x162, x163, x164, x165, x166, x167, x168, x169, x170, x171, x172, x173, x174, x175, x176, x177, x178, x179, x180, x181, x182, x183, x184, x185, x186, x187, x188, x189, x190, x191, x192, x193, x194, x195, x196, x197, x198, x199, x200, x201, x202, x203, x204, x205, x206, x207, x208, x209, x210, x211, x212, x213, x214, x215, x216, x217, x218]) (B := [(.bool true), (.string A), (.int .i64 0), (.string A5), (.int .i64 0), (.pointer (some ⟨g5, 0, none⟩)), (.int .i64 0), x7, (.int .i64 5), x9, (.int .i64 5), x11, (.int .i64 3), x13, (.int .i64 7), x15, (.int .i64 7), x17, (.int .i64 2), x19, (.int .i64 5), (.pointer (some ⟨gF, 0, none⟩)), (.string C), (.int .i64 0), (.pointer (some ⟨gO, 0, none⟩)), (.pointer (some ⟨gL, 0, none⟩)), (.pointer (some ⟨gP, 0, none⟩)), x27, (.int .i64 7), x29, (.int .i64 2), x31, (.int .i64 2), x33, x34, x35, x36, x37, x38, x39, x40, x41, x42, x43, x44, x45, x46, x47, x48, x49, x50, x51, x52, x53, x54, x55, x56, x57, x58, x59, x60, x61, x62, x63, x64, x65, x66, x67, x68, x69, x70, x71, x72, x73, x74, x75, x76, x77, x78, x79, x80, x81, x82, x83, x84, x85, x86, x87, x88, x89, x90, x91, x92, x93, x94, x95, x96, x97, x98, x99, x100, x101, x102, x103, x104, x105, x106, x107, x108, x109, x110, x111, x112, x113, x114, x115, x116, x117, (.int .i64 0), (.bool true), (.bool true), (.string A), (.bool true), (.bool true), (.bool true), (.int .i64 0), (.bool true), (.bool true), (.bool true), (.string A5), (.bool true), (.bool true), (.bool true), (.int .i64 0), (.bool true), (.bool true), (.bool true), (.agg D5), (.agg E), (.bool true), (.bool true), (.bool true), (.int .i64 5), (.bool true), (.bool true), (.bool true), (.int .i64 5), (.bool true), (.bool true), (.bool true), (.int .i64 3), (.bool true), (.bool true), (.bool true), (.int .i64 7), (.bool true), (.bool true), (.bool true), (.int .i64 7), (.bool true), (.bool true), (.bool true), (.int .i64 2), (.bool true), (.bool true), (.bool true), (.int .i64 5), (.bool true), (.bool true), (.bool true), (.int .i64 0), (.bool true), (.bool true), (.bool true), (.string C), (.bool true), (.bool true), (.bool true), (.agg DF), (.int .i64 238), (.bool true), (.bool true), (.bool true), (.agg pkZ), (.int .i64 0), (.bool true), (.bool true), (.bool true), (.agg DO), (.int .i64 10), (.bool true), (.bool true), (.bool true), (.agg DL), (.int .i64 2), (.bool true), (.bool true), (.bool true), (.agg DP), (.int .i64 2), (.bool true), (.bool true), (.bool true), (.agg DP), (.int .i64 0), (.bool true), (.bool true), (.bool true), (.int .i64 7), (.bool true), (.bool true), (.bool true), (.int .i64 2), (.bool true), (.bool true), (.bool true), (.int .i64 2), (.bool true), (.bool true)]) (D := []) (by kernel_rfl) (by kernel_rfl) (by kernel_rfl) ?_ hT ?_ fin
  · exact ⟨.inl rfl, ⟨.inr rfl, ⟨.inr rfl, ⟨.inr rfl, ⟨.inr rfl, ⟨.inr rfl, ⟨.inr rfl, ⟨.inr rfl, ⟨.inr rfl, ⟨.inr rfl, ⟨.inr rfl, ⟨.inr rfl, ⟨.inr rfl, ⟨.inr rfl, ⟨.inr rfl, ⟨.inr rfl, ⟨.inr rfl, ⟨.inr rfl, ⟨.inr rfl, ⟨.inr rfl, ⟨.inr rfl, ⟨.inr rfl, ⟨.inr rfl, ⟨.inr rfl, ⟨.inr rfl, ⟨.inr rfl, ⟨.inr rfl, ⟨.inr rfl, ⟨.inr rfl, ⟨.inr rfl, ⟨.inr rfl, ⟨.inr rfl, ⟨.inr rfl, ⟨.inr rfl, ⟨.inr rfl, ⟨.inr rfl, ⟨.inr rfl, ⟨.inr rfl, ⟨.inr rfl, ⟨.inr rfl, ⟨.inr rfl, ⟨.inr rfl, ⟨.inr rfl, ⟨.inr rfl, ⟨.inr rfl, ⟨.inr rfl, ⟨.inr rfl, ⟨.inr rfl, ⟨.inr rfl, ⟨.inr rfl, ⟨.inr rfl, ⟨.inr rfl, ⟨.inr rfl, ⟨.inr rfl, ⟨.inr rfl, ⟨.inr rfl, ⟨.inr rfl, ⟨.inr rfl, ⟨.inr rfl, ⟨.inr rfl, ⟨.inr rfl, ⟨.inr rfl, ⟨.inr rfl, ⟨.inr rfl, ⟨.inr rfl, ⟨.inr rfl, ⟨.inr rfl, ⟨.inr rfl, ⟨.inr rfl, ⟨.inr rfl, ⟨.inr rfl, ⟨.inr rfl, ⟨.inr rfl, ⟨.inr rfl, ⟨.inr rfl, ⟨.inr rfl, ⟨.inr rfl, ⟨.inr rfl, ⟨.inr rfl, ⟨.inr rfl, ⟨.inr rfl, ⟨.inr rfl, ⟨.inr rfl, ⟨.inr rfl, ⟨.inr rfl, ⟨.inr rfl, ⟨.inr rfl, ⟨.inr rfl, ⟨.inr rfl, ⟨.inr rfl, ⟨.inr rfl, ⟨.inr rfl, ⟨.inr rfl, ⟨.inr rfl, ⟨.inr rfl, ⟨.inr rfl, ⟨.inr rfl, ⟨.inr rfl, ⟨.inr rfl, ⟨.inr rfl, ⟨.inr rfl, ⟨.inr rfl, ⟨.inr rfl, ⟨.inr rfl, ⟨.inr rfl, ⟨.inr rfl, ⟨.inr rfl, ⟨.inr rfl, ⟨.inr rfl, ⟨.inr rfl, ⟨.inr rfl, ⟨.inr rfl, ⟨.inr rfl, ⟨.inr rfl, ⟨.inr rfl, ⟨.inr rfl, ⟨.inr rfl, ⟨.inr rfl, ⟨.inl rfl, ⟨.inl rfl, ⟨.inl rfl, ⟨.inl rfl, ⟨.inl rfl, ⟨.inl rfl, ⟨.inl rfl, ⟨.inl rfl, ⟨.inl rfl, ⟨.inl rfl, ⟨.inl rfl, ⟨.inl rfl, ⟨.inl rfl, ⟨.inl rfl, ⟨.inl rfl, ⟨.inl rfl, ⟨.inl rfl, ⟨.inl rfl, ⟨.inl rfl, ⟨.inl rfl, ⟨.inl rfl, ⟨.inl rfl, ⟨.inl rfl, ⟨.inl rfl, ⟨.inl rfl, ⟨.inl rfl, ⟨.inl rfl, ⟨.inl rfl, ⟨.inl rfl, ⟨.inl rfl, ⟨.inl rfl, ⟨.inl rfl, ⟨.inl rfl, ⟨.inl rfl, ⟨.inl rfl, ⟨.inl rfl, ⟨.inl rfl, ⟨.inl rfl, ⟨.inl rfl, ⟨.inl rfl, ⟨.inl rfl, ⟨.inl rfl, ⟨.inl rfl, ⟨.inl rfl, ⟨.inl rfl, ⟨.inl rfl, ⟨.inl rfl, ⟨.inl rfl, ⟨.inl rfl, ⟨.inl rfl, ⟨.inl rfl, ⟨.inl rfl, ⟨.inl rfl, ⟨.inl rfl, ⟨.inl rfl, ⟨.inl rfl, ⟨.inl rfl, ⟨.inl rfl, ⟨.inl rfl, ⟨.inl rfl, ⟨.inl rfl, ⟨.inl rfl, ⟨.inl rfl, ⟨.inl rfl, ⟨.inl rfl, ⟨.inl rfl, ⟨.inl rfl, ⟨.inl rfl, ⟨.inl rfl, ⟨.inl rfl, ⟨.inl rfl, ⟨.inl rfl, ⟨.inl rfl, ⟨.inl rfl, ⟨.inl rfl, ⟨.inl rfl, ⟨.inl rfl, ⟨.inl rfl, ⟨.inl rfl, ⟨.inl rfl, ⟨.inl rfl, ⟨.inl rfl, ⟨.inl rfl, ⟨.inl rfl, ⟨.inl rfl, ⟨.inl rfl, ⟨.inl rfl, ⟨.inl rfl, ⟨.inl rfl, ⟨.inl rfl, ⟨.inl rfl, ⟨.inl rfl, ⟨.inl rfl, ⟨.inl rfl, ⟨.inl rfl, ⟨.inl rfl, ⟨.inl rfl, ⟨.inl rfl, ⟨.inl rfl, ⟨.inl rfl, ⟨.inl rfl, trivial⟩⟩⟩⟩⟩⟩⟩⟩⟩⟩⟩⟩⟩⟩⟩⟩⟩⟩⟩⟩⟩⟩⟩⟩⟩⟩⟩⟩⟩⟩⟩⟩⟩⟩⟩⟩⟩⟩⟩⟩⟩⟩⟩⟩⟩⟩⟩⟩⟩⟩⟩⟩⟩⟩⟩⟩⟩⟩⟩⟩⟩⟩⟩⟩⟩⟩⟩⟩⟩⟩⟩⟩⟩⟩⟩⟩⟩⟩⟩⟩⟩⟩⟩⟩⟩⟩⟩⟩⟩⟩⟩⟩⟩⟩⟩⟩⟩⟩⟩⟩⟩⟩⟩⟩⟩⟩⟩⟩⟩⟩⟩⟩⟩⟩⟩⟩⟩⟩⟩⟩⟩⟩⟩⟩⟩⟩⟩⟩⟩⟩⟩⟩⟩⟩⟩⟩⟩⟩⟩⟩⟩⟩⟩⟩⟩⟩⟩⟩⟩⟩⟩⟩⟩⟩⟩⟩⟩⟩⟩⟩⟩⟩⟩⟩⟩⟩⟩⟩⟩⟩⟩⟩⟩⟩⟩⟩⟩⟩⟩⟩⟩⟩⟩⟩⟩⟩⟩⟩⟩⟩⟩⟩⟩⟩⟩⟩⟩⟩⟩⟩⟩⟩⟩⟩⟩⟩⟩⟩⟩⟩⟩⟩⟩⟩⟩⟩⟩⟩⟩
  refine RegEnv.All.step rfl (RegEnv.Does.pure rfl rfl rfl (fun w hS => rfl)) ?_
  refine RegEnv.All.step rfl (RegEnv.Does.pure rfl rfl rfl (fun w hS => nl_errc rfl)) ?_
  refine RegEnv.All.step rfl (RegEnv.Does.pure rfl rfl rfl (fun w hS => rfl)) ?_
  refine RegEnv.All.step rfl (RegEnv.Does.pure rfl rfl rfl (fun w hS => rfl)) ?_
  refine RegEnv.All.step rfl (RegEnv.Does.pure rfl rfl rfl (fun w hS => nl_strc rfl hA)) ?_
  refine RegEnv.All.step rfl (RegEnv.Does.pure rfl rfl rfl (fun w hS => rfl)) ?_
  refine RegEnv.All.step rfl (RegEnv.Does.pure rfl rfl rfl (fun w hS => rfl)) ?_
  refine RegEnv.All.step rfl (RegEnv.Does.pure rfl rfl rfl (fun w hS => rfl)) ?_
  refine RegEnv.All.step rfl (RegEnv.Does.pure rfl rfl rfl (fun w hS => nl_errc rfl)) ?_
  refine RegEnv.All.step rfl (RegEnv.Does.pure rfl rfl rfl (fun w hS => rfl)) ?_
  refine RegEnv.All.step rfl (RegEnv.Does.pure rfl rfl rfl (fun w hS => rfl)) ?_
  refine RegEnv.All.step rfl (RegEnv.Does.pure rfl rfl rfl (fun w hS => rfl)) ?_
  refine RegEnv.All.step rfl (RegEnv.Does.pure rfl rfl rfl (fun w hS => nl_strc rfl hA5)) ?_
  refine RegEnv.All.step rfl (RegEnv.Does.pure rfl rfl rfl (fun w hS => rfl)) ?_
  refine RegEnv.All.step rfl (RegEnv.Does.pure rfl rfl rfl (fun w hS => rfl)) ?_
  refine RegEnv.All.step rfl (RegEnv.Does.pure rfl rfl rfl (fun w hS => rfl)) ?_
  refine RegEnv.All.step rfl (RegEnv.Does.pure rfl rfl rfl (fun w hS => nl_errc rfl)) ?_
  refine RegEnv.All.step rfl (RegEnv.Does.pure rfl rfl rfl (fun w hS => rfl)) ?_
  refine RegEnv.All.step rfl (RegEnv.Does.pure rfl rfl rfl (fun w hS => rfl)) ?_
  refine RegEnv.All.step rfl (RegEnv.Does.pure rfl rfl rfl (fun w hS => nl_row rfl s5 (R5 w hS))) ?_
  refine RegEnv.All.step rfl (RegEnv.Does.call rfl rfl rfl (fun w => re_polyglotlaw08_plain) H1) ?_
  refine RegEnv.All.step rfl (RegEnv.Does.call rfl rfl rfl (fun w => re_polyglotkit_SamePacket rfl rfl) H2) ?_
  refine RegEnv.All.step rfl (RegEnv.Does.pure rfl rfl rfl (fun w hS => rfl)) ?_
  refine RegEnv.All.step rfl (RegEnv.Does.pure rfl rfl rfl (fun w hS => rfl)) ?_
  refine RegEnv.All.step rfl (RegEnv.Does.pure rfl rfl rfl (fun w hS => rfl)) ?_
  refine RegEnv.All.step rfl (RegEnv.Does.pure rfl rfl rfl (fun w hS => nl_errc rfl)) ?_
  refine RegEnv.All.step rfl (RegEnv.Does.pure rfl rfl rfl (fun w hS => rfl)) ?_
  refine RegEnv.All.step rfl (RegEnv.Does.pure rfl rfl rfl (fun w hS => rfl)) ?_
  refine RegEnv.All.step rfl (RegEnv.Does.pure rfl rfl rfl (fun w hS => rfl)) ?_
  refine RegEnv.All.step rfl (RegEnv.Does.pure rfl rfl rfl (fun w hS => nl_errc rfl)) ?_
  refine RegEnv.All.step rfl (RegEnv.Does.pure rfl rfl rfl (fun w hS => rfl)) ?_
  refine RegEnv.All.step rfl (RegEnv.Does.pure rfl rfl rfl (fun w hS => rfl)) ?_
  refine RegEnv.All.step rfl (RegEnv.Does.pure rfl rfl rfl (fun w hS => rfl)) ?_
  refine RegEnv.All.step rfl (RegEnv.Does.pure rfl rfl rfl (fun w hS => nl_errc rfl)) ?_
  refine RegEnv.All.step rfl (RegEnv.Does.pure rfl rfl rfl (fun w hS => rfl)) ?_
  refine RegEnv.All.step rfl (RegEnv.Does.pure rfl rfl rfl (fun w hS => rfl)) ?_
  refine RegEnv.All.step rfl (RegEnv.Does.pure rfl rfl rfl (fun w hS => rfl)) ?_
  refine RegEnv.All.step rfl (RegEnv.Does.pure rfl rfl rfl (fun w hS => nl_errc rfl)) ?_
  refine RegEnv.All.step rfl (RegEnv.Does.pure rfl rfl rfl (fun w hS => rfl)) ?_
  refine RegEnv.All.step rfl (RegEnv.Does.pure rfl rfl rfl (fun w hS => rfl)) ?_
  refine RegEnv.All.step rfl (RegEnv.Does.pure rfl rfl rfl (fun w hS => rfl)) ?_
  refine RegEnv.All.step rfl (RegEnv.Does.pure rfl rfl rfl (fun w hS => nl_errc rfl)) ?_
  refine RegEnv.All.step rfl (RegEnv.Does.pure rfl rfl rfl (fun w hS => rfl)) ?_
  refine RegEnv.All.step rfl (RegEnv.Does.pure rfl rfl rfl (fun w hS => rfl)) ?_
  refine RegEnv.All.step rfl (RegEnv.Does.pure rfl rfl rfl (fun w hS => rfl)) ?_
  refine RegEnv.All.step rfl (RegEnv.Does.pure rfl rfl rfl (fun w hS => nl_errc rfl)) ?_
  refine RegEnv.All.step rfl (RegEnv.Does.pure rfl rfl rfl (fun w hS => rfl)) ?_
  refine RegEnv.All.step rfl (RegEnv.Does.pure rfl rfl rfl (fun w hS => rfl)) ?_
  refine RegEnv.All.step rfl (RegEnv.Does.pure rfl rfl rfl (fun w hS => rfl)) ?_
  refine RegEnv.All.step rfl (RegEnv.Does.pure rfl rfl rfl (fun w hS => nl_errc rfl)) ?_
  refine RegEnv.All.step rfl (RegEnv.Does.pure rfl rfl rfl (fun w hS => rfl)) ?_
  refine RegEnv.All.step rfl (RegEnv.Does.pure rfl rfl rfl (fun w hS => rfl)) ?_
  refine RegEnv.All.step rfl (RegEnv.Does.pure rfl rfl rfl (fun w hS => rfl)) ?_
  refine RegEnv.All.step rfl (RegEnv.Does.pure rfl rfl rfl (fun w hS => nl_errc rfl)) ?_
  refine RegEnv.All.step rfl (RegEnv.Does.pure rfl rfl rfl (fun w hS => rfl)) ?_
  refine RegEnv.All.step rfl (RegEnv.Does.pure rfl rfl rfl (fun w hS => rfl)) ?_
  refine RegEnv.All.step rfl (RegEnv.Does.pure rfl rfl rfl (fun w hS => rfl)) ?_
  refine RegEnv.All.step rfl (RegEnv.Does.pure rfl rfl rfl (fun w hS => nl_strc rfl hC)) ?_
  refine RegEnv.All.step rfl (RegEnv.Does.pure rfl rfl rfl (fun w hS => rfl)) ?_
  refine RegEnv.All.step rfl (RegEnv.Does.pure rfl rfl rfl (fun w hS => rfl)) ?_
  refine RegEnv.All.step rfl (RegEnv.Does.pure rfl rfl rfl (fun w hS => nl_row rfl sF (RF w hS))) ?_
  refine RegEnv.All.step rfl (RegEnv.Does.call rfl rfl rfl (fun w => re_connect_Flags rfl) H3) ?_
  refine RegEnv.All.step rfl (RegEnv.Does.pure rfl rfl rfl (fun w hS => nl_intc rfl)) ?_
  refine RegEnv.All.step rfl (RegEnv.Does.pure rfl rfl rfl (fun w hS => rfl)) ?_
  refine RegEnv.All.step rfl (RegEnv.Does.pure rfl rfl rfl (fun w hS => rfl)) ?_
  refine RegEnv.All.step rfl (RegEnv.Does.pure rfl rfl rfl (fun w hS => nl_zero)) ?_
  refine RegEnv.All.step rfl (RegEnv.Does.call rfl rfl rfl (fun w => re_connect_Flags rfl) H4) ?_
  refine RegEnv.All.step rfl (RegEnv.Does.pure rfl rfl rfl (fun w hS => nl_intc rfl)) ?_
  refine RegEnv.All.step rfl (RegEnv.Does.pure rfl rfl rfl (fun w hS => rfl)) ?_
  refine RegEnv.All.step rfl (RegEnv.Does.pure rfl rfl rfl (fun w hS => rfl)) ?_
  refine RegEnv.All.step rfl (RegEnv.Does.pure rfl rfl rfl (fun w hS => nl_row rfl sO (RO w hS))) ?_
  refine RegEnv.All.step rfl (RegEnv.Does.call rfl rfl rfl (fun w => re_connect_Valid_inti644 rfl) H5) ?_
  refine RegEnv.All.step rfl (RegEnv.Does.pure rfl rfl rfl (fun w hS => nl_errc rfl)) ?_
  refine RegEnv.All.step rfl (RegEnv.Does.pure rfl rfl rfl (fun w hS => rfl)) ?_
  refine RegEnv.All.step rfl (RegEnv.Does.pure rfl rfl rfl (fun w hS => rfl)) ?_
  refine RegEnv.All.step rfl (RegEnv.Does.pure rfl rfl rfl (fun w hS => nl_row rfl sL (RL w hS))) ?_
  refine RegEnv.All.step rfl (RegEnv.Does.call rfl rfl rfl (fun w => re_connect_Valid_inti645 rfl) H6) ?_
  refine RegEnv.All.step rfl (RegEnv.Does.pure rfl rfl rfl (fun w hS => nl_errc rfl)) ?_
  refine RegEnv.All.step rfl (RegEnv.Does.pure rfl rfl rfl (fun w hS => rfl)) ?_
  refine RegEnv.All.step rfl (RegEnv.Does.pure rfl rfl rfl (fun w hS => rfl)) ?_
  refine RegEnv.All.step rfl (RegEnv.Does.pure rfl rfl rfl (fun w hS => nl_row rfl sP (RP w hS))) ?_
  refine RegEnv.All.step rfl (RegEnv.Does.call rfl rfl rfl (fun w => re_connect_Valid_inti644 rfl) H7) ?_
  refine RegEnv.All.step rfl (RegEnv.Does.pure rfl rfl rfl (fun w hS => nl_errc rfl)) ?_
  refine RegEnv.All.step rfl (RegEnv.Does.pure rfl rfl rfl (fun w hS => rfl)) ?_
  refine RegEnv.All.step rfl (RegEnv.Does.pure rfl rfl rfl (fun w hS => rfl)) ?_
  refine RegEnv.All.step rfl (RegEnv.Does.pure rfl rfl rfl (fun w hS => nl_row rfl sP (RP w hS))) ?_
  refine RegEnv.All.step rfl (RegEnv.Does.call rfl rfl rfl (fun w => re_connect_Valid_inti645 rfl) H8) ?_
  refine RegEnv.All.step rfl (RegEnv.Does.pure rfl rfl rfl (fun w hS => nl_errc rfl)) ?_
  refine RegEnv.All.step rfl (RegEnv.Does.pure rfl rfl rfl (fun w hS => rfl)) ?_
  refine RegEnv.All.step rfl (RegEnv.Does.pure rfl rfl rfl (fun w hS => rfl)) ?_
  refine RegEnv.All.step rfl (RegEnv.Does.pure rfl rfl rfl (fun w hS => rfl)) ?_
  refine RegEnv.All.step rfl (RegEnv.Does.pure rfl rfl rfl (fun w hS => nl_errc rfl)) ?_
  refine RegEnv.All.step rfl (RegEnv.Does.pure rfl rfl rfl (fun w hS => rfl)) ?_
  refine RegEnv.All.step rfl (RegEnv.Does.pure rfl rfl rfl (fun w hS => rfl)) ?_
  refine RegEnv.All.step rfl (RegEnv.Does.pure rfl rfl rfl (fun w hS => rfl)) ?_
  refine RegEnv.All.step rfl (RegEnv.Does.pure rfl rfl rfl (fun w hS => nl_errc rfl)) ?_
  refine RegEnv.All.step rfl (RegEnv.Does.pure rfl rfl rfl (fun w hS => rfl)) ?_
  refine RegEnv.All.step rfl (RegEnv.Does.pure rfl rfl rfl (fun w hS => rfl)) ?_
  refine RegEnv.All.step rfl (RegEnv.Does.pure rfl rfl rfl (fun w hS => rfl)) ?_
  refine RegEnv.All.step rfl (RegEnv.Does.pure rfl rfl rfl (fun w hS => nl_errc rfl)) ?_
  refine RegEnv.All.step rfl (RegEnv.Does.pure rfl rfl rfl (fun w hS => rfl)) ?_
  refine RegEnv.All.step rfl (RegEnv.Does.pure rfl rfl rfl (fun w hS => rfl)) ?_
  exact RegEnv.All.fin rfl
end Go.Proofs.YtbgpcmbaodjibaaGreat
