/-
  The last region of PublishNames: whatever order its operations come in, it ends with true. Condition: the calls answer as is asked.
-/
import Derived.Test.YtaahhbjnflimnaaGreatK04
import Derived.Test.YtaahhbjnflimnaaGreatK20
import Derived.Test.YtaahhbjnflimnaaGreatK14
namespace Go.Proofs.YtaahhbjnflimnaaGreat
open Go.RowKit

section
variable {a : Act} {w : World} {d : Option Tmp} {p : String} {af : Array Edge} {gd : Option (Nat × Bool)} {x y z : Tmp} {r : TypeId}
theorem pn_row {g : Nat} {C : Array Value} (hx : a.eval (.tmp x) = .pointer (some ⟨g, 0, none⟩)) (hs : C.size = 25) (hg : w.heap[g]? = some (.cells C 28 (0, 0))) :
    (execOp a.eval { dst := d, op := .load 28 (.tmp x), type := 28, pos := p, after := af, guard := gd }).run Tryz.prog w = .ok (.value (.agg C)) w := by
  unfold execOp
  simp only [hx, Instr.loadAt, Instr.sureAddr, Sem.run_bind, Sem.run_pure, Result.andThen_ok, run_loadVar_row w g 28 28 C (0, 0) _ hg Tryz.underlying28 rfl (by rw [hs]; exact info_pk)]
theorem pn_errc {z : Int} (hx : a.eval (.tmp x) = .int .i64 z) :
    (execOp a.eval { dst := d, op := .binOp .eql 31 (.tmp x) (.const (.int .i64 z)) 31, type := r, pos := p, after := af, guard := gd }).run Tryz.prog w = .ok (.value (.bool true)) w := by
  have hc : a.eval (.const (.int .i64 z)) = .int .i64 z := rfl
  generalize a.eval = f at *
  go_simp
theorem pn_intc {z : Int} (hx : a.eval (.tmp x) = .int .i64 z) :
    (execOp a.eval { dst := d, op := .binOp .eql 3 (.tmp x) (.const (.int .i64 z)) 3, type := r, pos := p, after := af, guard := gd }).run Tryz.prog w = .ok (.value (.bool true)) w := by
  have hc : a.eval (.const (.int .i64 z)) = .int .i64 z := rfl
  generalize a.eval = f at *
  go_simp
theorem pn_strc {z u : ByteArray} (hx : a.eval (.tmp x) = .string z) (hu : z = u) :
    (execOp a.eval { dst := d, op := .binOp .eql 9 (.tmp x) (.const (.string u)) 9, type := r, pos := p, after := af, guard := gd }).run Tryz.prog w = .ok (.value (.bool true)) w := by
  subst hu
  have hc : a.eval (.const (.string z)) = .string z := rfl
  generalize a.eval = f at *
  go_simp
theorem pn_build {D : Array Value} (hD : (pkZ.setIfInBounds 0 (.int .i64 3)).setIfInBounds 5 (.string ⟨#[97, 43]⟩) = D) :
    (execOp a.eval { dst := d, op := .build 28 #[(0, .const (.int .i64 3)), (5, .const (.string ⟨#[97, 43]⟩))], type := r, pos := p, after := af, guard := gd }).run Tryz.prog w = .ok (.value (.agg D)) w := by
  subst hD
  have hz := zero_pk w
  have hne : ¬ pkZ = #[] := by intro h; have := pkZ_size; rw [h] at this; cases this
  have hs := pkZ_size
  have h1 : a.eval (.const (.int .i64 3)) = .int .i64 3 := rfl
  have h2 : a.eval (.const (.string ⟨#[97, 43]⟩)) = .string ⟨#[97, 43]⟩ := rfl
  generalize a.eval = f at *
  go_simp
theorem pn_a2 {g : Nat} (hx : a.eval (.tmp x) = .pointer (some ⟨g, 0, none⟩)) :
    (execOp a.eval { dst := d, op := .fieldAddr 28 (.tmp x) 2, type := r, pos := p, after := af, guard := gd }).run Tryz.prog w = .ok (.value (.pointer (some ⟨g, 2, none⟩))) w := by
  generalize a.eval = f at *
  go_simp
theorem pn_a6 {g : Nat} (hx : a.eval (.tmp x) = .pointer (some ⟨g, 0, none⟩)) :
    (execOp a.eval { dst := d, op := .fieldAddr 28 (.tmp x) 6, type := r, pos := p, after := af, guard := gd }).run Tryz.prog w = .ok (.value (.pointer (some ⟨g, 6, none⟩))) w := by
  generalize a.eval = f at *
  go_simp
theorem pn_a5 {g : Nat} (hx : a.eval (.tmp x) = .pointer (some ⟨g, 0, none⟩)) :
    (execOp a.eval { dst := d, op := .fieldAddr 28 (.tmp x) 5, type := r, pos := p, after := af, guard := gd }).run Tryz.prog w = .ok (.value (.pointer (some ⟨g, 5, none⟩))) w := by
  generalize a.eval = f at *
  go_simp
theorem pn_ls {g j : Nat} {u : ByteArray} (hx : a.eval (.tmp x) = .pointer (some ⟨g, j, none⟩)) (hc : w.cell? ⟨g, j, none⟩ = some (.string u)) :
    (execOp a.eval { dst := d, op := .load 9 (.tmp x), type := 9, pos := p, after := af, guard := gd }).run Tryz.prog w = .ok (.value (.string u)) w := by
  generalize a.eval = f at *
  go_simp
theorem pn_lb {g j : Nat} {u : Bool} (hx : a.eval (.tmp x) = .pointer (some ⟨g, j, none⟩)) (hc : w.cell? ⟨g, j, none⟩ = some (.bool u)) :
    (execOp a.eval { dst := d, op := .load 4 (.tmp x), type := 4, pos := p, after := af, guard := gd }).run Tryz.prog w = .ok (.value (.bool u)) w := by
  generalize a.eval = f at *
  go_simp
theorem re_polyglotlaw09_one {ts : Array TypeId}  :
    (execOp a.eval { dst := d, op := .call { callee := .value (.func 22), args := #[], argTypes := ts }, type := r, pos := p, after := af, guard := gd }).run Tryz.prog w = .ok (.enter 22 #[]) w := by
  have hf : a.eval (.func 22) = .func (.func 22) #[] #[] := rfl
  generalize a.eval = f at *
  go_simp
theorem re_polyglotkit_SamePacket {ts : Array TypeId} {u v : Value} (hx : a.eval (.tmp x) = u) (hy : a.eval (.tmp y) = v) :
    (execOp a.eval { dst := d, op := .call { callee := .value (.func 15), args := #[.tmp x, .tmp y], argTypes := ts }, type := r, pos := p, after := af, guard := gd }).run Tryz.prog w = .ok (.enter 15 #[u, v]) w := by
  have hf : a.eval (.func 15) = .func (.func 15) #[] #[] := rfl
  generalize a.eval = f at *
  go_simp
theorem re_publish_Valid_inti645 {ts : Array TypeId} {u : Value} (hx : a.eval (.tmp x) = u) :
    (execOp a.eval { dst := d, op := .call { callee := .value (.func 25), args := #[.const (.int .i64 5), .tmp x], argTypes := ts }, type := r, pos := p, after := af, guard := gd }).run Tryz.prog w = .ok (.enter 25 #[.int .i64 5, u]) w := by
  have hf : a.eval (.func 25) = .func (.func 25) #[] #[] := rfl
  have hc0 : a.eval (.const (.int .i64 5)) = .int .i64 5 := rfl
  generalize a.eval = f at *
  go_simp
theorem re_publish_Valid_inti644 {ts : Array TypeId} {u : Value} (hx : a.eval (.tmp x) = u) :
    (execOp a.eval { dst := d, op := .call { callee := .value (.func 25), args := #[.const (.int .i64 4), .tmp x], argTypes := ts }, type := r, pos := p, after := af, guard := gd }).run Tryz.prog w = .ok (.enter 25 #[.int .i64 4, u]) w := by
  have hf : a.eval (.func 25) = .func (.func 25) #[] #[] := rfl
  have hc0 : a.eval (.const (.int .i64 4)) = .int .i64 4 := rfl
  generalize a.eval = f at *
  go_simp
theorem re_publish_Valid_inti643 {ts : Array TypeId} {u : Value} (hx : a.eval (.tmp x) = u) :
    (execOp a.eval { dst := d, op := .call { callee := .value (.func 25), args := #[.const (.int .i64 3), .tmp x], argTypes := ts }, type := r, pos := p, after := af, guard := gd }).run Tryz.prog w = .ok (.enter 25 #[.int .i64 3, u]) w := by
  have hf : a.eval (.func 25) = .func (.func 25) #[] #[] := rfl
  have hc0 : a.eval (.const (.int .i64 3)) = .int .i64 3 := rfl
  generalize a.eval = f at *
  go_simp
end
set_option maxRecDepth 100000 in
set_option maxHeartbeats 8000000 in
theorem pubname_last {Q : Exit → Act → World → Prop} {T : World → Prop} {W : World} {g3 gQ gN gZ gD gC gP : Nat} {A : ByteArray} {E D3 DN DZ DD DC DP DA : Array Value} {x5 x7 x9 x11 x13 x24 x25 x26 x27 x28 x29 x30 x31 x32 x33 x34 x35 x36 x37 x38 x39 x40 x41 x42 x43 x44 x45 x46 x47 x48 x49 x50 x51 x52 x53 x54 x55 x56 x57 x58 x59 x60 x61 x62 x63 x64 x65 x66 x67 x68 x69 x70 x71 x72 x73 x74 x75 x76 x77 x78 x79 x80 x81 x82 x83 x84 x85 x86 x87 x88 x89 x90 x91 x92 x93 x94 x95 x96 x97 x98 x99 x100 x101 x102 x103 x104 x105 x106 x107 x108 x109 x110 x111 x112 x113 x114 x115 x116 x117 x118 x119 x120 x121 x122 x123 x124 x125 x126 x127 x128 x129 x130 x131 x132 x133 x134 x135 x136 x137 x138 x139 x140 x141 x142 x143 x144 x145 x146 x147 x148 x149 x150 x151 x152 x153 x154 x155 x156 x157 x158 x159 x160 x161 x162 x163 x164 x165 x166 x167 x168 x169 x170 x171 x172 x173 : Value}
    (hT : T W.drew) (hA : A = ⟨#[0, 3, 97, 47, 98, 0, 10, 0, 104, 105]⟩) (hDA : (pkZ.setIfInBounds 0 (.int .i64 3)).setIfInBounds 5 (.string ⟨#[97, 43]⟩) = DA)
    (s3 : D3.size = 25) (sN : DN.size = 25) (sZ : DZ.size = 25) (sD : DD.size = 25) (sC : DC.size = 25) (sP : DP.size = 25)
    (R3 : ∀ w, T w → w.heap[g3]? = some (.cells D3 28 (0, 0)))
    (RN : ∀ w, T w → w.heap[gN]? = some (.cells DN 28 (0, 0)))
    (RZ : ∀ w, T w → w.heap[gZ]? = some (.cells DZ 28 (0, 0)))
    (RD : ∀ w, T w → w.heap[gD]? = some (.cells DD 28 (0, 0)))
    (RC : ∀ w, T w → w.heap[gC]? = some (.cells DC 28 (0, 0)))
    (RP : ∀ w, T w → w.heap[gP]? = some (.cells DP 28 (0, 0)))
    (Q2 : ∀ w, T w → w.cell? ⟨gQ, 2, none⟩ = some (.bool true)) (Q6 : ∀ w, T w → w.cell? ⟨gQ, 6, none⟩ = some (.string ⟨#[120]⟩)) (Q5 : ∀ w, T w → w.cell? ⟨gQ, 5, none⟩ = some (.string ⟨#[]⟩))
    (H1 : ∀ w, T w → Calls Tryz.prog 22 #[] w fun e w' => e = .returned (.agg E) ∧ T w')
    (H2 : ∀ w, T w → Calls Tryz.prog 15 #[(.agg D3), (.agg E)] w fun e w' => e = .returned (.bool true) ∧ T w')
    (H3 : ∀ w, T w → Calls Tryz.prog 25 #[(.int .i64 5), (.agg DN)] w fun e w' => e = .returned (.int .i64 2) ∧ T w')
    (H4 : ∀ w, T w → Calls Tryz.prog 25 #[(.int .i64 5), (.agg DZ)] w fun e w' => e = .returned (.int .i64 2) ∧ T w')
    (H5 : ∀ w, T w → Calls Tryz.prog 25 #[(.int .i64 5), (.agg DD)] w fun e w' => e = .returned (.int .i64 7) ∧ T w')
    (H6 : ∀ w, T w → Calls Tryz.prog 25 #[(.int .i64 5), (.agg DC)] w fun e w' => e = .returned (.int .i64 2) ∧ T w')
    (H7 : ∀ w, T w → Calls Tryz.prog 25 #[(.int .i64 4), (.agg DP)] w fun e w' => e = .returned (.int .i64 2) ∧ T w')
    (H8 : ∀ w, T w → Calls Tryz.prog 25 #[(.int .i64 5), (.agg DP)] w fun e w' => e = .returned (.int .i64 0) ∧ T w')
    (H9 : ∀ w, T w → Calls Tryz.prog 25 #[(.int .i64 3), (.agg E)] w fun e w' => e = .returned (.int .i64 2) ∧ T w')
    (H10 : ∀ w, T w → Calls Tryz.prog 25 #[(.int .i64 5), (.agg DA)] w fun e w' => e = .returned (.int .i64 10) ∧ T w')
    (fin : ∀ w, T w → Q .normal ⟨#[(.bool true), (.string A), (.int .i64 0), (.pointer (some ⟨g3, 0, none⟩)), (.int .i64 0), x5, (.int .i64 7), x7, (.int .i64 3), x9, (.int .i64 2), x11, (.int .i64 10), x13, (.int .i64 10), (.pointer (some ⟨gQ, 0, none⟩)), (.int .i64 0), (.int .i64 7), (.bool true), (.pointer (some ⟨gN, 0, none⟩)), (.pointer (some ⟨gZ, 0, none⟩)), (.pointer (some ⟨gD, 0, none⟩)), (.pointer (some ⟨gC, 0, none⟩)), (.pointer (some ⟨gP, 0, none⟩)), x24, x25, x26, x27, x28, x29, x30, x31, x32, x33, x34, x35, x36, x37, x38, x39, x40, x41, x42, x43, x44, x45, x46, x47, x48, x49, x50, x51, x52, x53, x54, x55, x56, x57, x58, x59, x60, x61, x62, x63, x64, x65, x66, x67, x68, x69, x70, x71, x72, x73, (.int .i64 0), (.bool true), (.bool true), (.string A), (.bool true), (.bool true), (.bool true), (.int .i64 0), (.bool true), (.bool true), (.bool true), (.agg D3), (.agg E), (.bool true), (.bool true), (.bool true), (.int .i64 7), (.bool true), (.bool true), (.bool true), (.int .i64 3), (.bool true), (.bool true), (.bool true), (.int .i64 2), (.bool true), (.bool true), (.bool true), (.int .i64 10), (.bool true), (.bool true), (.bool true), (.int .i64 10), (.bool true), (.bool true), (.bool true), (.int .i64 0), (.bool true), (.bool true), (.bool true), (.pointer (some ⟨gQ, 2, none⟩)), (.bool true), (.bool true), (.bool true), (.pointer (some ⟨gQ, 6, none⟩)), (.string ⟨#[120]⟩), (.bool true), (.bool true), (.bool true), (.pointer (some ⟨gQ, 5, none⟩)), (.string ⟨#[]⟩), (.bool true), (.bool true), (.bool true), (.bool true), (.bool true), (.bool true), (.int .i64 7), (.bool true), (.bool true), (.bool true), (.agg DN), (.int .i64 2), (.bool true), (.bool true), (.bool true), (.agg DZ), (.int .i64 2), (.bool true), (.bool true), (.bool true), (.agg DD), (.int .i64 7), (.bool true), (.bool true), (.bool true), (.agg DC), (.int .i64 2), (.bool true), (.bool true), (.bool true), (.agg DP), (.int .i64 2), (.bool true), (.bool true), (.bool true), (.agg DP), (.int .i64 0), (.bool true), (.bool true), (.bool true), (.agg E), (.int .i64 2), (.bool true), (.bool true), (.bool true), (.agg DA), (.int .i64 10), (.bool true), (.bool true)], []⟩ w) :
    (Code.region 20 (RegEnv.opsAt 20 Tryz.f4.body) true).wp Tryz.prog Q ⟨#[(.bool false), (.string A), (.int .i64 0), (.pointer (some ⟨g3, 0, none⟩)), (.int .i64 0), x5, (.int .i64 7), x7, (.int .i64 3), x9, (.int .i64 2), x11, (.int .i64 10), x13, (.int .i64 10), (.pointer (some ⟨gQ, 0, none⟩)), (.int .i64 0), (.int .i64 7), (.bool true), (.pointer (some ⟨gN, 0, none⟩)), (.pointer (some ⟨gZ, 0, none⟩)), (.pointer (some ⟨gD, 0, none⟩)), (.pointer (some ⟨gC, 0, none⟩)), (.pointer (some ⟨gP, 0, none⟩)), x24, x25, x26, x27, x28, x29, x30, x31, x32, x33, x34, x35, x36, x37, x38, x39, x40, x41, x42, x43, x44, x45, x46, x47, x48, x49, x50, x51, x52, x53, x54, x55, x56, x57, x58, x59, x60, x61, x62, x63, x64, x65, x66, x67, x68, x69, x70, x71, x72, x73, x74, x75, x76, x77, x78, x79, x80, x81, x82, x83, x84, x85, x86, x87, x88, x89, x90, x91, x92, x93, x94, x95, x96, x97, x98, x99, x100, x101, x102, x103, x104, x105, x106, x107, x108, x109, x110, x111, x112, x113, x114, x115, x116, x117, x118, x119, x120, x121, x122, x123, x124, x125, x126, x127, x128, x129, x130, x131, x132, x133, x134, x135, x136, x137, x138, x139, x140, x141, x142, x143, x144, x145, x146, x147, x148, x149, x150, x151, x152, x153, x154, x155, x156, x157, x158, x159, x160, x161, x162, x163, x164, x165, x166, x167, x168, x169, x170, x171, x172, x173], []⟩ W := by
  refine RegEnv.wp_in (ds := [74, 75, 76, 77, 78, 79, 80, 81, 82, 83, 84, 85, 86, 87, 88, 89, 90, 91, 92, 93, 94, 95, 96, 97, 98, 99, 100, 101, 102, 103, 104, 105, 106, 107, 108, 109, 110, 111, 112, 113, 114, 115, 116, 117, 118, 119, 120, 121, 122, 123, 124, 125, 126, 127, 128, 129, 130, 131, 132, 133, 134, 135, 136, 137, 138, 139, 140, 141, 142, 143, 144, 145, 146, 147, 148, 149, 150, 151, 152, 153, 154, 155, 156, 157, 158, 159, 160, 161, 162, 163, 164, 165, 166, 167, 168, 169, 170, 171, 172, 173, 0]) (D := []) (by kernel_rfl) (by kernel_rfl) (by kernel_rfl) ?_ hT ?_ fin
  · exact (by repeat (first | exact trivial | refine ⟨.inr rfl, ?_⟩ | refine ⟨.inl rfl, ?_⟩))
  refine RegEnv.pu rfl rfl rfl rfl (fun w hS => rfl) ?_
  refine RegEnv.pu rfl rfl rfl rfl (fun w hS => pn_errc rfl) ?_
  refine RegEnv.pu rfl rfl rfl rfl (fun w hS => rfl) ?_
  refine RegEnv.pu rfl rfl rfl rfl (fun w hS => rfl) ?_
  refine RegEnv.pu rfl rfl rfl rfl (fun w hS => pn_strc rfl hA) ?_
  iterate 3 refine RegEnv.pu rfl rfl rfl rfl (fun w hS => rfl) ?_
  refine RegEnv.pu rfl rfl rfl rfl (fun w hS => pn_errc rfl) ?_
  refine RegEnv.pu rfl rfl rfl rfl (fun w hS => rfl) ?_
  refine RegEnv.pu rfl rfl rfl rfl (fun w hS => rfl) ?_
  refine RegEnv.pu rfl rfl rfl rfl (fun w hS => pn_row rfl s3 (R3 w hS)) ?_
  refine RegEnv.ca rfl rfl rfl rfl (fun w => re_polyglotlaw09_one) H1 ?_
  refine RegEnv.ca rfl rfl rfl rfl (fun w => re_polyglotkit_SamePacket rfl rfl) H2 ?_
  iterate 3 refine RegEnv.pu rfl rfl rfl rfl (fun w hS => rfl) ?_
  refine RegEnv.pu rfl rfl rfl rfl (fun w hS => pn_errc rfl) ?_
  iterate 3 refine RegEnv.pu rfl rfl rfl rfl (fun w hS => rfl) ?_
  refine RegEnv.pu rfl rfl rfl rfl (fun w hS => pn_errc rfl) ?_
  iterate 3 refine RegEnv.pu rfl rfl rfl rfl (fun w hS => rfl) ?_
  refine RegEnv.pu rfl rfl rfl rfl (fun w hS => pn_errc rfl) ?_
  iterate 3 refine RegEnv.pu rfl rfl rfl rfl (fun w hS => rfl) ?_
  refine RegEnv.pu rfl rfl rfl rfl (fun w hS => pn_errc rfl) ?_
  iterate 3 refine RegEnv.pu rfl rfl rfl rfl (fun w hS => rfl) ?_
  refine RegEnv.pu rfl rfl rfl rfl (fun w hS => pn_errc rfl) ?_
  iterate 3 refine RegEnv.pu rfl rfl rfl rfl (fun w hS => rfl) ?_
  refine RegEnv.pu rfl rfl rfl rfl (fun w hS => pn_errc rfl) ?_
  refine RegEnv.pu rfl rfl rfl rfl (fun w hS => rfl) ?_
  refine RegEnv.pu rfl rfl rfl rfl (fun w hS => rfl) ?_
  refine RegEnv.pu rfl rfl rfl rfl (fun w hS => pn_a2 rfl) ?_
  refine RegEnv.pu rfl rfl rfl rfl (fun w hS => pn_lb rfl (Q2 w hS)) ?_
  refine RegEnv.pu rfl rfl rfl rfl (fun w hS => rfl) ?_
  refine RegEnv.pu rfl rfl rfl rfl (fun w hS => rfl) ?_
  refine RegEnv.pu rfl rfl rfl rfl (fun w hS => pn_a6 rfl) ?_
  refine RegEnv.pu rfl rfl rfl rfl (fun w hS => pn_ls rfl (Q6 w hS)) ?_
  refine RegEnv.pu rfl rfl rfl rfl (fun w hS => pn_strc rfl rfl) ?_
  refine RegEnv.pu rfl rfl rfl rfl (fun w hS => rfl) ?_
  refine RegEnv.pu rfl rfl rfl rfl (fun w hS => rfl) ?_
  refine RegEnv.pu rfl rfl rfl rfl (fun w hS => pn_a5 rfl) ?_
  refine RegEnv.pu rfl rfl rfl rfl (fun w hS => pn_ls rfl (Q5 w hS)) ?_
  refine RegEnv.pu rfl rfl rfl rfl (fun w hS => pn_strc rfl rfl) ?_
  iterate 6 refine RegEnv.pu rfl rfl rfl rfl (fun w hS => rfl) ?_
  refine RegEnv.pu rfl rfl rfl rfl (fun w hS => pn_intc rfl) ?_
  refine RegEnv.pu rfl rfl rfl rfl (fun w hS => rfl) ?_
  refine RegEnv.pu rfl rfl rfl rfl (fun w hS => rfl) ?_
  refine RegEnv.pu rfl rfl rfl rfl (fun w hS => pn_row rfl sN (RN w hS)) ?_
  refine RegEnv.ca rfl rfl rfl rfl (fun w => re_publish_Valid_inti645 rfl) H3 ?_
  refine RegEnv.pu rfl rfl rfl rfl (fun w hS => pn_errc rfl) ?_
  refine RegEnv.pu rfl rfl rfl rfl (fun w hS => rfl) ?_
  refine RegEnv.pu rfl rfl rfl rfl (fun w hS => rfl) ?_
  refine RegEnv.pu rfl rfl rfl rfl (fun w hS => pn_row rfl sZ (RZ w hS)) ?_
  refine RegEnv.ca rfl rfl rfl rfl (fun w => re_publish_Valid_inti645 rfl) H4 ?_
  refine RegEnv.pu rfl rfl rfl rfl (fun w hS => pn_errc rfl) ?_
  refine RegEnv.pu rfl rfl rfl rfl (fun w hS => rfl) ?_
  refine RegEnv.pu rfl rfl rfl rfl (fun w hS => rfl) ?_
  refine RegEnv.pu rfl rfl rfl rfl (fun w hS => pn_row rfl sD (RD w hS)) ?_
  refine RegEnv.ca rfl rfl rfl rfl (fun w => re_publish_Valid_inti645 rfl) H5 ?_
  refine RegEnv.pu rfl rfl rfl rfl (fun w hS => pn_errc rfl) ?_
  refine RegEnv.pu rfl rfl rfl rfl (fun w hS => rfl) ?_
  refine RegEnv.pu rfl rfl rfl rfl (fun w hS => rfl) ?_
  refine RegEnv.pu rfl rfl rfl rfl (fun w hS => pn_row rfl sC (RC w hS)) ?_
  refine RegEnv.ca rfl rfl rfl rfl (fun w => re_publish_Valid_inti645 rfl) H6 ?_
  refine RegEnv.pu rfl rfl rfl rfl (fun w hS => pn_errc rfl) ?_
  refine RegEnv.pu rfl rfl rfl rfl (fun w hS => rfl) ?_
  refine RegEnv.pu rfl rfl rfl rfl (fun w hS => rfl) ?_
  refine RegEnv.pu rfl rfl rfl rfl (fun w hS => pn_row rfl sP (RP w hS)) ?_
  refine RegEnv.ca rfl rfl rfl rfl (fun w => re_publish_Valid_inti644 rfl) H7 ?_
  refine RegEnv.pu rfl rfl rfl rfl (fun w hS => pn_errc rfl) ?_
  refine RegEnv.pu rfl rfl rfl rfl (fun w hS => rfl) ?_
  refine RegEnv.pu rfl rfl rfl rfl (fun w hS => rfl) ?_
  refine RegEnv.pu rfl rfl rfl rfl (fun w hS => pn_row rfl sP (RP w hS)) ?_
  refine RegEnv.ca rfl rfl rfl rfl (fun w => re_publish_Valid_inti645 rfl) H8 ?_
  refine RegEnv.pu rfl rfl rfl rfl (fun w hS => pn_errc rfl) ?_
  refine RegEnv.pu rfl rfl rfl rfl (fun w hS => rfl) ?_
  refine RegEnv.pu rfl rfl rfl rfl (fun w hS => rfl) ?_
  refine RegEnv.ca rfl rfl rfl rfl (fun w => re_polyglotlaw09_one) H1 ?_
  refine RegEnv.ca rfl rfl rfl rfl (fun w => re_publish_Valid_inti643 rfl) H9 ?_
  refine RegEnv.pu rfl rfl rfl rfl (fun w hS => pn_errc rfl) ?_
  refine RegEnv.pu rfl rfl rfl rfl (fun w hS => rfl) ?_
  refine RegEnv.pu rfl rfl rfl rfl (fun w hS => rfl) ?_
  refine RegEnv.pu rfl rfl rfl rfl (fun w hS => pn_build hDA) ?_
  refine RegEnv.ca rfl rfl rfl rfl (fun w => re_publish_Valid_inti645 rfl) H10 ?_
  refine RegEnv.pu rfl rfl rfl rfl (fun w hS => pn_errc rfl) ?_
  refine RegEnv.pu rfl rfl rfl rfl (fun w hS => rfl) ?_
  refine RegEnv.pu rfl rfl rfl rfl (fun w hS => rfl) ?_
  exact RegEnv.All.fin rfl
end Go.Proofs.YtaahhbjnflimnaaGreat
