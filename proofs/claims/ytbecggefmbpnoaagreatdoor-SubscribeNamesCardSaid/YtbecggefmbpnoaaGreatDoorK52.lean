/- The last region of SubscribeNames: whatever order its operations come in, it ends with true. Condition: the calls answer as is asked. -/
import Derived.Test.YtbecggefmbpnoaaGreatDoorK08
import Derived.Test.YtbecggefmbpnoaaGreatDoorK37
import Derived.Test.YtbecggefmbpnoaaGreatDoorK49
import Derived.Test.YtbecggefmbpnoaaGreatDoorK51
set_option maxRecDepth 100000
set_option maxHeartbeats 8000000
namespace Go.Proofs.YtbecggefmbpnoaaGreatDoor
open Go.RowKit
def oneV:Option Nat→Value
 | some g => .agg (pkC qucf (adF (some ⟨g,0,none⟩) 1))
 | none=>undef
def lstV:Option Nat→Value
 | some g => .slice (some ⟨g,0,none⟩) 1 1
 | none=>undef
def thrV:Option Nat→Value
 | some g => .agg (pkC qsdj (adC (some ⟨g,0,none⟩) 1))
 | none=>undef
def SnS(T:World→Prop)(x:Option Nat×Option Nat)(w:World):Prop:=
 T w∧(∀g,x.1=some g→PkAt w qucf (adF (some ⟨g,0,none⟩) 1))∧∀g,x.2=some g→PkAt w qsdj (adC (some ⟨g,0,none⟩) 1)
theorem SnS.low{T:World→Prop}{x:Option Nat×Option Nat}{w w':World}(h:SnS T x w)(LO:∀w w',T w→Below w.heap.size w w'→T w')(b:Below w.heap.size w w'):SnS T x w':=
 ⟨LO w w' h.1 b,fun g hg=>(h.2.1 g hg).below b,fun g hg=>(h.2.2 g hg).below b⟩
def SnM(i:Nat)(x:Option Nat×Option Nat):Prop:=(i=52→x.1.isSome=true)∧(i=116→x.2.isSome=true)
theorem qpby{i:Nat}{x:Option Nat×Option Nat}(h:¬i=52)(k:¬i=116):SnM i x:=⟨fun e=>absurd e h,fun e=>absurd e k⟩
theorem q1et(w:World):PkAt (w.alloc (.cells #[.int .i64 3] 3)) qsdj (adC (some ⟨w.heap.size,0,none⟩) 1):=
 q4lq (CL.of_cells (heap_alloc_new w _) (fun j u hu=>by rw[←hu,←Array.getElem?_toList];rfl))
section
variable{a:Act}{w:World}{d:Option Tmp}{p:String}{af:Array Edge}{gd:Option (Nat×Bool)}{x y z:Tmp}{r:TypeId}
theorem qju5{z u:ByteArray}(hx:a.eval (.tmp x) = .string z)(hu:z=u) :
 (execOp a.eval {dst:=d,op := .binOp .eql 9 (.tmp x) (.const (.string u)) 9,type:=r,pos:=p,after:=af,guard:=gd}).run Tryz.prog w = .ok (.value (.bool true)) w:=by
 subst hu
 have hc:a.eval (.const (.string z)) = .string z:=rfl
 generalize a.eval=f at *
 go_simp
theorem qc24{g c:Nat}(hx:a.eval (.tmp x) = .slice (some ⟨g,0,none⟩) 2 c) :
 (execOp a.eval {dst:=d,op := .indexAddr 27 (.tmp x) (.const (.int .i64 1)),type:=r,pos:=p,after:=af,guard:=gd}).run Tryz.prog w = .ok (.value (.pointer (some ⟨g,5,none⟩))) w:=by
 have hc:a.eval (.const (.int .i64 1)) = .int .i64 1:=rfl
 generalize a.eval=f at *
 go_simp
theorem qpyy:(execOp a.eval {dst:=d,op := .buildSlice 26 1 #[(0,.const (.int .i64 3))],type:=r,pos:=p,after:=af,guard:=gd}).run Tryz.prog w = .ok (.value (.slice (some ⟨w.heap.size,0,none⟩) 1 1)) (w.alloc (.cells #[.int .i64 3] 3)):=by
 have hc:a.eval (.const (.int .i64 3)) = .int .i64 3:=rfl
 generalize a.eval=f at *
 go_simp
theorem qn0z{o:Option Nat}(hx:a.eval (.tmp x)=lstV o)(ho:o.isSome=true) :
 (execOp a.eval {dst:=d,op := .build 29 #[(0,.const (.int .i64 9)),(4,.const (.int .i64 1)),(18,.tmp x)],type:=r,pos:=p,after:=af,guard:=gd}).run Tryz.prog w = .ok (.value (thrV o)) w:=by
 cases o with
 | none=>cases ho
 | some g=>
  have e:thrV (some g) = .agg (((pkZ.setIfInBounds 0 (.int .i64 9)).setIfInBounds 4 (.int .i64 1)).setIfInBounds 22 (.slice (some ⟨g,0,none⟩) 1 1)):=rfl
  rw[e]
  replace hx:a.eval (.tmp x) = .slice (some ⟨g,0,none⟩) 1 1:=hx
  clear e
  have hz:=qrai w
  have hne:¬pkZ=#[]:=by intro h;have:=qbwp;rw[h] at this;cases this
  have hs:=qbwp
  have h1:a.eval (.const (.int .i64 9)) = .int .i64 9:=rfl
  have h2:a.eval (.const (.int .i64 1)) = .int .i64 1:=rfl
  generalize a.eval=f at *
  go_simp
end
theorem qijv{Q:Exit→Act→World→Prop}{T:World→Prop}{W:World}{Bf Bp Bg Bu Be Bs Bb gF cF:Nat}{A A2 A3:ByteArray}{Df Dp Dg Du De Ds Db:Array Value}{x6 x8 x10 x12 x14 x16 x18 x29 x30 x31 x32 x33 x34 x35 x36 x37 x38 x39 x40 x41 x42 x43 x44 x45 x46 x47 x48 x49 x50 x51 x52 x53 x54 x55 x56 x57 x58 x59 x60 x61 x62 x63 x64 x65 x66 x67 x68 x69 x70 x71 x72 x73 x74 x75 x76 x77 x78 x79 x80 x81 x82 x83 x84 x85 x86 x87 x88 x89 x90 x91 x92 x93 x94 x95 x96 x97 x98 x99 x100 x101 x102 x103 x104 x105 x106 x107 x108 x109 x110 x111 x112 x113 x114 x115 x116 x117 x118 x119 x120 x121 x122 x123 x124 x125 x126 x127 x128 x129 x130 x131 x132 x133 x134 x135 x136 x137 x138 x139 x140 x141 x142 x143 x144 x145 x146 x147 x148 x149 x150 x151 x152 x153 x154 x155 x156 x157 x158 x159 x160 x161 x162 x163 x164 x165 x166 x167 x168 x169 x170 x171 x172 x173 x174 x175 x176 x177 x178 x179 x180 x181 x182 x183 x184 x185 x186 x187 x188 x189 x190 x191 x192 x193 x194 x195 x196 x197 x198 x199 x200 x201 x202 x203 x204 x205 x206 x207 x208 x209 x210 x211 x212 x213 x214 x215 x216 x217 x218 x219 x220:Value}
 (T0:T W.drew) (LO:∀w w',T w→Below w.heap.size w w'→T w') (hA:A=⟨#[0,1,0,0,3,97,47,35,2,0,1,98,45]⟩) (hA2:A2=⟨#[0,1,0,1,97]⟩) (hA3:A3=⟨#[0,1]⟩)
 (sf:Df.size=25) (sp:Dp.size=25) (sg:Dg.size=25) (su:Du.size=25) (se:De.size=25) (ss:Ds.size=25) (sb:Db.size=25)
 (Rf:∀w,T w→w.heap[Bf]? = some (.cells Df 29 (0,0)))
 (Rp:∀w,T w→w.heap[Bp]? = some (.cells Dp 29 (0,0)))
 (Rg:∀w,T w→w.heap[Bg]? = some (.cells Dg 29 (0,0)))
 (Ru:∀w,T w→w.heap[Bu]? = some (.cells Du 29 (0,0)))
 (Re:∀w,T w→w.heap[Be]? = some (.cells De 29 (0,0)))
 (Rs:∀w,T w→w.heap[Bs]? = some (.cells Ds 29 (0,0)))
 (Rb:∀w,T w→w.heap[Bb]? = some (.cells Db 29 (0,0)))
 (K:∀w,T w→w.cell? ⟨Bf,23,none⟩=some (.slice (some ⟨gF,0,none⟩) 2 cF))
 (C0:∀w,T w→w.cell? ⟨gF,5,none⟩=some (.string (bs bF.topic))) (C1:∀w,T w→w.cell? ⟨gF,5+1,none⟩=some (.int .i64 bF.qos)) (C2:∀w,T w→w.cell? ⟨gF,5+2,none⟩=some (.bool bF.noLocal)) (C3:∀w,T w→w.cell? ⟨gF,5+3,none⟩=some (.bool bF.asPub)) (C4:∀w,T w→w.cell? ⟨gF,5+4,none⟩=some (.int .i64 bF.handling))
 (ON:∀w,T w→Calls Tryz.prog 9 #[] w fun e w'=>∃g,e = .returned (.agg (pkC qucf (adF (some ⟨g,0,none⟩) 1)))∧PkAt w' qucf (adF (some ⟨g,0,none⟩) 1)∧Below w.heap.size w w')
 (H4:∀w g,T w→PkAt w qucf (adF (some ⟨g,0,none⟩) 1)→Calls Tryz.prog 14 #[(.int .i64 4),.agg (pkC qucf (adF (some ⟨g,0,none⟩) 1)),.agg Dg] w fun e w'=>e = .returned (.bool true)∧Below w.heap.size w w')
 (H13:∀w g,T w→PkAt w qsdj (adC (some ⟨g,0,none⟩) 1)→Calls Tryz.prog 15 #[(.int .i64 4),.agg (pkC qsdj (adC (some ⟨g,0,none⟩) 1))] w fun e w'=>e = .returned (.int .i64 2)∧Below w.heap.size w w')
 (H1:∀w,T w→Calls Tryz.prog 12 #[(.agg Dp),(.agg Df)] w fun e w'=>e = .returned (.bool true)∧Below w.heap.size w w')
 (H2:∀w,T w→Calls Tryz.prog 13 #[(.agg (fiC bF))] w fun e w'=>e = .returned (.int .i64 45)∧Below w.heap.size w w')
 (H5:∀w,T w→Calls Tryz.prog 14 #[(.int .i64 4),(.agg Df),(.agg Dg)] w fun e w'=>e = .returned (.bool false)∧Below w.heap.size w w')
 (H6:∀w,T w→Calls Tryz.prog 14 #[(.int .i64 4),(.agg Dg),(.agg Dg)] w fun e w'=>e = .returned (.bool false)∧Below w.heap.size w w')
 (H7:∀w,T w→Calls Tryz.prog 14 #[(.int .i64 4),(.agg Du),(.agg De)] w fun e w'=>e = .returned (.bool true)∧Below w.heap.size w w')
 (H8:∀w,T w→Calls Tryz.prog 14 #[(.int .i64 5),(.agg Du),(.agg De)] w fun e w'=>e = .returned (.bool false)∧Below w.heap.size w w')
 (H9:∀w,T w→Calls Tryz.prog 15 #[(.int .i64 5),(.agg De)] w fun e w'=>e = .returned (.int .i64 2)∧Below w.heap.size w w')
 (H10:∀w,T w→Calls Tryz.prog 15 #[(.int .i64 5),(.agg Ds)] w fun e w'=>e = .returned (.int .i64 2)∧Below w.heap.size w w')
 (H11:∀w,T w→Calls Tryz.prog 15 #[(.int .i64 5),(.agg Db)] w fun e w'=>e = .returned (.int .i64 2)∧Below w.heap.size w w')
 (H12:∀w,T w→Calls Tryz.prog 15 #[(.int .i64 4),(.agg Df)] w fun e w'=>e = .returned (.int .i64 2)∧Below w.heap.size w w')
 (fin:∀v1 v2 v3 w,T w→Q .normal ⟨#[(.bool true),(.pointer (some ⟨Bf,0,none⟩)),(.string A),(.int .i64 0),(.pointer (some ⟨Bp,0,none⟩)),(.int .i64 0),x6,(.int .i64 7),x8,(.int .i64 7),x10,(.int .i64 2),x12,(.int .i64 3),x14,(.int .i64 10),x16,(.int .i64 2),x18,(.int .i64 2),(.pointer (some ⟨Bg,0,none⟩)),(.pointer (some ⟨Bu,0,none⟩)),(.string A2),(.int .i64 0),(.pointer (some ⟨Be,0,none⟩)),(.string A3),(.int .i64 0),(.pointer (some ⟨Bs,0,none⟩)),(.pointer (some ⟨Bb,0,none⟩)),x29,x30,x31,x32,x33,x34,x35,x36,x37,x38,x39,x40,x41,x42,x43,x44,x45,x46,x47,x48,x49,x50,x51,x52,x53,x54,x55,x56,x57,x58,x59,x60,x61,x62,x63,x64,x65,x66,x67,x68,x69,x70,x71,x72,x73,x74,x75,x76,x77,x78,x79,x80,x81,x82,x83,x84,x85,x86,x87,x88,x89,x90,x91,x92,x93,x94,x95,x96,x97,x98,x99,(.int .i64 0),(.bool true),(.bool true),(.string A),(.bool true),(.bool true),(.bool true),(.int .i64 0),(.bool true),(.bool true),(.bool true),(.agg Dp),(.agg Df),(.bool true),(.bool true),(.bool true),(.pointer (some ⟨Bf,23,none⟩)),(.slice (some ⟨gF,0,none⟩) 2 cF),(.pointer (some ⟨gF,5,none⟩)),(.agg (fiC bF)),(.int .i64 45),(.bool true),(.bool true),(.bool true),(.int .i64 7),(.bool true),(.bool true),(.bool true),(.int .i64 7),(.bool true),(.bool true),(.bool true),(.int .i64 2),(.bool true),(.bool true),(.bool true),(.int .i64 3),(.bool true),(.bool true),(.bool true),(.int .i64 10),(.bool true),(.bool true),(.bool true),(.int .i64 2),(.bool true),(.bool true),(.bool true),(.int .i64 2),(.bool true),(.bool true),(.bool true),v1,(.agg Dg),(.bool true),(.bool true),(.bool true),(.agg Df),(.agg Dg),(.bool false),(.bool true),(.bool true),(.bool true),(.agg Dg),(.agg Dg),(.bool false),(.bool true),(.bool true),(.bool true),(.int .i64 0),(.bool true),(.bool true),(.bool true),(.string A2),(.bool true),(.bool true),(.bool true),(.int .i64 0),(.bool true),(.bool true),(.bool true),(.string A3),(.bool true),(.bool true),(.bool true),(.agg Du),(.agg De),(.bool true),(.bool true),(.bool true),(.agg Du),(.agg De),(.bool false),(.bool true),(.bool true),(.bool true),(.agg De),(.int .i64 2),(.bool true),(.bool true),(.bool true),(.agg Ds),(.int .i64 2),(.bool true),(.bool true),(.bool true),(.agg Db),(.int .i64 2),(.bool true),(.bool true),(.bool true),(.agg Df),(.int .i64 2),(.bool true),(.bool true),(.bool true),v2,v3,(.int .i64 2),(.bool true),(.bool true)],[]⟩ w) :
 (Code.region 23 (qfhu.opsAt 23 Tryz.f3.body) true).wp Tryz.prog Q ⟨#[(.bool false),(.pointer (some ⟨Bf,0,none⟩)),(.string A),(.int .i64 0),(.pointer (some ⟨Bp,0,none⟩)),(.int .i64 0),x6,(.int .i64 7),x8,(.int .i64 7),x10,(.int .i64 2),x12,(.int .i64 3),x14,(.int .i64 10),x16,(.int .i64 2),x18,(.int .i64 2),(.pointer (some ⟨Bg,0,none⟩)),(.pointer (some ⟨Bu,0,none⟩)),(.string A2),(.int .i64 0),(.pointer (some ⟨Be,0,none⟩)),(.string A3),(.int .i64 0),(.pointer (some ⟨Bs,0,none⟩)),(.pointer (some ⟨Bb,0,none⟩)),x29,x30,x31,x32,x33,x34,x35,x36,x37,x38,x39,x40,x41,x42,x43,x44,x45,x46,x47,x48,x49,x50,x51,x52,x53,x54,x55,x56,x57,x58,x59,x60,x61,x62,x63,x64,x65,x66,x67,x68,x69,x70,x71,x72,x73,x74,x75,x76,x77,x78,x79,x80,x81,x82,x83,x84,x85,x86,x87,x88,x89,x90,x91,x92,x93,x94,x95,x96,x97,x98,x99,x100,x101,x102,x103,x104,x105,x106,x107,x108,x109,x110,x111,x112,x113,x114,x115,x116,x117,x118,x119,x120,x121,x122,x123,x124,x125,x126,x127,x128,x129,x130,x131,x132,x133,x134,x135,x136,x137,x138,x139,x140,x141,x142,x143,x144,x145,x146,x147,x148,x149,x150,x151,x152,x153,x154,x155,x156,x157,x158,x159,x160,x161,x162,x163,x164,x165,x166,x167,x168,x169,x170,x171,x172,x173,x174,x175,x176,x177,x178,x179,x180,x181,x182,x183,x184,x185,x186,x187,x188,x189,x190,x191,x192,x193,x194,x195,x196,x197,x198,x199,x200,x201,x202,x203,x204,x205,x206,x207,x208,x209,x210,x211,x212,x213,x214,x215,x216,x217,x218,x219,x220],[]⟩ W:=by
 refine q2y4.wp (x:=((none,none):Option Nat×Option Nat)) (S:=SnS T) (made:=SnM) (war:=[]) (ds:=[100,101,102,103,104,105,106,107,108,109,110,111,112,113,114,115,116,117,118,119,120,121,122,123,124,125,126,127,128,129,130,131,132,133,134,135,136,137,138,139,140,141,142,143,144,145,146,147,148,149,150,151,152,153,154,155,156,157,158,159,160,161,162,163,164,165,166,167,168,169,170,171,172,173,174,175,176,177,178,179,180,181,182,183,184,185,186,187,188,189,190,191,192,193,194,195,196,197,198,199,200,201,202,203,204,205,206,207,208,209,210,211,212,213,214,215,216,217,218,219,220,0]) (A:=[(.bool false),(.pointer (some ⟨Bf,0,none⟩)),(.string A),(.int .i64 0),(.pointer (some ⟨Bp,0,none⟩)),(.int .i64 0),x6,(.int .i64 7),x8,(.int .i64 7),x10,(.int .i64 2),x12,(.int .i64 3),x14,(.int .i64 10),x16,(.int .i64 2),x18,(.int .i64 2),(.pointer (some ⟨Bg,0,none⟩)),(.pointer (some ⟨Bu,0,none⟩)),(.string A2),(.int .i64 0),(.pointer (some ⟨Be,0,none⟩)),(.string A3),(.int .i64 0),(.pointer (some ⟨Bs,0,none⟩)),(.pointer (some ⟨Bb,0,none⟩)),x29,x30,x31,x32,x33,x34,x35,x36,x37,x38,x39,x40,x41,x42,x43,x44,x45,x46,x47,x48,x49,x50,x51,x52,x53,x54,x55,x56,x57,x58,x59,x60,x61,x62,x63,x64,x65,x66,x67,x68,x69,x70,x71,x72,x73,x74,x75,x76,x77,x78,x79,x80,x81,x82,x83,x84,x85,x86,x87,x88,x89,x90,x91,x92,x93,x94,x95,x96,x97,x98,x99,x100,x101,x102,x103,x104,x105,x106,x107,x108,x109,x110,x111,x112,x113,x114,x115,x116,x117,x118,x119,x120,x121,x122,x123,x124,x125,x126,x127,x128,x129,x130,x131,x132,x133,x134,x135,x136,x137,x138,x139,x140,x141,x142,x143,x144,x145,x146,x147,x148,x149,x150,x151,x152,x153,x154,x155,x156,x157,x158,x159,x160,x161,x162,x163,x164,x165,x166,x167,x168,x169,x170,x171,x172,x173,x174,x175,x176,x177,x178,x179,x180,x181,x182,x183,x184,x185,x186,x187,x188,x189,x190,x191,x192,x193,x194,x195,x196,x197,x198,x199,x200,x201,x202,x203,x204,x205,x206,x207,x208,x209,x210,x211,x212,x213,x214,x215,x216,x217,x218,x219,x220]) (B:=fun x=>[(.bool true),(.pointer (some ⟨Bf,0,none⟩)),(.string A),(.int .i64 0),(.pointer (some ⟨Bp,0,none⟩)),(.int .i64 0),x6,(.int .i64 7),x8,(.int .i64 7),x10,(.int .i64 2),x12,(.int .i64 3),x14,(.int .i64 10),x16,(.int .i64 2),x18,(.int .i64 2),(.pointer (some ⟨Bg,0,none⟩)),(.pointer (some ⟨Bu,0,none⟩)),(.string A2),(.int .i64 0),(.pointer (some ⟨Be,0,none⟩)),(.string A3),(.int .i64 0),(.pointer (some ⟨Bs,0,none⟩)),(.pointer (some ⟨Bb,0,none⟩)),x29,x30,x31,x32,x33,x34,x35,x36,x37,x38,x39,x40,x41,x42,x43,x44,x45,x46,x47,x48,x49,x50,x51,x52,x53,x54,x55,x56,x57,x58,x59,x60,x61,x62,x63,x64,x65,x66,x67,x68,x69,x70,x71,x72,x73,x74,x75,x76,x77,x78,x79,x80,x81,x82,x83,x84,x85,x86,x87,x88,x89,x90,x91,x92,x93,x94,x95,x96,x97,x98,x99,(.int .i64 0),(.bool true),(.bool true),(.string A),(.bool true),(.bool true),(.bool true),(.int .i64 0),(.bool true),(.bool true),(.bool true),(.agg Dp),(.agg Df),(.bool true),(.bool true),(.bool true),(.pointer (some ⟨Bf,23,none⟩)),(.slice (some ⟨gF,0,none⟩) 2 cF),(.pointer (some ⟨gF,5,none⟩)),(.agg (fiC bF)),(.int .i64 45),(.bool true),(.bool true),(.bool true),(.int .i64 7),(.bool true),(.bool true),(.bool true),(.int .i64 7),(.bool true),(.bool true),(.bool true),(.int .i64 2),(.bool true),(.bool true),(.bool true),(.int .i64 3),(.bool true),(.bool true),(.bool true),(.int .i64 10),(.bool true),(.bool true),(.bool true),(.int .i64 2),(.bool true),(.bool true),(.bool true),(.int .i64 2),(.bool true),(.bool true),(.bool true),(oneV x.1),(.agg Dg),(.bool true),(.bool true),(.bool true),(.agg Df),(.agg Dg),(.bool false),(.bool true),(.bool true),(.bool true),(.agg Dg),(.agg Dg),(.bool false),(.bool true),(.bool true),(.bool true),(.int .i64 0),(.bool true),(.bool true),(.bool true),(.string A2),(.bool true),(.bool true),(.bool true),(.int .i64 0),(.bool true),(.bool true),(.bool true),(.string A3),(.bool true),(.bool true),(.bool true),(.agg Du),(.agg De),(.bool true),(.bool true),(.bool true),(.agg Du),(.agg De),(.bool false),(.bool true),(.bool true),(.bool true),(.agg De),(.int .i64 2),(.bool true),(.bool true),(.bool true),(.agg Ds),(.int .i64 2),(.bool true),(.bool true),(.bool true),(.agg Db),(.int .i64 2),(.bool true),(.bool true),(.bool true),(.agg Df),(.int .i64 2),(.bool true),(.bool true),(.bool true),(lstV x.2),(thrV x.2),(.int .i64 2),(.bool true),(.bool true)]) (D:=[]) (by kernel_rfl) (by kernel_rfl) (by kernel_rfl) ?_ ⟨T0,(fun g h=>nomatch h),(fun g h=>nomatch h)⟩ ?_ (fun x w _ hS=>fin _ _ _ w hS.1)
 ·exact fun x=>(by repeat (first | exact trivial | refine⟨.inr rfl,?_⟩ | refine⟨.inl rfl,?_⟩))
 refine q2y4.pu rfl rfl (fun _=>qpby (by decide) (by decide)) (fun x w hm hS=>⟨rfl,rfl,rfl⟩) ?_
 refine q2y4.pu rfl rfl (fun _=>qpby (by decide) (by decide)) (fun x w hm hS=>⟨rfl,rfl,qn1u rfl rfl⟩) ?_
 iterate 2 refine q2y4.pu rfl rfl (fun _=>qpby (by decide) (by decide)) (fun x w hm hS=>⟨rfl,rfl,rfl⟩) ?_
 refine q2y4.pu rfl rfl (fun _=>qpby (by decide) (by decide)) (fun x w hm hS=>⟨rfl,rfl,qju5 rfl hA⟩) ?_
 iterate 3 refine q2y4.pu rfl rfl (fun _=>qpby (by decide) (by decide)) (fun x w hm hS=>⟨rfl,rfl,rfl⟩) ?_
 refine q2y4.pu rfl rfl (fun _=>qpby (by decide) (by decide)) (fun x w hm hS=>⟨rfl,rfl,qn1u rfl rfl⟩) ?_
 iterate 2 refine q2y4.pu rfl rfl (fun _=>qpby (by decide) (by decide)) (fun x w hm hS=>⟨rfl,rfl,rfl⟩) ?_
 refine q2y4.pu rfl rfl (fun _=>qpby (by decide) (by decide)) (fun x w hm hS=>⟨rfl,rfl,qjuh rfl sp (Rp w hS.1)⟩) ?_
 refine q2y4.pu rfl rfl (fun _=>qpby (by decide) (by decide)) (fun x w hm hS=>⟨rfl,rfl,qjuh rfl sf (Rf w hS.1)⟩) ?_
 refine q2y4.All.step rfl (q2y4.Does.call (val:=fun x=>(.bool true)) rfl (fun _=>qpby (by decide) (by decide)) (fun x w hm hS=>⟨rfl,rfl,qpjl.enter2 Tryz.func12 rfl rfl rfl,(H1 w hS.1).mono fun e w' ⟨h1,h2⟩=>⟨h1,hS.low LO h2⟩⟩)) ?_
 iterate 2 refine q2y4.pu rfl rfl (fun _=>qpby (by decide) (by decide)) (fun x w hm hS=>⟨rfl,rfl,rfl⟩) ?_
 refine q2y4.pu rfl rfl (fun _=>qpby (by decide) (by decide)) (fun x w hm hS=>⟨rfl,rfl,qvcr rfl⟩) ?_
 refine q2y4.pu rfl rfl (fun _=>qpby (by decide) (by decide)) (fun x w hm hS=>⟨rfl,rfl,qdeq rfl (K w hS.1)⟩) ?_
 refine q2y4.pu rfl rfl (fun _=>qpby (by decide) (by decide)) (fun x w hm hS=>⟨rfl,rfl,qc24 rfl⟩) ?_
 refine q2y4.pu rfl rfl (fun _=>qpby (by decide) (by decide)) (fun x w hm hS=>⟨rfl,rfl,rf_at rfl (C0 w hS.1) (C1 w hS.1) (C2 w hS.1) (C3 w hS.1) (C4 w hS.1)⟩) ?_
 refine q2y4.All.step rfl (q2y4.Does.call (val:=fun x=>(.int .i64 45)) rfl (fun _=>qpby (by decide) (by decide)) (fun x w hm hS=>⟨rfl,rfl,qpjl.enter1 Tryz.func13 rfl rfl,(H2 w hS.1).mono fun e w' ⟨h1,h2⟩=>⟨h1,hS.low LO h2⟩⟩)) ?_
 refine q2y4.pu rfl rfl (fun _=>qpby (by decide) (by decide)) (fun x w hm hS=>⟨rfl,rfl,qkut rfl rfl⟩) ?_
 iterate 3 refine q2y4.pu rfl rfl (fun _=>qpby (by decide) (by decide)) (fun x w hm hS=>⟨rfl,rfl,rfl⟩) ?_
 refine q2y4.pu rfl rfl (fun _=>qpby (by decide) (by decide)) (fun x w hm hS=>⟨rfl,rfl,qn1u rfl rfl⟩) ?_
 iterate 3 refine q2y4.pu rfl rfl (fun _=>qpby (by decide) (by decide)) (fun x w hm hS=>⟨rfl,rfl,rfl⟩) ?_
 refine q2y4.pu rfl rfl (fun _=>qpby (by decide) (by decide)) (fun x w hm hS=>⟨rfl,rfl,qn1u rfl rfl⟩) ?_
 iterate 3 refine q2y4.pu rfl rfl (fun _=>qpby (by decide) (by decide)) (fun x w hm hS=>⟨rfl,rfl,rfl⟩) ?_
 refine q2y4.pu rfl rfl (fun _=>qpby (by decide) (by decide)) (fun x w hm hS=>⟨rfl,rfl,qn1u rfl rfl⟩) ?_
 iterate 3 refine q2y4.pu rfl rfl (fun _=>qpby (by decide) (by decide)) (fun x w hm hS=>⟨rfl,rfl,rfl⟩) ?_
 refine q2y4.pu rfl rfl (fun _=>qpby (by decide) (by decide)) (fun x w hm hS=>⟨rfl,rfl,qn1u rfl rfl⟩) ?_
 iterate 3 refine q2y4.pu rfl rfl (fun _=>qpby (by decide) (by decide)) (fun x w hm hS=>⟨rfl,rfl,rfl⟩) ?_
 refine q2y4.pu rfl rfl (fun _=>qpby (by decide) (by decide)) (fun x w hm hS=>⟨rfl,rfl,qn1u rfl rfl⟩) ?_
 iterate 3 refine q2y4.pu rfl rfl (fun _=>qpby (by decide) (by decide)) (fun x w hm hS=>⟨rfl,rfl,rfl⟩) ?_
 refine q2y4.pu rfl rfl (fun _=>qpby (by decide) (by decide)) (fun x w hm hS=>⟨rfl,rfl,qn1u rfl rfl⟩) ?_
 iterate 3 refine q2y4.pu rfl rfl (fun _=>qpby (by decide) (by decide)) (fun x w hm hS=>⟨rfl,rfl,rfl⟩) ?_
 refine q2y4.pu rfl rfl (fun _=>qpby (by decide) (by decide)) (fun x w hm hS=>⟨rfl,rfl,qn1u rfl rfl⟩) ?_
 iterate 2 refine q2y4.pu rfl rfl (fun _=>qpby (by decide) (by decide)) (fun x w hm hS=>⟨rfl,rfl,rfl⟩) ?_
 refine q2y4.All.step rfl (fun x w hm hS => .inl ⟨rfl,.call _ _ (qpjl.enter0 Tryz.func9 rfl) ((ON w hS.1).mono fun e w' ⟨g,he,h1,h2⟩=>⟨_,(some g,x.2),he,(fun d hd=>by cases hd;rfl),⟨(hS.low LO h2).1,fun a ha=>by cases ha;exact h1,(hS.low LO h2).2.2⟩,⟨fun _=>rfl,fun h=>absurd h (by decide)⟩,(fun i hi=>⟨fun _=>rfl,hi.2⟩),[152],by kernel_rfl,(by repeat (first | exact trivial | refine⟨.inr rfl,?_⟩ | refine⟨.inl rfl,?_⟩))⟩)⟩) ?_
 refine q2y4.pu rfl rfl (fun _=>qpby (by decide) (by decide)) (fun x w hm hS=>⟨rfl,rfl,qjuh rfl sg (Rg w hS.1)⟩) ?_
 refine q2y4.All.step rfl (q2y4.Does.call (val:=fun x=>(.bool true)) (args:=fun x=>#[(.int .i64 4),oneV x.1,.agg Dg]) rfl (fun _=>qpby (by decide) (by decide)) (fun x w hm hS=>⟨rfl,rfl,qpjl.enter3 Tryz.func14 rfl rfl rfl rfl,by
  obtain⟨x1,x2⟩:=x
  obtain⟨g,hg⟩:=Option.isSome_iff_exists.1 ((hm 52 (by kernel_rfl) (by decide)).1 rfl)
  have hg:x1=some g:=hg
  subst hg
  exact(H4 w g hS.1 (hS.2.1 g rfl)).mono fun e w' ⟨h1,h2⟩=>⟨h1,hS.low LO h2⟩⟩)) ?_
 iterate 2 refine q2y4.pu rfl rfl (fun _=>qpby (by decide) (by decide)) (fun x w hm hS=>⟨rfl,rfl,rfl⟩) ?_
 refine q2y4.pu rfl rfl (fun _=>qpby (by decide) (by decide)) (fun x w hm hS=>⟨rfl,rfl,qjuh rfl sf (Rf w hS.1)⟩) ?_
 refine q2y4.pu rfl rfl (fun _=>qpby (by decide) (by decide)) (fun x w hm hS=>⟨rfl,rfl,qjuh rfl sg (Rg w hS.1)⟩) ?_
 refine q2y4.All.step rfl (q2y4.Does.call (val:=fun x=>(.bool false)) rfl (fun _=>qpby (by decide) (by decide)) (fun x w hm hS=>⟨rfl,rfl,qpjl.enter3 Tryz.func14 rfl rfl rfl rfl,(H5 w hS.1).mono fun e w' ⟨h1,h2⟩=>⟨h1,hS.low LO h2⟩⟩)) ?_
 refine q2y4.pu rfl rfl (fun _=>qpby (by decide) (by decide)) (fun x w hm hS=>⟨rfl,rfl,qr7j rfl rfl⟩) ?_
 iterate 2 refine q2y4.pu rfl rfl (fun _=>qpby (by decide) (by decide)) (fun x w hm hS=>⟨rfl,rfl,rfl⟩) ?_
 iterate 2 refine q2y4.pu rfl rfl (fun _=>qpby (by decide) (by decide)) (fun x w hm hS=>⟨rfl,rfl,qjuh rfl sg (Rg w hS.1)⟩) ?_
 refine q2y4.All.step rfl (q2y4.Does.call (val:=fun x=>(.bool false)) rfl (fun _=>qpby (by decide) (by decide)) (fun x w hm hS=>⟨rfl,rfl,qpjl.enter3 Tryz.func14 rfl rfl rfl rfl,(H6 w hS.1).mono fun e w' ⟨h1,h2⟩=>⟨h1,hS.low LO h2⟩⟩)) ?_
 refine q2y4.pu rfl rfl (fun _=>qpby (by decide) (by decide)) (fun x w hm hS=>⟨rfl,rfl,qr7j rfl rfl⟩) ?_
 iterate 3 refine q2y4.pu rfl rfl (fun _=>qpby (by decide) (by decide)) (fun x w hm hS=>⟨rfl,rfl,rfl⟩) ?_
 refine q2y4.pu rfl rfl (fun _=>qpby (by decide) (by decide)) (fun x w hm hS=>⟨rfl,rfl,qn1u rfl rfl⟩) ?_
 iterate 3 refine q2y4.pu rfl rfl (fun _=>qpby (by decide) (by decide)) (fun x w hm hS=>⟨rfl,rfl,rfl⟩) ?_
 refine q2y4.pu rfl rfl (fun _=>qpby (by decide) (by decide)) (fun x w hm hS=>⟨rfl,rfl,qju5 rfl hA2⟩) ?_
 iterate 3 refine q2y4.pu rfl rfl (fun _=>qpby (by decide) (by decide)) (fun x w hm hS=>⟨rfl,rfl,rfl⟩) ?_
 refine q2y4.pu rfl rfl (fun _=>qpby (by decide) (by decide)) (fun x w hm hS=>⟨rfl,rfl,qn1u rfl rfl⟩) ?_
 iterate 3 refine q2y4.pu rfl rfl (fun _=>qpby (by decide) (by decide)) (fun x w hm hS=>⟨rfl,rfl,rfl⟩) ?_
 refine q2y4.pu rfl rfl (fun _=>qpby (by decide) (by decide)) (fun x w hm hS=>⟨rfl,rfl,qju5 rfl hA3⟩) ?_
 iterate 2 refine q2y4.pu rfl rfl (fun _=>qpby (by decide) (by decide)) (fun x w hm hS=>⟨rfl,rfl,rfl⟩) ?_
 refine q2y4.pu rfl rfl (fun _=>qpby (by decide) (by decide)) (fun x w hm hS=>⟨rfl,rfl,qjuh rfl su (Ru w hS.1)⟩) ?_
 refine q2y4.pu rfl rfl (fun _=>qpby (by decide) (by decide)) (fun x w hm hS=>⟨rfl,rfl,qjuh rfl se (Re w hS.1)⟩) ?_
 refine q2y4.All.step rfl (q2y4.Does.call (val:=fun x=>(.bool true)) rfl (fun _=>qpby (by decide) (by decide)) (fun x w hm hS=>⟨rfl,rfl,qpjl.enter3 Tryz.func14 rfl rfl rfl rfl,(H7 w hS.1).mono fun e w' ⟨h1,h2⟩=>⟨h1,hS.low LO h2⟩⟩)) ?_
 iterate 2 refine q2y4.pu rfl rfl (fun _=>qpby (by decide) (by decide)) (fun x w hm hS=>⟨rfl,rfl,rfl⟩) ?_
 refine q2y4.pu rfl rfl (fun _=>qpby (by decide) (by decide)) (fun x w hm hS=>⟨rfl,rfl,qjuh rfl su (Ru w hS.1)⟩) ?_
 refine q2y4.pu rfl rfl (fun _=>qpby (by decide) (by decide)) (fun x w hm hS=>⟨rfl,rfl,qjuh rfl se (Re w hS.1)⟩) ?_
 refine q2y4.All.step rfl (q2y4.Does.call (val:=fun x=>(.bool false)) rfl (fun _=>qpby (by decide) (by decide)) (fun x w hm hS=>⟨rfl,rfl,qpjl.enter3 Tryz.func14 rfl rfl rfl rfl,(H8 w hS.1).mono fun e w' ⟨h1,h2⟩=>⟨h1,hS.low LO h2⟩⟩)) ?_
 refine q2y4.pu rfl rfl (fun _=>qpby (by decide) (by decide)) (fun x w hm hS=>⟨rfl,rfl,qr7j rfl rfl⟩) ?_
 iterate 2 refine q2y4.pu rfl rfl (fun _=>qpby (by decide) (by decide)) (fun x w hm hS=>⟨rfl,rfl,rfl⟩) ?_
 refine q2y4.pu rfl rfl (fun _=>qpby (by decide) (by decide)) (fun x w hm hS=>⟨rfl,rfl,qjuh rfl se (Re w hS.1)⟩) ?_
 refine q2y4.All.step rfl (q2y4.Does.call (val:=fun x=>(.int .i64 2)) rfl (fun _=>qpby (by decide) (by decide)) (fun x w hm hS=>⟨rfl,rfl,qpjl.enter2 Tryz.func15 rfl rfl rfl,(H9 w hS.1).mono fun e w' ⟨h1,h2⟩=>⟨h1,hS.low LO h2⟩⟩)) ?_
 refine q2y4.pu rfl rfl (fun _=>qpby (by decide) (by decide)) (fun x w hm hS=>⟨rfl,rfl,qn1u rfl rfl⟩) ?_
 iterate 2 refine q2y4.pu rfl rfl (fun _=>qpby (by decide) (by decide)) (fun x w hm hS=>⟨rfl,rfl,rfl⟩) ?_
 refine q2y4.pu rfl rfl (fun _=>qpby (by decide) (by decide)) (fun x w hm hS=>⟨rfl,rfl,qjuh rfl ss (Rs w hS.1)⟩) ?_
 refine q2y4.All.step rfl (q2y4.Does.call (val:=fun x=>(.int .i64 2)) rfl (fun _=>qpby (by decide) (by decide)) (fun x w hm hS=>⟨rfl,rfl,qpjl.enter2 Tryz.func15 rfl rfl rfl,(H10 w hS.1).mono fun e w' ⟨h1,h2⟩=>⟨h1,hS.low LO h2⟩⟩)) ?_
 refine q2y4.pu rfl rfl (fun _=>qpby (by decide) (by decide)) (fun x w hm hS=>⟨rfl,rfl,qn1u rfl rfl⟩) ?_
 iterate 2 refine q2y4.pu rfl rfl (fun _=>qpby (by decide) (by decide)) (fun x w hm hS=>⟨rfl,rfl,rfl⟩) ?_
 refine q2y4.pu rfl rfl (fun _=>qpby (by decide) (by decide)) (fun x w hm hS=>⟨rfl,rfl,qjuh rfl sb (Rb w hS.1)⟩) ?_
 refine q2y4.All.step rfl (q2y4.Does.call (val:=fun x=>(.int .i64 2)) rfl (fun _=>qpby (by decide) (by decide)) (fun x w hm hS=>⟨rfl,rfl,qpjl.enter2 Tryz.func15 rfl rfl rfl,(H11 w hS.1).mono fun e w' ⟨h1,h2⟩=>⟨h1,hS.low LO h2⟩⟩)) ?_
 refine q2y4.pu rfl rfl (fun _=>qpby (by decide) (by decide)) (fun x w hm hS=>⟨rfl,rfl,qn1u rfl rfl⟩) ?_
 iterate 2 refine q2y4.pu rfl rfl (fun _=>qpby (by decide) (by decide)) (fun x w hm hS=>⟨rfl,rfl,rfl⟩) ?_
 refine q2y4.pu rfl rfl (fun _=>qpby (by decide) (by decide)) (fun x w hm hS=>⟨rfl,rfl,qjuh rfl sf (Rf w hS.1)⟩) ?_
 refine q2y4.All.step rfl (q2y4.Does.call (val:=fun x=>(.int .i64 2)) rfl (fun _=>qpby (by decide) (by decide)) (fun x w hm hS=>⟨rfl,rfl,qpjl.enter2 Tryz.func15 rfl rfl rfl,(H12 w hS.1).mono fun e w' ⟨h1,h2⟩=>⟨h1,hS.low LO h2⟩⟩)) ?_
 refine q2y4.pu rfl rfl (fun _=>qpby (by decide) (by decide)) (fun x w hm hS=>⟨rfl,rfl,qn1u rfl rfl⟩) ?_
 iterate 2 refine q2y4.pu rfl rfl (fun _=>qpby (by decide) (by decide)) (fun x w hm hS=>⟨rfl,rfl,rfl⟩) ?_
 refine q2y4.All.step rfl (fun x w hm hS => .inl ⟨rfl,.value (.slice (some ⟨w.heap.size,0,none⟩) 1 1) (x.1,some w.heap.size) _ qpyy ⟨fun d hd=>by cases hd;rfl,⟨(hS.low LO (qybm _)).1,(hS.low LO (qybm _)).2.1,fun a ha=>by cases ha;exact q1et w⟩,⟨fun h=>absurd h (by decide),fun _=>rfl⟩,(fun i hi=>⟨hi.1,fun _=>rfl⟩),[216,217],by kernel_rfl,(by repeat (first | exact trivial | refine⟨.inr rfl,?_⟩ | refine⟨.inl rfl,?_⟩))⟩⟩) ?_
 refine q2y4.pu rfl rfl (fun _=>qpby (by decide) (by decide)) (fun x w hm hS=>⟨rfl,rfl,qn0z rfl ((hm 116 (by kernel_rfl) (by decide)).2 rfl)⟩) ?_
 refine q2y4.All.step rfl (q2y4.Does.call (val:=fun x=>(.int .i64 2)) (args:=fun x=>#[(.int .i64 4),thrV x.2]) rfl (fun _=>qpby (by decide) (by decide)) (fun x w hm hS=>⟨rfl,rfl,qpjl.enter2 Tryz.func15 rfl rfl rfl,by
  obtain⟨x1,x2⟩:=x
  obtain⟨g,hg⟩:=Option.isSome_iff_exists.1 ((hm 116 (by kernel_rfl) (by decide)).2 rfl)
  have hg:x2=some g:=hg
  subst hg
  exact(H13 w g hS.1 (hS.2.2 g rfl)).mono fun e w' ⟨h1,h2⟩=>⟨h1,hS.low LO h2⟩⟩)) ?_
 refine q2y4.pu rfl rfl (fun _=>qpby (by decide) (by decide)) (fun x w hm hS=>⟨rfl,rfl,qn1u rfl rfl⟩) ?_
 iterate 2 refine q2y4.pu rfl rfl (fun _=>qpby (by decide) (by decide)) (fun x w hm hS=>⟨rfl,rfl,rfl⟩) ?_
 exact q2y4.All.fin rfl
end Go.Proofs.YtbecggefmbpnoaaGreatDoor
