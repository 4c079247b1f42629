/- Operations of a region upon a packet in a box: its fields' addresses, loads, comparisons. No condition. -/
import Derived.Test.YthhdhagenmcbeaaGreatK08
import Derived.Test.YthhdhagenmcbeaaGreatK16
import Derived.Test.YthhdhagenmcbeaaGreatK07
set_option maxRecDepth 100000
set_option maxHeartbeats 8000000
namespace Go.Proofs.YthhdhagenmcbeaaGreat
open Go.RowKit
section
variable{a:Act}{w:World}{d:Option Tmp}{p:String}{af:Array Edge}{gd:Option (Nat×Bool)}{x y z:Tmp}{r:TypeId}
theorem qjuh{g:Nat}{C:Array Value}(hx:a.eval (.tmp x) = .pointer (some ⟨g,0,none⟩))(hs:C.size=25)(hg:w.heap[g]? = some (.cells C 35 (0,0))) :
 (execOp a.eval {dst:=d,op := .load 35 (.tmp x),type:=35,pos:=p,after:=af,guard:=gd}).run Tryz.prog w = .ok (.value (.agg C)) w:=by
 unfold execOp
 simp only[hx,Instr.loadAt,Instr.sureAddr,Sem.run_bind,Sem.run_pure,Result.andThen_ok,run_loadVar_row w g 35 35 C (0,0) _ hg Tryz.underlying35 rfl (by rw[hs];exact q5nr)]
theorem qd7q{g:Nat}(hx:a.eval (.tmp x) = .pointer (some ⟨g,0,none⟩)) :
 (execOp a.eval {dst:=d,op := .fieldAddr 35 (.tmp x) 0,type:=r,pos:=p,after:=af,guard:=gd}).run Tryz.prog w = .ok (.value (.pointer (some ⟨g,0,none⟩))) w:=by
 generalize a.eval=f at *
 go_simp
theorem q43k{g:Nat}(hx:a.eval (.tmp x) = .pointer (some ⟨g,0,none⟩)) :
 (execOp a.eval {dst:=d,op := .fieldAddr 35 (.tmp x) 4,type:=r,pos:=p,after:=af,guard:=gd}).run Tryz.prog w = .ok (.value (.pointer (some ⟨g,4,none⟩))) w:=by
 generalize a.eval=f at *
 go_simp
theorem q0yj{g:Nat}(hx:a.eval (.tmp x) = .pointer (some ⟨g,0,none⟩)) :
 (execOp a.eval {dst:=d,op := .fieldAddr 35 (.tmp x) 17,type:=r,pos:=p,after:=af,guard:=gd}).run Tryz.prog w = .ok (.value (.pointer (some ⟨g,21,none⟩))) w:=by
 generalize a.eval=f at *
 go_simp
theorem q8kw{g:Nat}(hx:a.eval (.tmp x) = .pointer (some ⟨g,0,none⟩)) :
 (execOp a.eval {dst:=d,op := .fieldAddr 35 (.tmp x) 20,type:=r,pos:=p,after:=af,guard:=gd}).run Tryz.prog w = .ok (.value (.pointer (some ⟨g,24,none⟩))) w:=by
 generalize a.eval=f at *
 go_simp
theorem qkcv{g j:Nat}{n:Int}(hx:a.eval (.tmp x) = .pointer (some ⟨g,j,none⟩))(hc:w.cell? ⟨g,j,none⟩=some (.int .i64 n)) :
 (execOp a.eval {dst:=d,op := .load 3 (.tmp x),type:=3,pos:=p,after:=af,guard:=gd}).run Tryz.prog w = .ok (.value (.int .i64 n)) w:=by
 generalize a.eval=f at *
 go_simp
theorem q8ba{g j n c:Nat}{A:Option Addr}(hx:a.eval (.tmp x) = .pointer (some ⟨g,j,none⟩))(hc:w.cell? ⟨g,j,none⟩=some (.slice A n c)) :
 (execOp a.eval {dst:=d,op := .load 26 (.tmp x),type:=26,pos:=p,after:=af,guard:=gd}).run Tryz.prog w = .ok (.value (.slice A n c)) w:=by
 generalize a.eval=f at *
 go_simp
theorem qyhu{n c:Int}{b:Bool}(hx:a.eval (.tmp x) = .int .i64 n)(hb:decide (c < n)=b) :
 (execOp a.eval {dst:=d,op := .binOp .gtr 3 (.tmp x) (.const (.int .i64 c)) 3,type:=r,pos:=p,after:=af,guard:=gd}).run Tryz.prog w = .ok (.value (.bool b)) w:=by
 subst hb
 have hc:a.eval (.const (.int .i64 c)) = .int .i64 c:=rfl
 generalize a.eval=f at *
 go_simp
theorem qbhz{n c:Int}{b:Bool}(hx:a.eval (.tmp x) = .int .i64 n)(hb:decide (n≤c)=b) :
 (execOp a.eval {dst:=d,op := .binOp .leq 3 (.tmp x) (.const (.int .i64 c)) 3,type:=r,pos:=p,after:=af,guard:=gd}).run Tryz.prog w = .ok (.value (.bool b)) w:=by
 subst hb
 have hc:a.eval (.const (.int .i64 c)) = .int .i64 c:=rfl
 generalize a.eval=f at *
 go_simp
end
section
variable{a:Act}{w:World}{d:Option Tmp}{p:String}{af:Array Edge}{gd:Option (Nat×Bool)}{x y z:Tmp}{r:TypeId}
theorem qq3c{z:Int}(hx:a.eval (.tmp x) = .int .i64 z) :
 (execOp a.eval {dst:=d,op := .binOp .eql 27 (.tmp x) (.const (.int .i64 z)) 27,type:=r,pos:=p,after:=af,guard:=gd}).run Tryz.prog w = .ok (.value (.bool true)) w:=by
 have hc:a.eval (.const (.int .i64 z)) = .int .i64 z:=rfl
 generalize a.eval=f at *
 go_simp
theorem q0bu{z:Int}(hx:a.eval (.tmp x) = .int .i64 z) :
 (execOp a.eval {dst:=d,op := .binOp .eql 3 (.tmp x) (.const (.int .i64 z)) 3,type:=r,pos:=p,after:=af,guard:=gd}).run Tryz.prog w = .ok (.value (.bool true)) w:=by
 have hc:a.eval (.const (.int .i64 z)) = .int .i64 z:=rfl
 generalize a.eval=f at *
 go_simp
theorem qbnn{z u:ByteArray}(hx:a.eval (.tmp x) = .string z)(hu:z=u) :
 (execOp a.eval {dst:=d,op := .binOp .eql 9 (.tmp x) (.const (.string u)) 9,type:=r,pos:=p,after:=af,guard:=gd}).run Tryz.prog w = .ok (.value (.bool true)) w:=by
 subst hu
 have hc:a.eval (.const (.string z)) = .string z:=rfl
 generalize a.eval=f at *
 go_simp
theorem qv90(hx:a.eval (.tmp x) = .bool false) :
 (execOp a.eval {dst:=d,op := .unOp .not 4 (.tmp x),type:=r,pos:=p,after:=af,guard:=gd}).run Tryz.prog w = .ok (.value (.bool true)) w:=by
 generalize a.eval=f at *
 go_simp
theorem qh7n{n c:Nat}{A:Option Addr}(hx:a.eval (.tmp x) = .slice A n c) :
 (execOp a.eval {dst:=d,op := .call {callee := .builtin .len,args:=#[.tmp x],argTypes:=#[26]},type:=r,pos:=p,after:=af,guard:=gd}).run Tryz.prog w = .ok (.value (.int .i64 (n:Int))) w:=by
 generalize a.eval=f at *
 go_simp
theorem qmii{D:Array Value}(hD:((pkZ.setIfInBounds 0 (.int .i64 6)).setIfInBounds 4 (.int .i64 3))=D) :
 (execOp a.eval {dst:=d,op := .build 35 #[(0,.const (.int .i64 6)),(4,.const (.int .i64 3))],type:=r,pos:=p,after:=af,guard:=gd}).run Tryz.prog w = .ok (.value (.agg D)) w:=by
 subst hD
 have hz:=qrai w
 have hne:¬pkZ=#[]:=by intro h;have:=qbwp;rw[h] at this;cases this
 have hs:=qbwp
 have h0:a.eval (.const (.int .i64 6)) = .int .i64 6:=rfl
 have h1:a.eval (.const (.int .i64 3)) = .int .i64 3:=rfl
 generalize a.eval=f at *
 go_simp
theorem q79d{D:Array Value}(hD:(((pkZ.setIfInBounds 0 (.int .i64 4)).setIfInBounds 4 (.int .i64 1)).setIfInBounds 21 (.int .i64 16))=D) :
 (execOp a.eval {dst:=d,op := .build 35 #[(0,.const (.int .i64 4)),(4,.const (.int .i64 1)),(17,.const (.int .i64 16))],type:=r,pos:=p,after:=af,guard:=gd}).run Tryz.prog w = .ok (.value (.agg D)) w:=by
 subst hD
 have hz:=qrai w
 have hne:¬pkZ=#[]:=by intro h;have:=qbwp;rw[h] at this;cases this
 have hs:=qbwp
 have h0:a.eval (.const (.int .i64 4)) = .int .i64 4:=rfl
 have h1:a.eval (.const (.int .i64 1)) = .int .i64 1:=rfl
 have h2:a.eval (.const (.int .i64 16)) = .int .i64 16:=rfl
 generalize a.eval=f at *
 go_simp
theorem qedo{D:Array Value}(hD:((pkZ.setIfInBounds 0 (.int .i64 3)).setIfInBounds 4 (.int .i64 1))=D) :
 (execOp a.eval {dst:=d,op := .build 35 #[(0,.const (.int .i64 3)),(4,.const (.int .i64 1))],type:=r,pos:=p,after:=af,guard:=gd}).run Tryz.prog w = .ok (.value (.agg D)) w:=by
 subst hD
 have hz:=qrai w
 have hne:¬pkZ=#[]:=by intro h;have:=qbwp;rw[h] at this;cases this
 have hs:=qbwp
 have h0:a.eval (.const (.int .i64 3)) = .int .i64 3:=rfl
 have h1:a.eval (.const (.int .i64 1)) = .int .i64 1:=rfl
 generalize a.eval=f at *
 go_simp
theorem q49l{D:Array Value}(hD:((pkZ.setIfInBounds 0 (.int .i64 4)).setIfInBounds 4 (.int .i64 65536))=D) :
 (execOp a.eval {dst:=d,op := .build 35 #[(0,.const (.int .i64 4)),(4,.const (.int .i64 65536))],type:=r,pos:=p,after:=af,guard:=gd}).run Tryz.prog w = .ok (.value (.agg D)) w:=by
 subst hD
 have hz:=qrai w
 have hne:¬pkZ=#[]:=by intro h;have:=qbwp;rw[h] at this;cases this
 have hs:=qbwp
 have h0:a.eval (.const (.int .i64 4)) = .int .i64 4:=rfl
 have h1:a.eval (.const (.int .i64 65536)) = .int .i64 65536:=rfl
 generalize a.eval=f at *
 go_simp
end
theorem q3fr{Q:Exit→Act→World→Prop}{T:World→Prop}{W:World}{gP gX gY cp:Nat}{AP:Option Addr}{A:ByteArray}{DX B6 V1 V2 V3:Array Value}{x1 x4 x6 x8 x10 x12 x14 x18 x20 x26 x28 x30 x31 x32 x33 x34 x35 x36 x37 x38 x39 x40 x41 x42 x43 x44 x45 x46 x47 x48 x49 x50 x51 x52 x53 x54 x55 x56 x57 x58 x59 x60 x61 x62 x63 x64 x65 x66 x67 x68 x69 x70 x71 x72 x73 x74 x75 x76 x77 x78 x79 x80 x81 x82 x83 x84 x85 x86 x87 x88 x89 x90 x91 x92 x93 x94 x95 x96 x97 x98 x99 x100 x101 x102 x103 x104 x105 x106 x107 x108 x109 x110 x111 x112 x113 x114 x115 x116 x117 x118 x119 x120 x121 x122 x123 x124 x125 x126 x127 x128 x129 x130 x131 x132 x133 x134 x135 x136 x137 x138 x139 x140 x141 x142 x143 x144 x145 x146 x147 x148 x149 x150 x151 x152 x153 x154 x155 x156 x157 x158 x159 x160 x161 x162 x163 x164 x165 x166 x167 x168 x169 x170 x171 x172 x173 x174 x175 x176 x177 x178 x179 x180 x181 x182 x183 x184 x185 x186 x187 x188 x189 x190 x191 x192 x193 x194 x195 x196 x197 x198 x199 x200:Value}
 (hT:T W) (hA:A=⟨#[0,1,0,7,38,0,1,97,0,1,98]⟩) (hB6:((pkZ.setIfInBounds 0 (.int .i64 6)).setIfInBounds 4 (.int .i64 3))=B6) (hV1:(((pkZ.setIfInBounds 0 (.int .i64 4)).setIfInBounds 4 (.int .i64 1)).setIfInBounds 21 (.int .i64 16))=V1) (hV2:((pkZ.setIfInBounds 0 (.int .i64 3)).setIfInBounds 4 (.int .i64 1))=V2) (hV3:((pkZ.setIfInBounds 0 (.int .i64 4)).setIfInBounds 4 (.int .i64 65536))=V3)
 (sX:DX.size=25) (RX:∀w,T w→w.heap[gX]? = some (.cells DX 35 (0,0))) (KP:∀w,T w→w.cell? ⟨gP,24,none⟩=some (.slice AP 1 cp))
 (Y0:∀w,T w→w.cell? ⟨gY,0,none⟩=some (.int .i64 7)) (Y4:∀w,T w→w.cell? ⟨gY,4,none⟩=some (.int .i64 3)) (Y21:∀w,T w→w.cell? ⟨gY,21,none⟩=some (.int .i64 0))
 (H1:∀w,T w→Calls Tryz.prog 10 #[.agg DX,.agg B6] w fun e w'=>e = .returned (.bool true)∧T w')
 (H2:∀w,T w→Calls Tryz.prog 11 #[.int .i64 4,.agg V1] w fun e w'=>e = .returned (.int .i64 2)∧T w')
 (H3:∀w,T w→Calls Tryz.prog 11 #[.int .i64 5,.agg V2] w fun e w'=>e = .returned (.int .i64 2)∧T w')
 (H4:∀w,T w→Calls Tryz.prog 11 #[.int .i64 5,.agg V3] w fun e w'=>e = .returned (.int .i64 2)∧T w')
 (fin:∀w,T w→Q .normal ⟨#[(.bool true),x1,(.string A),(.int .i64 0),x4,(.int .i64 5),x6,(.int .i64 5),x8,(.int .i64 5),x10,(.int .i64 3),x12,(.int .i64 2),x14,(.int .i64 2),(.pointer (some ⟨gP,0,none⟩)),(.int .i64 0),x18,(.int .i64 5),x20,(.int .i64 3),(.pointer (some ⟨gX,0,none⟩)),(.bool true),(.pointer (some ⟨gY,0,none⟩)),(.bool true),x26,(.bool false),x28,(.bool false),x30,x31,x32,x33,x34,x35,x36,x37,x38,x39,x40,x41,x42,x43,x44,x45,x46,x47,x48,x49,x50,x51,x52,x53,x54,x55,x56,x57,x58,x59,x60,x61,x62,x63,x64,x65,x66,x67,x68,x69,x70,x71,x72,x73,x74,x75,x76,x77,x78,x79,x80,x81,x82,x83,x84,x85,x86,x87,x88,x89,x90,x91,x92,x93,x94,x95,x96,x97,x98,x99,x100,x101,x102,x103,(.int .i64 0),(.bool true),(.bool true),(.string A),(.bool true),(.bool true),(.bool true),(.int .i64 5),(.bool true),(.bool true),(.bool true),(.int .i64 5),(.bool true),(.bool true),(.bool true),(.int .i64 5),(.bool true),(.bool true),(.bool true),(.int .i64 3),(.bool true),(.bool true),(.bool true),(.int .i64 2),(.bool true),(.bool true),(.bool true),(.int .i64 2),(.bool true),(.bool true),(.bool true),(.int .i64 0),(.bool true),(.bool true),(.bool true),(.pointer (some ⟨gP,24,none⟩)),(.slice AP 1 cp),(.int .i64 1),(.bool true),(.bool true),(.bool true),(.int .i64 5),(.bool true),(.bool true),(.bool true),(.int .i64 3),(.bool true),(.bool true),(.bool true),(.bool true),(.bool true),(.bool true),(.agg DX),(.agg B6),(.bool true),(.bool true),(.bool true),(.bool true),(.bool true),(.bool true),(.pointer (some ⟨gY,0,none⟩)),(.int .i64 7),(.bool true),(.bool true),(.bool true),(.pointer (some ⟨gY,4,none⟩)),(.int .i64 3),(.bool true),(.bool true),(.bool true),(.pointer (some ⟨gY,21,none⟩)),(.int .i64 0),(.bool true),(.bool true),(.bool true),(.bool false),(.bool true),(.bool true),(.bool true),(.bool false),(.bool true),(.bool true),(.bool true),(.agg V1),(.int .i64 2),(.bool true),(.bool true),(.bool true),(.agg V2),(.int .i64 2),(.bool true),(.bool true),(.bool true),(.agg V3),(.int .i64 2),(.bool true),(.bool true)],[]⟩ w) :
 (Code.region 18 (qfhu.opsAt 18 Tryz.f3.body) false).wp Tryz.prog Q ⟨#[(.bool false),x1,(.string A),(.int .i64 0),x4,(.int .i64 5),x6,(.int .i64 5),x8,(.int .i64 5),x10,(.int .i64 3),x12,(.int .i64 2),x14,(.int .i64 2),(.pointer (some ⟨gP,0,none⟩)),(.int .i64 0),x18,(.int .i64 5),x20,(.int .i64 3),(.pointer (some ⟨gX,0,none⟩)),(.bool true),(.pointer (some ⟨gY,0,none⟩)),(.bool true),x26,(.bool false),x28,(.bool false),x30,x31,x32,x33,x34,x35,x36,x37,x38,x39,x40,x41,x42,x43,x44,x45,x46,x47,x48,x49,x50,x51,x52,x53,x54,x55,x56,x57,x58,x59,x60,x61,x62,x63,x64,x65,x66,x67,x68,x69,x70,x71,x72,x73,x74,x75,x76,x77,x78,x79,x80,x81,x82,x83,x84,x85,x86,x87,x88,x89,x90,x91,x92,x93,x94,x95,x96,x97,x98,x99,x100,x101,x102,x103,x104,x105,x106,x107,x108,x109,x110,x111,x112,x113,x114,x115,x116,x117,x118,x119,x120,x121,x122,x123,x124,x125,x126,x127,x128,x129,x130,x131,x132,x133,x134,x135,x136,x137,x138,x139,x140,x141,x142,x143,x144,x145,x146,x147,x148,x149,x150,x151,x152,x153,x154,x155,x156,x157,x158,x159,x160,x161,x162,x163,x164,x165,x166,x167,x168,x169,x170,x171,x172,x173,x174,x175,x176,x177,x178,x179,x180,x181,x182,x183,x184,x185,x186,x187,x188,x189,x190,x191,x192,x193,x194,x195,x196,x197,x198,x199,x200],[]⟩ W:=by
 refine qq8x.wp_in (ds:=[104,105,106,107,108,109,110,111,112,113,114,115,116,117,118,119,120,121,122,123,124,125,126,127,128,129,130,131,132,133,134,135,136,137,138,139,140,141,142,143,144,145,146,147,148,149,150,151,152,153,154,155,156,157,158,159,160,161,162,163,164,165,166,167,168,169,170,171,172,173,174,175,176,177,178,179,180,181,182,183,184,185,186,187,188,189,190,191,192,193,194,195,196,197,198,199,200,0]) (A:=[(.bool false),x1,(.string A),(.int .i64 0),x4,(.int .i64 5),x6,(.int .i64 5),x8,(.int .i64 5),x10,(.int .i64 3),x12,(.int .i64 2),x14,(.int .i64 2),(.pointer (some ⟨gP,0,none⟩)),(.int .i64 0),x18,(.int .i64 5),x20,(.int .i64 3),(.pointer (some ⟨gX,0,none⟩)),(.bool true),(.pointer (some ⟨gY,0,none⟩)),(.bool true),x26,(.bool false),x28,(.bool false),x30,x31,x32,x33,x34,x35,x36,x37,x38,x39,x40,x41,x42,x43,x44,x45,x46,x47,x48,x49,x50,x51,x52,x53,x54,x55,x56,x57,x58,x59,x60,x61,x62,x63,x64,x65,x66,x67,x68,x69,x70,x71,x72,x73,x74,x75,x76,x77,x78,x79,x80,x81,x82,x83,x84,x85,x86,x87,x88,x89,x90,x91,x92,x93,x94,x95,x96,x97,x98,x99,x100,x101,x102,x103,x104,x105,x106,x107,x108,x109,x110,x111,x112,x113,x114,x115,x116,x117,x118,x119,x120,x121,x122,x123,x124,x125,x126,x127,x128,x129,x130,x131,x132,x133,x134,x135,x136,x137,x138,x139,x140,x141,x142,x143,x144,x145,x146,x147,x148,x149,x150,x151,x152,x153,x154,x155,x156,x157,x158,x159,x160,x161,x162,x163,x164,x165,x166,x167,x168,x169,x170,x171,x172,x173,x174,x175,x176,x177,x178,x179,x180,x181,x182,x183,x184,x185,x186,x187,x188,x189,x190,x191,x192,x193,x194,x195,x196,x197,x198,x199,x200]) (B:=[(.bool true),x1,(.string A),(.int .i64 0),x4,(.int .i64 5),x6,(.int .i64 5),x8,(.int .i64 5),x10,(.int .i64 3),x12,(.int .i64 2),x14,(.int .i64 2),(.pointer (some ⟨gP,0,none⟩)),(.int .i64 0),x18,(.int .i64 5),x20,(.int .i64 3),(.pointer (some ⟨gX,0,none⟩)),(.bool true),(.pointer (some ⟨gY,0,none⟩)),(.bool true),x26,(.bool false),x28,(.bool false),x30,x31,x32,x33,x34,x35,x36,x37,x38,x39,x40,x41,x42,x43,x44,x45,x46,x47,x48,x49,x50,x51,x52,x53,x54,x55,x56,x57,x58,x59,x60,x61,x62,x63,x64,x65,x66,x67,x68,x69,x70,x71,x72,x73,x74,x75,x76,x77,x78,x79,x80,x81,x82,x83,x84,x85,x86,x87,x88,x89,x90,x91,x92,x93,x94,x95,x96,x97,x98,x99,x100,x101,x102,x103,(.int .i64 0),(.bool true),(.bool true),(.string A),(.bool true),(.bool true),(.bool true),(.int .i64 5),(.bool true),(.bool true),(.bool true),(.int .i64 5),(.bool true),(.bool true),(.bool true),(.int .i64 5),(.bool true),(.bool true),(.bool true),(.int .i64 3),(.bool true),(.bool true),(.bool true),(.int .i64 2),(.bool true),(.bool true),(.bool true),(.int .i64 2),(.bool true),(.bool true),(.bool true),(.int .i64 0),(.bool true),(.bool true),(.bool true),(.pointer (some ⟨gP,24,none⟩)),(.slice AP 1 cp),(.int .i64 1),(.bool true),(.bool true),(.bool true),(.int .i64 5),(.bool true),(.bool true),(.bool true),(.int .i64 3),(.bool true),(.bool true),(.bool true),(.bool true),(.bool true),(.bool true),(.agg DX),(.agg B6),(.bool true),(.bool true),(.bool true),(.bool true),(.bool true),(.bool true),(.pointer (some ⟨gY,0,none⟩)),(.int .i64 7),(.bool true),(.bool true),(.bool true),(.pointer (some ⟨gY,4,none⟩)),(.int .i64 3),(.bool true),(.bool true),(.bool true),(.pointer (some ⟨gY,21,none⟩)),(.int .i64 0),(.bool true),(.bool true),(.bool true),(.bool false),(.bool true),(.bool true),(.bool true),(.bool false),(.bool true),(.bool true),(.bool true),(.agg V1),(.int .i64 2),(.bool true),(.bool true),(.bool true),(.agg V2),(.int .i64 2),(.bool true),(.bool true),(.bool true),(.agg V3),(.int .i64 2),(.bool true),(.bool true)]) (D:=[]) (by kernel_rfl) (by kernel_rfl) ?_ hT ?_ fin
 ·exact(by repeat (first | exact trivial | refine⟨.inr rfl,?_⟩ | refine⟨.inl rfl,?_⟩))
 refine qfhu.pu rfl rfl rfl rfl (fun w hS=>rfl) ?_
 refine qfhu.pu rfl rfl rfl rfl (fun w hS=>qq3c rfl) ?_
 refine qfhu.pu rfl rfl rfl rfl (fun w hS=>rfl) ?_
 refine qfhu.pu rfl rfl rfl rfl (fun w hS=>rfl) ?_
 refine qfhu.pu rfl rfl rfl rfl (fun w hS=>qbnn rfl hA) ?_
 iterate 3 refine qfhu.pu rfl rfl rfl rfl (fun w hS=>rfl) ?_
 refine qfhu.pu rfl rfl rfl rfl (fun w hS=>qq3c rfl) ?_
 iterate 3 refine qfhu.pu rfl rfl rfl rfl (fun w hS=>rfl) ?_
 refine qfhu.pu rfl rfl rfl rfl (fun w hS=>qq3c rfl) ?_
 iterate 3 refine qfhu.pu rfl rfl rfl rfl (fun w hS=>rfl) ?_
 refine qfhu.pu rfl rfl rfl rfl (fun w hS=>qq3c rfl) ?_
 iterate 3 refine qfhu.pu rfl rfl rfl rfl (fun w hS=>rfl) ?_
 refine qfhu.pu rfl rfl rfl rfl (fun w hS=>qq3c rfl) ?_
 iterate 3 refine qfhu.pu rfl rfl rfl rfl (fun w hS=>rfl) ?_
 refine qfhu.pu rfl rfl rfl rfl (fun w hS=>qq3c rfl) ?_
 iterate 3 refine qfhu.pu rfl rfl rfl rfl (fun w hS=>rfl) ?_
 refine qfhu.pu rfl rfl rfl rfl (fun w hS=>qq3c rfl) ?_
 iterate 3 refine qfhu.pu rfl rfl rfl rfl (fun w hS=>rfl) ?_
 refine qfhu.pu rfl rfl rfl rfl (fun w hS=>qq3c rfl) ?_
 refine qfhu.pu rfl rfl rfl rfl (fun w hS=>rfl) ?_
 refine qfhu.pu rfl rfl rfl rfl (fun w hS=>rfl) ?_
 refine qfhu.pu rfl rfl rfl rfl (fun w hS=>q8kw rfl) ?_
 refine qfhu.pu rfl rfl rfl rfl (fun w hS=>q8ba rfl (KP w hS)) ?_
 refine qfhu.pu rfl rfl rfl rfl (fun w hS=>qh7n rfl) ?_
 refine qfhu.pu rfl rfl rfl rfl (fun w hS=>q0bu rfl) ?_
 iterate 3 refine qfhu.pu rfl rfl rfl rfl (fun w hS=>rfl) ?_
 refine qfhu.pu rfl rfl rfl rfl (fun w hS=>qq3c rfl) ?_
 iterate 3 refine qfhu.pu rfl rfl rfl rfl (fun w hS=>rfl) ?_
 refine qfhu.pu rfl rfl rfl rfl (fun w hS=>qq3c rfl) ?_
 iterate 5 refine qfhu.pu rfl rfl rfl rfl (fun w hS=>rfl) ?_
 refine qfhu.pu rfl rfl rfl rfl (fun w hS=>qjuh rfl sX (RX w hS)) ?_
 refine qfhu.pu rfl rfl rfl rfl (fun w hS=>qmii hB6) ?_
 refine qfhu.ca rfl rfl rfl rfl (fun w=>qpjl.enter2 Tryz.func10 rfl rfl rfl) H1 ?_
 iterate 5 refine qfhu.pu rfl rfl rfl rfl (fun w hS=>rfl) ?_
 refine qfhu.pu rfl rfl rfl rfl (fun w hS=>qd7q rfl) ?_
 refine qfhu.pu rfl rfl rfl rfl (fun w hS=>qkcv rfl (Y0 w hS)) ?_
 refine qfhu.pu rfl rfl rfl rfl (fun w hS=>q0bu rfl) ?_
 refine qfhu.pu rfl rfl rfl rfl (fun w hS=>rfl) ?_
 refine qfhu.pu rfl rfl rfl rfl (fun w hS=>rfl) ?_
 refine qfhu.pu rfl rfl rfl rfl (fun w hS=>q43k rfl) ?_
 refine qfhu.pu rfl rfl rfl rfl (fun w hS=>qkcv rfl (Y4 w hS)) ?_
 refine qfhu.pu rfl rfl rfl rfl (fun w hS=>q0bu rfl) ?_
 refine qfhu.pu rfl rfl rfl rfl (fun w hS=>rfl) ?_
 refine qfhu.pu rfl rfl rfl rfl (fun w hS=>rfl) ?_
 refine qfhu.pu rfl rfl rfl rfl (fun w hS=>q0yj rfl) ?_
 refine qfhu.pu rfl rfl rfl rfl (fun w hS=>qkcv rfl (Y21 w hS)) ?_
 refine qfhu.pu rfl rfl rfl rfl (fun w hS=>q0bu rfl) ?_
 iterate 3 refine qfhu.pu rfl rfl rfl rfl (fun w hS=>rfl) ?_
 refine qfhu.pu rfl rfl rfl rfl (fun w hS=>qv90 rfl) ?_
 iterate 3 refine qfhu.pu rfl rfl rfl rfl (fun w hS=>rfl) ?_
 refine qfhu.pu rfl rfl rfl rfl (fun w hS=>qv90 rfl) ?_
 refine qfhu.pu rfl rfl rfl rfl (fun w hS=>rfl) ?_
 refine qfhu.pu rfl rfl rfl rfl (fun w hS=>rfl) ?_
 refine qfhu.pu rfl rfl rfl rfl (fun w hS=>q79d hV1) ?_
 refine qfhu.ca rfl rfl rfl rfl (fun w=>qpjl.enter2 Tryz.func11 rfl rfl rfl) H2 ?_
 refine qfhu.pu rfl rfl rfl rfl (fun w hS=>qq3c rfl) ?_
 refine qfhu.pu rfl rfl rfl rfl (fun w hS=>rfl) ?_
 refine qfhu.pu rfl rfl rfl rfl (fun w hS=>rfl) ?_
 refine qfhu.pu rfl rfl rfl rfl (fun w hS=>qedo hV2) ?_
 refine qfhu.ca rfl rfl rfl rfl (fun w=>qpjl.enter2 Tryz.func11 rfl rfl rfl) H3 ?_
 refine qfhu.pu rfl rfl rfl rfl (fun w hS=>qq3c rfl) ?_
 refine qfhu.pu rfl rfl rfl rfl (fun w hS=>rfl) ?_
 refine qfhu.pu rfl rfl rfl rfl (fun w hS=>rfl) ?_
 refine qfhu.pu rfl rfl rfl rfl (fun w hS=>q49l hV3) ?_
 refine qfhu.ca rfl rfl rfl rfl (fun w=>qpjl.enter2 Tryz.func11 rfl rfl rfl) H4 ?_
 refine qfhu.pu rfl rfl rfl rfl (fun w hS=>qq3c rfl) ?_
 refine qfhu.pu rfl rfl rfl rfl (fun w hS=>rfl) ?_
 refine qfhu.pu rfl rfl rfl rfl (fun w hS=>rfl) ?_
 exact qfhu.All.fin rfl
end Go.Proofs.YthhdhagenmcbeaaGreat
