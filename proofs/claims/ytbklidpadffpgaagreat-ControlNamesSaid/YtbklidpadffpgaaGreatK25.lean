/- The last region of ControlNames: whatever order its operations come in, it ends with true. Condition: the calls answer as is asked. -/
import Derived.Test.YtbklidpadffpgaaGreatK09
import Derived.Test.YtbklidpadffpgaaGreatK24
import Derived.Test.YtbklidpadffpgaaGreatK17
set_option maxRecDepth 100000
set_option maxHeartbeats 8000000
namespace Go.Proofs.YtbklidpadffpgaaGreat
open Go.RowKit
section
variable{a:Act}{w:World}{d:Option Tmp}{p:String}{af:Array Edge}{gd:Option (Nat×Bool)}{x y z:Tmp}{r:TypeId}
theorem qgma{z:Int}(hx:a.eval (.tmp x) = .int .i64 z) :
 (execOp a.eval {dst:=d,op := .binOp .eql 27 (.tmp x) (.const (.int .i64 z)) 27,type:=r,pos:=p,after:=af,guard:=gd}).run Tryz.prog w = .ok (.value (.bool true)) w:=by
 have hc:a.eval (.const (.int .i64 z)) = .int .i64 z:=rfl
 generalize a.eval=f at *
 go_simp
theorem quh2{z:Int}(hx:a.eval (.tmp x) = .int .i64 z) :
 (execOp a.eval {dst:=d,op := .binOp .eql 3 (.tmp x) (.const (.int .i64 z)) 3,type:=r,pos:=p,after:=af,guard:=gd}).run Tryz.prog w = .ok (.value (.bool true)) w:=by
 have hc:a.eval (.const (.int .i64 z)) = .int .i64 z:=rfl
 generalize a.eval=f at *
 go_simp
theorem qtna{z u:ByteArray}(hx:a.eval (.tmp x) = .string z)(hu:z=u) :
 (execOp a.eval {dst:=d,op := .binOp .eql 9 (.tmp x) (.const (.string u)) 9,type:=r,pos:=p,after:=af,guard:=gd}).run Tryz.prog w = .ok (.value (.bool true)) w:=by
 subst hu
 have hc:a.eval (.const (.string z)) = .string z:=rfl
 generalize a.eval=f at *
 go_simp
theorem q2jz{D:Array Value}(hD:(pkZ.setIfInBounds 0 (.int .i64 13))=D) :
 (execOp a.eval {dst:=d,op := .build 35 #[(0,.const (.int .i64 13))],type:=r,pos:=p,after:=af,guard:=gd}).run Tryz.prog w = .ok (.value (.agg D)) w:=by
 subst hD
 have hz:=qrai w
 have hne:¬pkZ=#[]:=by intro h;have:=qbwp;rw[h] at this;cases this
 have hs:=qbwp
 have h0:a.eval (.const (.int .i64 13)) = .int .i64 13:=rfl
 generalize a.eval=f at *
 go_simp
theorem qzmj{D:Array Value}(hD:(pkZ.setIfInBounds 0 (.int .i64 15))=D) :
 (execOp a.eval {dst:=d,op := .build 35 #[(0,.const (.int .i64 15))],type:=r,pos:=p,after:=af,guard:=gd}).run Tryz.prog w = .ok (.value (.agg D)) w:=by
 subst hD
 have hz:=qrai w
 have hne:¬pkZ=#[]:=by intro h;have:=qbwp;rw[h] at this;cases this
 have hs:=qbwp
 have h0:a.eval (.const (.int .i64 15)) = .int .i64 15:=rfl
 generalize a.eval=f at *
 go_simp
theorem q5wp{D:Array Value}(hD:((pkZ.setIfInBounds 0 (.int .i64 14)).setIfInBounds 21 (.int .i64 4))=D) :
 (execOp a.eval {dst:=d,op := .build 35 #[(0,.const (.int .i64 14)),(17,.const (.int .i64 4))],type:=r,pos:=p,after:=af,guard:=gd}).run Tryz.prog w = .ok (.value (.agg D)) w:=by
 subst hD
 have hz:=qrai w
 have hne:¬pkZ=#[]:=by intro h;have:=qbwp;rw[h] at this;cases this
 have hs:=qbwp
 have h0:a.eval (.const (.int .i64 14)) = .int .i64 14:=rfl
 have h1:a.eval (.const (.int .i64 4)) = .int .i64 4:=rfl
 generalize a.eval=f at *
 go_simp
theorem qc7w{D:Array Value}(hD:((pkZ.setIfInBounds 0 (.int .i64 12)).setIfInBounds 5 (.string ⟨#[97]⟩))=D) :
 (execOp a.eval {dst:=d,op := .build 35 #[(0,.const (.int .i64 12)),(5,.const (.string ⟨#[97]⟩))],type:=r,pos:=p,after:=af,guard:=gd}).run Tryz.prog w = .ok (.value (.agg D)) w:=by
 subst hD
 have hz:=qrai w
 have hne:¬pkZ=#[]:=by intro h;have:=qbwp;rw[h] at this;cases this
 have hs:=qbwp
 have h0:a.eval (.const (.int .i64 12)) = .int .i64 12:=rfl
 have h1:a.eval (.const (.string ⟨#[97]⟩)) = .string ⟨#[97]⟩:=rfl
 generalize a.eval=f at *
 go_simp
end
theorem qt9s{Q:Exit→Act→World→Prop}{T:World→Prop}{W:World}{gW gP gQ cp:Nat}{sa:Option Addr}{A:ByteArray}{DQ B0 V1 V2 V3:Array Value}{x6 x8 x10 x12 x14 x16 x18 x22 x23 x24 x25 x26 x27 x28 x29 x30 x31 x32 x33 x34 x35 x36 x37 x38 x39 x40 x41 x42 x43 x44 x45 x46 x47 x48 x49 x50 x51 x52 x53 x54 x55 x56 x57 x58 x59 x60 x61 x62 x63 x64 x65 x66 x67 x68 x69 x70 x71 x72 x73 x74 x75 x76 x77 x78 x79 x80 x81 x82 x83 x84 x85 x86 x87 x88 x89 x90 x91 x92 x93 x94 x95 x96 x97 x98 x99 x100 x101 x102 x103 x104 x105 x106 x107 x108 x109 x110 x111 x112 x113 x114 x115 x116 x117 x118 x119 x120 x121 x122 x123 x124 x125 x126 x127 x128 x129 x130 x131 x132 x133 x134 x135 x136 x137 x138 x139 x140 x141 x142 x143 x144 x145 x146 x147 x148 x149 x150 x151 x152 x153 x154 x155 x156 x157 x158:Value}
 (hT:T W) (hA:A=⟨#[24,4,31,0,1,120]⟩) (hB0:(pkZ.setIfInBounds 0 (.int .i64 13))=B0) (hV1:(pkZ.setIfInBounds 0 (.int .i64 15))=V1) (hV2:((pkZ.setIfInBounds 0 (.int .i64 14)).setIfInBounds 21 (.int .i64 4))=V2) (hV3:((pkZ.setIfInBounds 0 (.int .i64 12)).setIfInBounds 5 (.string ⟨#[97]⟩))=V3)
 (sQ:DQ.size=25) (RQ:∀w,T w→w.heap[gQ]? = some (.cells DQ 35 (0,0))) (KP:∀w,T w→w.cell? ⟨gP,24,none⟩=some (.slice sa 1 cp)) (KC:∀w,T w→w.cell? ⟨gP,21,none⟩=some (.int .i64 24))
 (H0:∀w,T w→Calls Tryz.prog 9 #[(.slice sa 1 cp),(.slice (some ⟨gW,0,none⟩) 1 1)] w fun e w'=>e = .returned (.bool true)∧T w')
 (H1:∀w,T w→Calls Tryz.prog 10 #[(.agg DQ),(.agg B0)] w fun e w'=>e = .returned (.bool true)∧T w')
 (H2:∀w,T w→Calls Tryz.prog 11 #[(.int .i64 4),(.agg V1)] w fun e w'=>e = .returned (.int .i64 8)∧T w')
 (H3:∀w,T w→Calls Tryz.prog 11 #[(.int .i64 4),(.agg V2)] w fun e w'=>e = .returned (.int .i64 2)∧T w')
 (H4:∀w,T w→Calls Tryz.prog 11 #[(.int .i64 5),(.agg V3)] w fun e w'=>e = .returned (.int .i64 2)∧T w')
 (H5:∀w,T w→Calls Tryz.prog 12 #[(.int .i64 300),(.slice none 0 0),(.int .i64 15)] w fun e w'=>e = .returned (.string ⟨#[]⟩)∧T w')
 (H6:∀w,T w→Calls Tryz.prog 12 #[(.int .i64 24),(.slice none 0 0),(.int .i64 15)] w fun e w'=>e = .returned (.string ⟨#[24]⟩)∧T w')
 (H7:∀w,T w→Calls Tryz.prog 12 #[(.int .i64 0),(.slice none 0 0),(.int .i64 15)] w fun e w'=>e = .returned (.string ⟨#[]⟩)∧T w')
 (H8:∀w,T w→Calls Tryz.prog 12 #[(.int .i64 0),(.slice (some ⟨gW,0,none⟩) 1 1),(.int .i64 12)] w fun e w'=>e = .returned (.string ⟨#[]⟩)∧T w')
 (fin:∀w,T w→Q .normal ⟨#[(.bool true),(.slice (some ⟨gW,0,none⟩) 1 1),(.string A),(.int .i64 0),(.pointer (some ⟨gP,0,none⟩)),(.int .i64 0),x6,(.int .i64 8),x8,(.int .i64 5),x10,(.int .i64 5),x12,(.int .i64 5),x14,(.int .i64 5),x16,(.int .i64 2),x18,(.int .i64 2),(.pointer (some ⟨gQ,0,none⟩)),(.int .i64 0),x22,x23,x24,x25,x26,x27,x28,x29,x30,x31,x32,x33,x34,x35,x36,x37,x38,x39,x40,x41,x42,x43,x44,x45,x46,x47,x48,x49,x50,x51,x52,x53,x54,x55,x56,x57,x58,x59,x60,x61,x62,x63,x64,x65,x66,x67,x68,(.int .i64 0),(.bool true),(.bool true),(.string A),(.bool true),(.bool true),(.bool true),(.int .i64 0),(.bool true),(.bool true),(.bool true),(.pointer (some ⟨gP,21,none⟩)),(.int .i64 24),(.bool true),(.bool true),(.bool true),(.pointer (some ⟨gP,24,none⟩)),(.slice sa 1 cp),(.slice (some ⟨gW,0,none⟩) 1 1),(.bool true),(.bool true),(.bool true),(.int .i64 8),(.bool true),(.bool true),(.bool true),(.int .i64 5),(.bool true),(.bool true),(.bool true),(.int .i64 5),(.bool true),(.bool true),(.bool true),(.int .i64 5),(.bool true),(.bool true),(.bool true),(.int .i64 5),(.bool true),(.bool true),(.bool true),(.int .i64 2),(.bool true),(.bool true),(.bool true),(.int .i64 2),(.bool true),(.bool true),(.bool true),(.int .i64 0),(.bool true),(.bool true),(.bool true),(.agg DQ),(.agg B0),(.bool true),(.bool true),(.bool true),(.agg V1),(.int .i64 8),(.bool true),(.bool true),(.bool true),(.agg V2),(.int .i64 2),(.bool true),(.bool true),(.bool true),(.agg V3),(.int .i64 2),(.bool true),(.bool true),(.bool true),(.string ⟨#[]⟩),(.bool true),(.bool true),(.bool true),(.string ⟨#[24]⟩),(.bool true),(.bool true),(.bool true),(.string ⟨#[]⟩),(.bool true),(.bool true),(.bool true),(.slice (some ⟨gW,0,none⟩) 1 1),(.string ⟨#[]⟩),(.bool true),(.bool true)],[]⟩ w) :
 (Code.region 14 (qfhu.opsAt 14 Tryz.f3.body) false).wp Tryz.prog Q ⟨#[(.bool false),(.slice (some ⟨gW,0,none⟩) 1 1),(.string A),(.int .i64 0),(.pointer (some ⟨gP,0,none⟩)),(.int .i64 0),x6,(.int .i64 8),x8,(.int .i64 5),x10,(.int .i64 5),x12,(.int .i64 5),x14,(.int .i64 5),x16,(.int .i64 2),x18,(.int .i64 2),(.pointer (some ⟨gQ,0,none⟩)),(.int .i64 0),x22,x23,x24,x25,x26,x27,x28,x29,x30,x31,x32,x33,x34,x35,x36,x37,x38,x39,x40,x41,x42,x43,x44,x45,x46,x47,x48,x49,x50,x51,x52,x53,x54,x55,x56,x57,x58,x59,x60,x61,x62,x63,x64,x65,x66,x67,x68,x69,x70,x71,x72,x73,x74,x75,x76,x77,x78,x79,x80,x81,x82,x83,x84,x85,x86,x87,x88,x89,x90,x91,x92,x93,x94,x95,x96,x97,x98,x99,x100,x101,x102,x103,x104,x105,x106,x107,x108,x109,x110,x111,x112,x113,x114,x115,x116,x117,x118,x119,x120,x121,x122,x123,x124,x125,x126,x127,x128,x129,x130,x131,x132,x133,x134,x135,x136,x137,x138,x139,x140,x141,x142,x143,x144,x145,x146,x147,x148,x149,x150,x151,x152,x153,x154,x155,x156,x157,x158],[]⟩ W:=by
 refine qq8x.wp_in (ds:=[69,70,71,72,73,74,75,76,77,78,79,80,81,82,83,84,85,86,87,88,89,90,91,92,93,94,95,96,97,98,99,100,101,102,103,104,105,106,107,108,109,110,111,112,113,114,115,116,117,118,119,120,121,122,123,124,125,126,127,128,129,130,131,132,133,134,135,136,137,138,139,140,141,142,143,144,145,146,147,148,149,150,151,152,153,154,155,156,157,158,0]) (A:=[(.bool false),(.slice (some ⟨gW,0,none⟩) 1 1),(.string A),(.int .i64 0),(.pointer (some ⟨gP,0,none⟩)),(.int .i64 0),x6,(.int .i64 8),x8,(.int .i64 5),x10,(.int .i64 5),x12,(.int .i64 5),x14,(.int .i64 5),x16,(.int .i64 2),x18,(.int .i64 2),(.pointer (some ⟨gQ,0,none⟩)),(.int .i64 0),x22,x23,x24,x25,x26,x27,x28,x29,x30,x31,x32,x33,x34,x35,x36,x37,x38,x39,x40,x41,x42,x43,x44,x45,x46,x47,x48,x49,x50,x51,x52,x53,x54,x55,x56,x57,x58,x59,x60,x61,x62,x63,x64,x65,x66,x67,x68,x69,x70,x71,x72,x73,x74,x75,x76,x77,x78,x79,x80,x81,x82,x83,x84,x85,x86,x87,x88,x89,x90,x91,x92,x93,x94,x95,x96,x97,x98,x99,x100,x101,x102,x103,x104,x105,x106,x107,x108,x109,x110,x111,x112,x113,x114,x115,x116,x117,x118,x119,x120,x121,x122,x123,x124,x125,x126,x127,x128,x129,x130,x131,x132,x133,x134,x135,x136,x137,x138,x139,x140,x141,x142,x143,x144,x145,x146,x147,x148,x149,x150,x151,x152,x153,x154,x155,x156,x157,x158]) (B:=[(.bool true),(.slice (some ⟨gW,0,none⟩) 1 1),(.string A),(.int .i64 0),(.pointer (some ⟨gP,0,none⟩)),(.int .i64 0),x6,(.int .i64 8),x8,(.int .i64 5),x10,(.int .i64 5),x12,(.int .i64 5),x14,(.int .i64 5),x16,(.int .i64 2),x18,(.int .i64 2),(.pointer (some ⟨gQ,0,none⟩)),(.int .i64 0),x22,x23,x24,x25,x26,x27,x28,x29,x30,x31,x32,x33,x34,x35,x36,x37,x38,x39,x40,x41,x42,x43,x44,x45,x46,x47,x48,x49,x50,x51,x52,x53,x54,x55,x56,x57,x58,x59,x60,x61,x62,x63,x64,x65,x66,x67,x68,(.int .i64 0),(.bool true),(.bool true),(.string A),(.bool true),(.bool true),(.bool true),(.int .i64 0),(.bool true),(.bool true),(.bool true),(.pointer (some ⟨gP,21,none⟩)),(.int .i64 24),(.bool true),(.bool true),(.bool true),(.pointer (some ⟨gP,24,none⟩)),(.slice sa 1 cp),(.slice (some ⟨gW,0,none⟩) 1 1),(.bool true),(.bool true),(.bool true),(.int .i64 8),(.bool true),(.bool true),(.bool true),(.int .i64 5),(.bool true),(.bool true),(.bool true),(.int .i64 5),(.bool true),(.bool true),(.bool true),(.int .i64 5),(.bool true),(.bool true),(.bool true),(.int .i64 5),(.bool true),(.bool true),(.bool true),(.int .i64 2),(.bool true),(.bool true),(.bool true),(.int .i64 2),(.bool true),(.bool true),(.bool true),(.int .i64 0),(.bool true),(.bool true),(.bool true),(.agg DQ),(.agg B0),(.bool true),(.bool true),(.bool true),(.agg V1),(.int .i64 8),(.bool true),(.bool true),(.bool true),(.agg V2),(.int .i64 2),(.bool true),(.bool true),(.bool true),(.agg V3),(.int .i64 2),(.bool true),(.bool true),(.bool true),(.string ⟨#[]⟩),(.bool true),(.bool true),(.bool true),(.string ⟨#[24]⟩),(.bool true),(.bool true),(.bool true),(.string ⟨#[]⟩),(.bool true),(.bool true),(.bool true),(.slice (some ⟨gW,0,none⟩) 1 1),(.string ⟨#[]⟩),(.bool true),(.bool true)]) (D:=[]) (by kernel_rfl) (by kernel_rfl) ?_ hT ?_ fin
 ·exact(by repeat (first | exact trivial | refine⟨.inr rfl,?_⟩ | refine⟨.inl rfl,?_⟩))
 refine qfhu.All.step rfl (qfhu.Does.pure rfl rfl rfl (fun w hS=>rfl)) ?_
 refine qfhu.All.step rfl (qfhu.Does.pure rfl rfl rfl (fun w hS=>qgma rfl)) ?_
 refine qfhu.All.step rfl (qfhu.Does.pure rfl rfl rfl (fun w hS=>rfl)) ?_
 refine qfhu.All.step rfl (qfhu.Does.pure rfl rfl rfl (fun w hS=>rfl)) ?_
 refine qfhu.All.step rfl (qfhu.Does.pure rfl rfl rfl (fun w hS=>qtna rfl hA)) ?_
 refine qfhu.All.step rfl (qfhu.Does.pure rfl rfl rfl (fun w hS=>rfl)) ?_
 refine qfhu.All.step rfl (qfhu.Does.pure rfl rfl rfl (fun w hS=>rfl)) ?_
 refine qfhu.All.step rfl (qfhu.Does.pure rfl rfl rfl (fun w hS=>rfl)) ?_
 refine qfhu.All.step rfl (qfhu.Does.pure rfl rfl rfl (fun w hS=>qgma rfl)) ?_
 refine qfhu.All.step rfl (qfhu.Does.pure rfl rfl rfl (fun w hS=>rfl)) ?_
 refine qfhu.All.step rfl (qfhu.Does.pure rfl rfl rfl (fun w hS=>rfl)) ?_
 refine qfhu.All.step rfl (qfhu.Does.pure rfl rfl rfl (fun w hS=>q0yj rfl)) ?_
 refine qfhu.All.step rfl (qfhu.Does.pure rfl rfl rfl (fun w hS=>qkcv rfl (KC w hS))) ?_
 refine qfhu.All.step rfl (qfhu.Does.pure rfl rfl rfl (fun w hS=>quh2 rfl)) ?_
 refine qfhu.All.step rfl (qfhu.Does.pure rfl rfl rfl (fun w hS=>rfl)) ?_
 refine qfhu.All.step rfl (qfhu.Does.pure rfl rfl rfl (fun w hS=>rfl)) ?_
 refine qfhu.All.step rfl (qfhu.Does.pure rfl rfl rfl (fun w hS=>q8kw rfl)) ?_
 refine qfhu.All.step rfl (qfhu.Does.pure rfl rfl rfl (fun w hS=>q8ba rfl (KP w hS))) ?_
 refine qfhu.All.step rfl (qfhu.Does.pure rfl rfl rfl (fun w hS=>rfl)) ?_
 refine qfhu.All.step rfl (qfhu.Does.call rfl rfl rfl (fun w=>qpjl.enter2 Tryz.func9 rfl rfl rfl) H0) ?_
 refine qfhu.All.step rfl (qfhu.Does.pure rfl rfl rfl (fun w hS=>rfl)) ?_
 refine qfhu.All.step rfl (qfhu.Does.pure rfl rfl rfl (fun w hS=>rfl)) ?_
 refine qfhu.All.step rfl (qfhu.Does.pure rfl rfl rfl (fun w hS=>rfl)) ?_
 refine qfhu.All.step rfl (qfhu.Does.pure rfl rfl rfl (fun w hS=>qgma rfl)) ?_
 refine qfhu.All.step rfl (qfhu.Does.pure rfl rfl rfl (fun w hS=>rfl)) ?_
 refine qfhu.All.step rfl (qfhu.Does.pure rfl rfl rfl (fun w hS=>rfl)) ?_
 refine qfhu.All.step rfl (qfhu.Does.pure rfl rfl rfl (fun w hS=>rfl)) ?_
 refine qfhu.All.step rfl (qfhu.Does.pure rfl rfl rfl (fun w hS=>qgma rfl)) ?_
 refine qfhu.All.step rfl (qfhu.Does.pure rfl rfl rfl (fun w hS=>rfl)) ?_
 refine qfhu.All.step rfl (qfhu.Does.pure rfl rfl rfl (fun w hS=>rfl)) ?_
 refine qfhu.All.step rfl (qfhu.Does.pure rfl rfl rfl (fun w hS=>rfl)) ?_
 refine qfhu.All.step rfl (qfhu.Does.pure rfl rfl rfl (fun w hS=>qgma rfl)) ?_
 refine qfhu.All.step rfl (qfhu.Does.pure rfl rfl rfl (fun w hS=>rfl)) ?_
 refine qfhu.All.step rfl (qfhu.Does.pure rfl rfl rfl (fun w hS=>rfl)) ?_
 refine qfhu.All.step rfl (qfhu.Does.pure rfl rfl rfl (fun w hS=>rfl)) ?_
 refine qfhu.All.step rfl (qfhu.Does.pure rfl rfl rfl (fun w hS=>qgma rfl)) ?_
 refine qfhu.All.step rfl (qfhu.Does.pure rfl rfl rfl (fun w hS=>rfl)) ?_
 refine qfhu.All.step rfl (qfhu.Does.pure rfl rfl rfl (fun w hS=>rfl)) ?_
 refine qfhu.All.step rfl (qfhu.Does.pure rfl rfl rfl (fun w hS=>rfl)) ?_
 refine qfhu.All.step rfl (qfhu.Does.pure rfl rfl rfl (fun w hS=>qgma rfl)) ?_
 refine qfhu.All.step rfl (qfhu.Does.pure rfl rfl rfl (fun w hS=>rfl)) ?_
 refine qfhu.All.step rfl (qfhu.Does.pure rfl rfl rfl (fun w hS=>rfl)) ?_
 refine qfhu.All.step rfl (qfhu.Does.pure rfl rfl rfl (fun w hS=>rfl)) ?_
 refine qfhu.All.step rfl (qfhu.Does.pure rfl rfl rfl (fun w hS=>qgma rfl)) ?_
 refine qfhu.All.step rfl (qfhu.Does.pure rfl rfl rfl (fun w hS=>rfl)) ?_
 refine qfhu.All.step rfl (qfhu.Does.pure rfl rfl rfl (fun w hS=>rfl)) ?_
 refine qfhu.All.step rfl (qfhu.Does.pure rfl rfl rfl (fun w hS=>rfl)) ?_
 refine qfhu.All.step rfl (qfhu.Does.pure rfl rfl rfl (fun w hS=>qgma rfl)) ?_
 refine qfhu.All.step rfl (qfhu.Does.pure rfl rfl rfl (fun w hS=>rfl)) ?_
 refine qfhu.All.step rfl (qfhu.Does.pure rfl rfl rfl (fun w hS=>rfl)) ?_
 refine qfhu.All.step rfl (qfhu.Does.pure rfl rfl rfl (fun w hS=>rfl)) ?_
 refine qfhu.All.step rfl (qfhu.Does.pure rfl rfl rfl (fun w hS=>qgma rfl)) ?_
 refine qfhu.All.step rfl (qfhu.Does.pure rfl rfl rfl (fun w hS=>rfl)) ?_
 refine qfhu.All.step rfl (qfhu.Does.pure rfl rfl rfl (fun w hS=>rfl)) ?_
 refine qfhu.All.step rfl (qfhu.Does.pure rfl rfl rfl (fun w hS=>qjuh rfl sQ (RQ w hS))) ?_
 refine qfhu.All.step rfl (qfhu.Does.pure rfl rfl rfl (fun w hS=>q2jz hB0)) ?_
 refine qfhu.All.step rfl (qfhu.Does.call rfl rfl rfl (fun w=>qpjl.enter2 Tryz.func10 rfl rfl rfl) H1) ?_
 refine qfhu.All.step rfl (qfhu.Does.pure rfl rfl rfl (fun w hS=>rfl)) ?_
 refine qfhu.All.step rfl (qfhu.Does.pure rfl rfl rfl (fun w hS=>rfl)) ?_
 refine qfhu.All.step rfl (qfhu.Does.pure rfl rfl rfl (fun w hS=>qzmj hV1)) ?_
 refine qfhu.All.step rfl (qfhu.Does.call rfl rfl rfl (fun w=>qpjl.enter2 Tryz.func11 rfl rfl rfl) H2) ?_
 refine qfhu.All.step rfl (qfhu.Does.pure rfl rfl rfl (fun w hS=>qgma rfl)) ?_
 refine qfhu.All.step rfl (qfhu.Does.pure rfl rfl rfl (fun w hS=>rfl)) ?_
 refine qfhu.All.step rfl (qfhu.Does.pure rfl rfl rfl (fun w hS=>rfl)) ?_
 refine qfhu.All.step rfl (qfhu.Does.pure rfl rfl rfl (fun w hS=>q5wp hV2)) ?_
 refine qfhu.All.step rfl (qfhu.Does.call rfl rfl rfl (fun w=>qpjl.enter2 Tryz.func11 rfl rfl rfl) H3) ?_
 refine qfhu.All.step rfl (qfhu.Does.pure rfl rfl rfl (fun w hS=>qgma rfl)) ?_
 refine qfhu.All.step rfl (qfhu.Does.pure rfl rfl rfl (fun w hS=>rfl)) ?_
 refine qfhu.All.step rfl (qfhu.Does.pure rfl rfl rfl (fun w hS=>rfl)) ?_
 refine qfhu.All.step rfl (qfhu.Does.pure rfl rfl rfl (fun w hS=>qc7w hV3)) ?_
 refine qfhu.All.step rfl (qfhu.Does.call rfl rfl rfl (fun w=>qpjl.enter2 Tryz.func11 rfl rfl rfl) H4) ?_
 refine qfhu.All.step rfl (qfhu.Does.pure rfl rfl rfl (fun w hS=>qgma rfl)) ?_
 refine qfhu.All.step rfl (qfhu.Does.pure rfl rfl rfl (fun w hS=>rfl)) ?_
 refine qfhu.All.step rfl (qfhu.Does.pure rfl rfl rfl (fun w hS=>rfl)) ?_
 refine qfhu.All.step rfl (qfhu.Does.call rfl rfl rfl (fun w=>qpjl.enter3 Tryz.func12 rfl rfl rfl rfl) H5) ?_
 refine qfhu.All.step rfl (qfhu.Does.pure rfl rfl rfl (fun w hS=>qtna rfl rfl)) ?_
 refine qfhu.All.step rfl (qfhu.Does.pure rfl rfl rfl (fun w hS=>rfl)) ?_
 refine qfhu.All.step rfl (qfhu.Does.pure rfl rfl rfl (fun w hS=>rfl)) ?_
 refine qfhu.All.step rfl (qfhu.Does.call rfl rfl rfl (fun w=>qpjl.enter3 Tryz.func12 rfl rfl rfl rfl) H6) ?_
 refine qfhu.All.step rfl (qfhu.Does.pure rfl rfl rfl (fun w hS=>qtna rfl rfl)) ?_
 refine qfhu.All.step rfl (qfhu.Does.pure rfl rfl rfl (fun w hS=>rfl)) ?_
 refine qfhu.All.step rfl (qfhu.Does.pure rfl rfl rfl (fun w hS=>rfl)) ?_
 refine qfhu.All.step rfl (qfhu.Does.call rfl rfl rfl (fun w=>qpjl.enter3 Tryz.func12 rfl rfl rfl rfl) H7) ?_
 refine qfhu.All.step rfl (qfhu.Does.pure rfl rfl rfl (fun w hS=>qtna rfl rfl)) ?_
 refine qfhu.All.step rfl (qfhu.Does.pure rfl rfl rfl (fun w hS=>rfl)) ?_
 refine qfhu.All.step rfl (qfhu.Does.pure rfl rfl rfl (fun w hS=>rfl)) ?_
 refine qfhu.All.step rfl (qfhu.Does.pure rfl rfl rfl (fun w hS=>rfl)) ?_
 refine qfhu.All.step rfl (qfhu.Does.call rfl rfl rfl (fun w=>qpjl.enter3 Tryz.func12 rfl rfl rfl rfl) H8) ?_
 refine qfhu.All.step rfl (qfhu.Does.pure rfl rfl rfl (fun w hS=>qtna rfl rfl)) ?_
 refine qfhu.All.step rfl (qfhu.Does.pure rfl rfl rfl (fun w hS=>rfl)) ?_
 refine qfhu.All.step rfl (qfhu.Does.pure rfl rfl rfl (fun w hS=>rfl)) ?_
 exact qfhu.All.fin rfl
end Go.Proofs.YtbklidpadffpgaaGreat
