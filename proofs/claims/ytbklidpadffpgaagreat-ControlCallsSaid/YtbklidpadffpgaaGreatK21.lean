/- What stands while a function copies a packet's fields into a new one. No condition. -/
import Derived.Laws.ResultCell
import Derived.Test.YtbklidpadffpgaaGreatK03
import Derived.Test.YtbklidpadffpgaaGreatK08
import Derived.Test.YtbklidpadffpgaaGreatK17
import Derived.Test.YtbklidpadffpgaaGreatK04
import Derived.Test.YtbklidpadffpgaaGreatK02
import Derived.Test.YtbklidpadffpgaaGreatK18
import Derived.Test.YtbklidpadffpgaaGreatK13
set_option maxRecDepth 100000
set_option maxHeartbeats 8000000
namespace Go.Proofs.YtbklidpadffpgaaGreat
open Go.RowKit
structure UsS(w:World)(p:Pk)(a:Ad)(x:Pk)(b:Ad)(W:World):Prop where
 low:Below w.heap.size w W
 box:W.heap[w.heap.size]? = some (.cells (pkC p a) 35 (0,0))
 res:W.heap[w.heap.size+1]? = some (.cells pkZ 35 (0,0))
 new:W.heap[w.heap.size+1+1]? = some (.cells (pkC x b) 35 (0,0))
section
variable{w W W':World}{p x:Pk}{a b:Ad}
theorem UsS.cell(h:UsS w p a x b W)(j:Nat):W.cell? ⟨w.heap.size,j,none⟩=(pkC p a)[j]? := cell_of_row _ _ j _ _ _ h.box
theorem UsS.ncell(h:UsS w p a x b W)(j:Nat):W.cell? ⟨w.heap.size+1+1,j,none⟩=(pkC x b)[j]? := cell_of_row _ _ j _ _ _ h.new
theorem UsS.fr(h:UsS w p a x b W)(j:Nat):W.frozen? ⟨w.heap.size+1+1,j,none⟩=false:=frozen_of_row _ _ _ _ _ h.new
theorem UsS.put(h:UsS w p a x b W)(j:Nat)(u:Value){x':Pk}{b':Ad}(he:(pkC x b).setIfInBounds j u=pkC x' b'):UsS w p a x' b' (W.setCell ⟨w.heap.size+1+1,j,none⟩ u):=
 ⟨h.low.setCell (by show _≤w.heap.size+1+1;omega) u,(heap_setCell_other W ⟨w.heap.size+1+1,j,none⟩ _ u (by show w.heap.size≠w.heap.size+1+1;omega)).trans h.box,(heap_setCell_other W ⟨w.heap.size+1+1,j,none⟩ _ u (by show w.heap.size+1≠w.heap.size+1+1;omega)).trans h.res,
  by have:=qlvy h.new j u;rw[he] at this;exact this⟩
theorem UsS.call(h:UsS w p a x b W)(hb:Below W.heap.size W W'):UsS w p a x b W':=
 ⟨qxh2 h.low hb,(hb.block _ (lt_of_block h.box)).trans h.box,(hb.block _ (lt_of_block h.res)).trans h.res,(hb.block _ (lt_of_block h.new)).trans h.new⟩
theorem UsS.drew(h:UsS w p a x b W):UsS w p a x b W.drew:=⟨h.low.drew,h.box,h.res,h.new⟩
end
section
variable{a:Act}{w:World}{d:Option Tmp}{p:String}{af:Array Edge}{gd:Option (Nat×Bool)}{x y z:Tmp}{r:TypeId}
theorem qjuh{g:Nat}{C:Array Value}(hx:a.eval (.tmp x) = .pointer (some ⟨g,0,none⟩))(hs:C.size=25)(hg:w.heap[g]? = some (.cells C 35 (0,0))) :
 (execOp a.eval {dst:=d,op := .load 35 (.tmp x),type:=35,pos:=p,after:=af,guard:=gd}).run Tryz.prog w = .ok (.value (.agg C)) w:=by
 unfold execOp
 simp only[hx,Instr.loadAt,Instr.sureAddr,Sem.run_bind,Sem.run_pure,Result.andThen_ok,run_loadVar_row w g 35 35 C (0,0) _ hg Tryz.underlying35 rfl (by rw[hs];exact q5nr)]
theorem q0yj{g:Nat}(hx:a.eval (.tmp x) = .pointer (some ⟨g,0,none⟩)) :
 (execOp a.eval {dst:=d,op := .fieldAddr 35 (.tmp x) 17,type:=r,pos:=p,after:=af,guard:=gd}).run Tryz.prog w = .ok (.value (.pointer (some ⟨g,21,none⟩))) w:=by
 generalize a.eval=f at *
 go_simp
theorem q8kw{g:Nat}(hx:a.eval (.tmp x) = .pointer (some ⟨g,0,none⟩)) :
 (execOp a.eval {dst:=d,op := .fieldAddr 35 (.tmp x) 20,type:=r,pos:=p,after:=af,guard:=gd}).run Tryz.prog w = .ok (.value (.pointer (some ⟨g,24,none⟩))) w:=by
 generalize a.eval=f at *
 go_simp
theorem qkcv{g j:Nat}{n:Int}(hx:a.eval (.tmp x) = .pointer (some ⟨g,j,none⟩))(hc:w.cell? ⟨g,j,none⟩=some (.int .i64 n)) :
 (execOp a.eval {dst:=d,op := .load 3 (.tmp x),type:=3,pos:=p,after:=af,guard:=gd}).run Tryz.prog w = .ok (.value (.int .i64 n)) w:=by
 generalize a.eval=f at *
 go_simp
theorem q8ba{g j n c:Nat}{A:Option Addr}(hx:a.eval (.tmp x) = .pointer (some ⟨g,j,none⟩))(hc:w.cell? ⟨g,j,none⟩=some (.slice A n c)) :
 (execOp a.eval {dst:=d,op := .load 26 (.tmp x),type:=26,pos:=p,after:=af,guard:=gd}).run Tryz.prog w = .ok (.value (.slice A n c)) w:=by
 generalize a.eval=f at *
 go_simp
end
section
variable{a:Act}{w:World}{d:Option Tmp}{p:String}{af:Array Edge}{gd:Option (Nat×Bool)}{x y z:Tmp}{r:TypeId}
theorem qb7v{v:ByteArray}(hx:a.eval (.tmp x) = .string v)(hy:a.eval (.tmp y) = .string v) :
 (execOp a.eval {dst:=d,op := .binOp .eql 9 (.tmp x) (.tmp y) 9,type:=r,pos:=p,after:=af,guard:=gd}).run Tryz.prog w = .ok (.value (.bool true)) w:=by
 generalize a.eval=f at *
 go_simp
theorem q73w{v:Int}(hx:a.eval (.tmp x) = .int .i64 v)(hy:a.eval (.tmp y) = .int .i64 v) :
 (execOp a.eval {dst:=d,op := .binOp .eql 27 (.tmp x) (.tmp y) 27,type:=r,pos:=p,after:=af,guard:=gd}).run Tryz.prog w = .ok (.value (.bool true)) w:=by
 generalize a.eval=f at *
 go_simp
end
theorem qekk{Q:Exit→Act→World→Prop}{S:World→Prop}{W:World}{b b1 b2 n cp:Nat}{v k c x y z:Int}{A X:ByteArray}{sa:Option Addr}{C D E:Array Value}{x1 x3 x4 x6 x7 x8 x17 x18 x19 x20 x21 x22 x23 x24 x25 x26 x27 x28 x29 x30 x31 x32 x33 x34 x35 x36 x37 x38 x39 x40 x41 x42 x43 x44 x45 x46 x47 x48 x49 x50 x51 x52 x53 x54 x55 x56 x57 x58 x59 x60 x61 x62 x63 x64 x65 x66 x67 x68 x69 x70 x71 x72 x73 x74 x75 x76 x77 x78 x79 x80 x81 x82 x83 x84 x85 x86 x87 x88 x89 x90 x91 x92 x93 x94 x95:Value}
 (hS:S W.drew) (hC:C.size=25) (hD:D.size=25) (hE:E.size=25) (KC:∀w,S w→w.heap[b1]? = some (.cells C 35 (0,0))) (KD:∀w,S w→w.heap[b2]? = some (.cells D 35 (0,0))) (KE:∀w,S w→w.heap[b]? = some (.cells E 35 (0,0))) (K21:∀w,S w→w.cell? ⟨b,21,none⟩=some (.int .i64 c)) (K24:∀w,S w→w.cell? ⟨b,24,none⟩=some (.slice sa n cp))
 (H0:∀w,S w→Calls Tryz.prog 10 #[(.agg C),(.agg D)] w fun e w'=>e = .returned (.bool true)∧S w')
 (H1:∀w,S w→Calls Tryz.prog 11 #[(.int .i64 v),(.agg E)] w fun e w'=>e = .returned (.int .i64 z)∧S w')
 (H2:∀w,S w→Calls Tryz.prog 17 #[(.int .i64 v),(.agg E)] w fun e w'=>e = .returned (.int .i64 z)∧S w')
 (H3:∀w,S w→Calls Tryz.prog 12 #[(.int .i64 c),(.slice sa n cp),(.int .i64 k)] w fun e w'=>e = .returned (.string X)∧S w')
 (H4:∀w,S w→Calls Tryz.prog 18 #[(.int .i64 c),(.slice sa n cp),(.int .i64 k)] w fun e w'=>e = .returned (.string X)∧S w')
 (fin:∀w,S w→Q .normal ⟨#[(.int .i64 v),x1,(.int .i64 k),x3,x4,(.pointer (some ⟨b,0,none⟩)),x6,x7,(.bool true),(.string A),(.int .i64 x),(.string A),(.int .i64 x),(.pointer (some ⟨b1,0,none⟩)),(.int .i64 y),(.pointer (some ⟨b2,0,none⟩)),(.int .i64 y),x17,x18,x19,x20,x21,x22,x23,x24,x25,x26,x27,x28,x29,x30,x31,x32,x33,x34,x35,x36,x37,x38,x39,x40,x41,x42,x43,x44,x45,x46,x47,x48,x49,x50,x51,x52,x53,(.string A),(.string A),(.bool true),(.bool true),(.int .i64 x),(.int .i64 x),(.bool true),(.bool true),(.bool true),(.agg C),(.agg D),(.bool true),(.bool true),(.bool true),(.int .i64 y),(.int .i64 y),(.bool true),(.bool true),(.bool true),(.int .i64 v),(.agg E),(.int .i64 z),(.int .i64 v),(.agg E),(.int .i64 z),(.bool true),(.bool true),(.bool true),(.pointer (some ⟨b,21,none⟩)),(.int .i64 c),(.pointer (some ⟨b,24,none⟩)),(.slice sa n cp),(.int .i64 k),(.string X),(.pointer (some ⟨b,21,none⟩)),(.int .i64 c),(.pointer (some ⟨b,24,none⟩)),(.slice sa n cp),(.int .i64 k),(.string X),(.bool true),(.bool true)],[]⟩ w) :
 (Code.region 9 (qfhu.opsAt 9 Tryz.f4.body) true).wp Tryz.prog Q ⟨#[(.int .i64 v),x1,(.int .i64 k),x3,x4,(.pointer (some ⟨b,0,none⟩)),x6,x7,x8,(.string A),(.int .i64 x),(.string A),(.int .i64 x),(.pointer (some ⟨b1,0,none⟩)),(.int .i64 y),(.pointer (some ⟨b2,0,none⟩)),(.int .i64 y),x17,x18,x19,x20,x21,x22,x23,x24,x25,x26,x27,x28,x29,x30,x31,x32,x33,x34,x35,x36,x37,x38,x39,x40,x41,x42,x43,x44,x45,x46,x47,x48,x49,x50,x51,x52,x53,x54,x55,x56,x57,x58,x59,x60,x61,x62,x63,x64,x65,x66,x67,x68,x69,x70,x71,x72,x73,x74,x75,x76,x77,x78,x79,x80,x81,x82,x83,x84,x85,x86,x87,x88,x89,x90,x91,x92,x93,x94,x95],[]⟩ W:=by
 refine qfhu.wp_in (ds:=[54,55,56,57,58,59,60,61,62,63,64,65,66,67,68,69,70,71,72,73,74,75,76,77,78,79,80,81,82,83,84,85,86,87,88,89,90,91,92,93,94,95,8]) (A:=[(.int .i64 v),x1,(.int .i64 k),x3,x4,(.pointer (some ⟨b,0,none⟩)),x6,x7,x8,(.string A),(.int .i64 x),(.string A),(.int .i64 x),(.pointer (some ⟨b1,0,none⟩)),(.int .i64 y),(.pointer (some ⟨b2,0,none⟩)),(.int .i64 y),x17,x18,x19,x20,x21,x22,x23,x24,x25,x26,x27,x28,x29,x30,x31,x32,x33,x34,x35,x36,x37,x38,x39,x40,x41,x42,x43,x44,x45,x46,x47,x48,x49,x50,x51,x52,x53,x54,x55,x56,x57,x58,x59,x60,x61,x62,x63,x64,x65,x66,x67,x68,x69,x70,x71,x72,x73,x74,x75,x76,x77,x78,x79,x80,x81,x82,x83,x84,x85,x86,x87,x88,x89,x90,x91,x92,x93,x94,x95]) (B:=[(.int .i64 v),x1,(.int .i64 k),x3,x4,(.pointer (some ⟨b,0,none⟩)),x6,x7,(.bool true),(.string A),(.int .i64 x),(.string A),(.int .i64 x),(.pointer (some ⟨b1,0,none⟩)),(.int .i64 y),(.pointer (some ⟨b2,0,none⟩)),(.int .i64 y),x17,x18,x19,x20,x21,x22,x23,x24,x25,x26,x27,x28,x29,x30,x31,x32,x33,x34,x35,x36,x37,x38,x39,x40,x41,x42,x43,x44,x45,x46,x47,x48,x49,x50,x51,x52,x53,(.string A),(.string A),(.bool true),(.bool true),(.int .i64 x),(.int .i64 x),(.bool true),(.bool true),(.bool true),(.agg C),(.agg D),(.bool true),(.bool true),(.bool true),(.int .i64 y),(.int .i64 y),(.bool true),(.bool true),(.bool true),(.int .i64 v),(.agg E),(.int .i64 z),(.int .i64 v),(.agg E),(.int .i64 z),(.bool true),(.bool true),(.bool true),(.pointer (some ⟨b,21,none⟩)),(.int .i64 c),(.pointer (some ⟨b,24,none⟩)),(.slice sa n cp),(.int .i64 k),(.string X),(.pointer (some ⟨b,21,none⟩)),(.int .i64 c),(.pointer (some ⟨b,24,none⟩)),(.slice sa n cp),(.int .i64 k),(.string X),(.bool true),(.bool true)]) (D:=[]) (by kernel_rfl) (by kernel_rfl) (by kernel_rfl) ?_ hS ?_ (fun w hS=>fin w hS)
 ·exact(by repeat (first | exact trivial | refine⟨.inr rfl,?_⟩ | refine⟨.inl rfl,?_⟩))
 refine qfhu.All.step rfl (qfhu.Does.pure rfl rfl rfl (fun w hS=>rfl)) ?_
 refine qfhu.All.step rfl (qfhu.Does.pure rfl rfl rfl (fun w hS=>rfl)) ?_
 refine qfhu.All.step rfl (qfhu.Does.pure rfl rfl rfl (fun w hS=>qb7v rfl rfl)) ?_
 refine qfhu.All.step rfl (qfhu.Does.pure rfl rfl rfl (fun w hS=>rfl)) ?_
 refine qfhu.All.step rfl (qfhu.Does.pure rfl rfl rfl (fun w hS=>rfl)) ?_
 refine qfhu.All.step rfl (qfhu.Does.pure rfl rfl rfl (fun w hS=>rfl)) ?_
 refine qfhu.All.step rfl (qfhu.Does.pure rfl rfl rfl (fun w hS=>q73w rfl rfl)) ?_
 refine qfhu.All.step rfl (qfhu.Does.pure rfl rfl rfl (fun w hS=>rfl)) ?_
 refine qfhu.All.step rfl (qfhu.Does.pure rfl rfl rfl (fun w hS=>rfl)) ?_
 refine qfhu.All.step rfl (qfhu.Does.pure rfl rfl rfl (fun w hS=>qjuh rfl hC (KC w hS))) ?_
 refine qfhu.All.step rfl (qfhu.Does.pure rfl rfl rfl (fun w hS=>qjuh rfl hD (KD w hS))) ?_
 refine qfhu.All.step rfl (qfhu.Does.call rfl rfl rfl (fun w=>qpjl.enter2 Tryz.func10 rfl rfl rfl) H0) ?_
 refine qfhu.All.step rfl (qfhu.Does.pure rfl rfl rfl (fun w hS=>rfl)) ?_
 refine qfhu.All.step rfl (qfhu.Does.pure rfl rfl rfl (fun w hS=>rfl)) ?_
 refine qfhu.All.step rfl (qfhu.Does.pure rfl rfl rfl (fun w hS=>rfl)) ?_
 refine qfhu.All.step rfl (qfhu.Does.pure rfl rfl rfl (fun w hS=>rfl)) ?_
 refine qfhu.All.step rfl (qfhu.Does.pure rfl rfl rfl (fun w hS=>q73w rfl rfl)) ?_
 refine qfhu.All.step rfl (qfhu.Does.pure rfl rfl rfl (fun w hS=>rfl)) ?_
 refine qfhu.All.step rfl (qfhu.Does.pure rfl rfl rfl (fun w hS=>rfl)) ?_
 refine qfhu.All.step rfl (qfhu.Does.pure rfl rfl rfl (fun w hS=>rfl)) ?_
 refine qfhu.All.step rfl (qfhu.Does.pure rfl rfl rfl (fun w hS=>qjuh rfl hE (KE w hS))) ?_
 refine qfhu.All.step rfl (qfhu.Does.call rfl rfl rfl (fun w=>qpjl.enter2 Tryz.func11 rfl rfl rfl) H1) ?_
 refine qfhu.All.step rfl (qfhu.Does.pure rfl rfl rfl (fun w hS=>rfl)) ?_
 refine qfhu.All.step rfl (qfhu.Does.pure rfl rfl rfl (fun w hS=>qjuh rfl hE (KE w hS))) ?_
 refine qfhu.All.step rfl (qfhu.Does.call rfl rfl rfl (fun w=>qpjl.enter2 Tryz.func17 rfl rfl rfl) H2) ?_
 refine qfhu.All.step rfl (qfhu.Does.pure rfl rfl rfl (fun w hS=>q73w rfl rfl)) ?_
 refine qfhu.All.step rfl (qfhu.Does.pure rfl rfl rfl (fun w hS=>rfl)) ?_
 refine qfhu.All.step rfl (qfhu.Does.pure rfl rfl rfl (fun w hS=>rfl)) ?_
 refine qfhu.All.step rfl (qfhu.Does.pure rfl rfl rfl (fun w hS=>q0yj rfl)) ?_
 refine qfhu.All.step rfl (qfhu.Does.pure rfl rfl rfl (fun w hS=>qkcv rfl (K21 w hS))) ?_
 refine qfhu.All.step rfl (qfhu.Does.pure rfl rfl rfl (fun w hS=>q8kw rfl)) ?_
 refine qfhu.All.step rfl (qfhu.Does.pure rfl rfl rfl (fun w hS=>q8ba rfl (K24 w hS))) ?_
 refine qfhu.All.step rfl (qfhu.Does.pure rfl rfl rfl (fun w hS=>rfl)) ?_
 refine qfhu.All.step rfl (qfhu.Does.call rfl rfl rfl (fun w=>qpjl.enter3 Tryz.func12 rfl rfl rfl rfl) H3) ?_
 refine qfhu.All.step rfl (qfhu.Does.pure rfl rfl rfl (fun w hS=>q0yj rfl)) ?_
 refine qfhu.All.step rfl (qfhu.Does.pure rfl rfl rfl (fun w hS=>qkcv rfl (K21 w hS))) ?_
 refine qfhu.All.step rfl (qfhu.Does.pure rfl rfl rfl (fun w hS=>q8kw rfl)) ?_
 refine qfhu.All.step rfl (qfhu.Does.pure rfl rfl rfl (fun w hS=>q8ba rfl (K24 w hS))) ?_
 refine qfhu.All.step rfl (qfhu.Does.pure rfl rfl rfl (fun w hS=>rfl)) ?_
 refine qfhu.All.step rfl (qfhu.Does.call rfl rfl rfl (fun w=>qpjl.enter3 Tryz.func18 rfl rfl rfl rfl) H4) ?_
 refine qfhu.All.step rfl (qfhu.Does.pure rfl rfl rfl (fun w hS=>qb7v rfl rfl)) ?_
 refine qfhu.All.step rfl (qfhu.Does.pure rfl rfl rfl (fun w hS=>rfl)) ?_
 refine qfhu.All.step rfl (qfhu.Does.pure rfl rfl rfl (fun w hS=>rfl)) ?_
 exact qfhu.All.fin rfl
section
variable{a:Act}{w:World}{d:Option Tmp}{p:String}{af:Array Edge}{gd:Option (Nat×Bool)}{x y z:Tmp}{r:TypeId}
theorem qtsc{g:Nat}{C:Array Value}(hx:a.eval (.tmp x) = .pointer (some ⟨g,0,none⟩))(hs:C.size=25)(hg:w.heap[g]? = some (.cells C 35 (0,0))) :
 (execOp a.eval {dst:=d,op := .load 35 (.tmp x),type:=35,pos:=p,after:=af,guard:=gd}).run Tryz.prog w = .ok (.value (.agg C)) w:=by
 unfold execOp
 simp only[hx,Instr.loadAt,Instr.sureAddr,Sem.run_bind,Sem.run_pure,Result.andThen_ok,run_loadVar_row w g 35 35 C (0,0) _ hg Tryz.underlying35 rfl (by rw[hs];exact q5nr)]
theorem qb5w{g:Nat}(hx:a.eval (.tmp x) = .pointer (some ⟨g,0,none⟩)) :
 (execOp a.eval {dst:=d,op := .fieldAddr 35 (.tmp x) 18,type:=r,pos:=p,after:=af,guard:=gd}).run Tryz.prog w = .ok (.value (.pointer (some ⟨g,22,none⟩))) w:=by
 generalize a.eval=f at *
 go_simp
theorem qdvg{g:Nat}(hx:a.eval (.tmp x) = .pointer (some ⟨g,0,none⟩)) :
 (execOp a.eval {dst:=d,op := .fieldAddr 35 (.tmp x) 19,type:=r,pos:=p,after:=af,guard:=gd}).run Tryz.prog w = .ok (.value (.pointer (some ⟨g,23,none⟩))) w:=by
 generalize a.eval=f at *
 go_simp
theorem qmir{g:Nat}(hx:a.eval (.tmp x) = .pointer (some ⟨g,0,none⟩)) :
 (execOp a.eval {dst:=d,op := .fieldAddr 35 (.tmp x) 20,type:=r,pos:=p,after:=af,guard:=gd}).run Tryz.prog w = .ok (.value (.pointer (some ⟨g,24,none⟩))) w:=by
 generalize a.eval=f at *
 go_simp
theorem qa2v{g:Nat}(hx:a.eval (.tmp x) = .pointer (some ⟨g,0,none⟩)) :
 (execOp a.eval {dst:=d,op := .fieldAddr 35 (.tmp x) 15,type:=r,pos:=p,after:=af,guard:=gd}).run Tryz.prog w = .ok (.value (.pointer (some ⟨g,15,none⟩))) w:=by
 generalize a.eval=f at *
 go_simp
theorem q4lz{g:Nat}(hx:a.eval (.tmp x) = .pointer (some ⟨g,15,none⟩)) :
 (execOp a.eval {dst:=d,op := .fieldAddr 31 (.tmp x) 4,type:=r,pos:=p,after:=af,guard:=gd}).run Tryz.prog w = .ok (.value (.pointer (some ⟨g,19,none⟩))) w:=by
 generalize a.eval=f at *
 go_simp
theorem qajx{g j n c:Nat}{A:Option Addr}(hx:a.eval (.tmp x) = .pointer (some ⟨g,j,none⟩))(hc:w.cell? ⟨g,j,none⟩=some (.slice A n c)) :
 (execOp a.eval {dst:=d,op := .load 32 (.tmp x),type:=32,pos:=p,after:=af,guard:=gd}).run Tryz.prog w = .ok (.value (.slice A n c)) w:=by
 generalize a.eval=f at *
 go_simp
theorem q352{g j n c:Nat}{A:Option Addr}(hx:a.eval (.tmp x) = .pointer (some ⟨g,j,none⟩))(hc:w.cell? ⟨g,j,none⟩=some (.slice A n c)) :
 (execOp a.eval {dst:=d,op := .load 33 (.tmp x),type:=33,pos:=p,after:=af,guard:=gd}).run Tryz.prog w = .ok (.value (.slice A n c)) w:=by
 generalize a.eval=f at *
 go_simp
theorem qms8{g j n c:Nat}{A:Option Addr}(hx:a.eval (.tmp x) = .pointer (some ⟨g,j,none⟩))(hc:w.cell? ⟨g,j,none⟩=some (.slice A n c)) :
 (execOp a.eval {dst:=d,op := .load 26 (.tmp x),type:=26,pos:=p,after:=af,guard:=gd}).run Tryz.prog w = .ok (.value (.slice A n c)) w:=by
 generalize a.eval=f at *
 go_simp
theorem q3lh{p' q':Pk}{b:Bool}(hx:a.eval (.tmp x) = .agg (q3zb p'))(hy:a.eval (.tmp y) = .agg (q3zb q'))(hb:decide (p'.nums=q'.nums)=b) :
 (execOp a.eval {dst:=d,op := .binOp .eql 117 (.tmp x) (.tmp y) 117,type:=r,pos:=p,after:=af,guard:=gd}).run Tryz.prog w = .ok (.value (.bool b)) w:=by
 subst hb
 unfold execOp
 simp only[hx,hy,Sem.run_bind,run_eqGuard_agg w .eql 117 (.tmp x) (.tmp y) _ _ (show Tryz.prog.eqGuardType Tryz.prog.depth 117=false by kernel_rfl),Result.andThen_ok,qh1o p' q' w,Sem.run_pure]
theorem qtwp8{p' q':Pk}{b:Bool}(hx:a.eval (.tmp x) = .agg (qjjk p'))(hy:a.eval (.tmp y) = .agg (qjjk q'))(hb:decide (p'.marks=q'.marks)=b) :
 (execOp a.eval {dst:=d,op := .binOp .eql 119 (.tmp x) (.tmp y) 119,type:=r,pos:=p,after:=af,guard:=gd}).run Tryz.prog w = .ok (.value (.bool b)) w:=by
 subst hb
 unfold execOp
 simp only[hx,hy,Sem.run_bind,run_eqGuard_agg w .eql 119 (.tmp x) (.tmp y) _ _ (show Tryz.prog.eqGuardType Tryz.prog.depth 119=false by kernel_rfl),Result.andThen_ok,quaf p' q' w,Sem.run_pure]
theorem qpii{p' q':Pk}{b:Bool}(hx:a.eval (.tmp x) = .agg (q5cx p'))(hy:a.eval (.tmp y) = .agg (q5cx q'))(hb:decide (p'.texts=q'.texts)=b) :
 (execOp a.eval {dst:=d,op := .binOp .eql 121 (.tmp x) (.tmp y) 121,type:=r,pos:=p,after:=af,guard:=gd}).run Tryz.prog w = .ok (.value (.bool b)) w:=by
 subst hb
 unfold execOp
 simp only[hx,hy,Sem.run_bind,run_eqGuard_agg w .eql 121 (.tmp x) (.tmp y) _ _ (show Tryz.prog.eqGuardType Tryz.prog.depth 121=false by kernel_rfl),Result.andThen_ok,q6p1 p' q' w,Sem.run_pure]
end
theorem qw00{Q:Exit→Act→World→Prop}{S:World→Prop}{W:World}{p q:Pk}{a b:Ad}{C E:Array Value}{B:Nat}{x5 x6 x7 x8 x9 x10 x11 x12 x13 x14 x15 x16 x17 x18 x19 x20 x21 x22 x23 x24 x25 x26 x27 x28 x29 x30 x31 x32 x33 x34 x35 x36 x37 x38 x39 x40 x41 x42 x43 x44 x45 x46 x47 x48 x49 x50 x51 x52 x53:Value}
 (hS:S W.drew) (hC:C.size=25) (hE:E.size=25) (hS1:∀w,S w→w.heap[B]? = some (.cells C 35 (0,0))) (hS2:∀w,S w→w.heap[B+1]? = some (.cells E 35 (0,0)))
 (N0p:∀w,S w→Calls Tryz.prog 81 #[.agg C] w fun e w'=>e = .returned (.agg (q3zb p))∧S w')
 (N0q:∀w,S w→Calls Tryz.prog 81 #[.agg E] w fun e w'=>e = .returned (.agg (q3zb q))∧S w')
 (N1p:∀w,S w→Calls Tryz.prog 82 #[.agg C] w fun e w'=>e = .returned (.agg (qjjk p))∧S w')
 (N1q:∀w,S w→Calls Tryz.prog 82 #[.agg E] w fun e w'=>e = .returned (.agg (qjjk q))∧S w')
 (N2p:∀w,S w→Calls Tryz.prog 83 #[.agg C] w fun e w'=>e = .returned (.agg (q5cx p))∧S w')
 (N2q:∀w,S w→Calls Tryz.prog 83 #[.agg E] w fun e w'=>e = .returned (.agg (q5cx q))∧S w')
 (hp22:∀w,S w→w.cell? ⟨B,22,none⟩=some (.slice a.cs p.codes.length a.cc))
 (hq22:∀w,S w→w.cell? ⟨B+1,22,none⟩=some (.slice b.cs q.codes.length b.cc))
 (F3:∀w,S w→Calls Tryz.prog 84 #[(.slice a.cs p.codes.length a.cc),(.slice b.cs q.codes.length b.cc),.func (.func 85) #[] #[]] w fun e w'=>e = .returned (.bool (decide (p.codes=q.codes)))∧S w')
 (hp23:∀w,S w→w.cell? ⟨B,23,none⟩=some (.slice a.fs p.filters.length a.fc))
 (hq23:∀w,S w→w.cell? ⟨B+1,23,none⟩=some (.slice b.fs q.filters.length b.fc))
 (F4:∀w,S w→Calls Tryz.prog 86 #[(.slice a.fs p.filters.length a.fc),(.slice b.fs q.filters.length b.fc),.func (.func 87) #[] #[]] w fun e w'=>e = .returned (.bool (decide (p.filters=q.filters)))∧S w')
 (hp24:∀w,S w→w.cell? ⟨B,24,none⟩=some (.slice a.ps p.props.length a.pc))
 (hq24:∀w,S w→w.cell? ⟨B+1,24,none⟩=some (.slice b.ps q.props.length b.pc))
 (F5:∀w,S w→Calls Tryz.prog 88 #[(.slice a.ps p.props.length a.pc),(.slice b.ps q.props.length b.pc),.func (.func 89) #[] #[]] w fun e w'=>e = .returned (.bool (decide (p.props=q.props)))∧S w')
 (hp19:∀w,S w→w.cell? ⟨B,19,none⟩=some (.slice a.w p.wProps.length a.wc))
 (hq19:∀w,S w→w.cell? ⟨B+1,19,none⟩=some (.slice b.w q.wProps.length b.wc))
 (F6:∀w,S w→Calls Tryz.prog 88 #[(.slice a.w p.wProps.length a.wc),(.slice b.w q.wProps.length b.wc),.func (.func 89) #[] #[]] w fun e w'=>e = .returned (.bool (decide (p.wProps=q.wProps)))∧S w')
 (fin:∀(r:Bool) (w:World),(decide (p.nums=q.nums)&&decide (p.marks=q.marks)&&decide (p.texts=q.texts)&&decide (p.codes=q.codes)&&decide (p.filters=q.filters)&&decide (p.props=q.props)&&decide (p.wProps=q.wProps))=r→S w→∀x5 x6 x7 x8 x9 x10 x11 x12 x13 x14 x15 x16 x17 x18 x19 x20 x21 x22 x23 x24 x25 x26 x27 x28 x29 x30 x31 x32 x33 x34 x35 x36 x37 x38 x39 x40 x41 x42 x43 x44 x45 x46 x47 x48 x49 x50 x51 x52 x53,Q .normal ⟨#[(.agg C),(.agg E),(.pointer (some ⟨B,0,none⟩)),(.pointer (some ⟨B+1,0,none⟩)),(.bool r),x5,x6,x7,x8,x9,x10,x11,x12,x13,x14,x15,x16,x17,x18,x19,x20,x21,x22,x23,x24,x25,x26,x27,x28,x29,x30,x31,x32,x33,x34,x35,x36,x37,x38,x39,x40,x41,x42,x43,x44,x45,x46,x47,x48,x49,x50,x51,x52,x53],[]⟩ w) :
 (Code.region 1 (qfhu.opsAt 1 Tryz.f51.body) true).wp Tryz.prog Q ⟨#[(.agg C),(.agg E),(.pointer (some ⟨B,0,none⟩)),(.pointer (some ⟨B+1,0,none⟩)),(.bool false),x5,x6,x7,x8,x9,x10,x11,x12,x13,x14,x15,x16,x17,x18,x19,x20,x21,x22,x23,x24,x25,x26,x27,x28,x29,x30,x31,x32,x33,x34,x35,x36,x37,x38,x39,x40,x41,x42,x43,x44,x45,x46,x47,x48,x49,x50,x51,x52,x53],[]⟩ W:=by
 obtain⟨d0,h0⟩:∃d,decide (p.nums=q.nums)=d:=⟨_,rfl⟩
 obtain⟨d1,h1⟩:∃d,decide (p.marks=q.marks)=d:=⟨_,rfl⟩
 obtain⟨d2,h2⟩:∃d,decide (p.texts=q.texts)=d:=⟨_,rfl⟩
 obtain⟨d3,h3⟩:∃d,decide (p.codes=q.codes)=d:=⟨_,rfl⟩
 obtain⟨d4,h4⟩:∃d,decide (p.filters=q.filters)=d:=⟨_,rfl⟩
 obtain⟨d5,h5⟩:∃d,decide (p.props=q.props)=d:=⟨_,rfl⟩
 obtain⟨d6,h6⟩:∃d,decide (p.wProps=q.wProps)=d:=⟨_,rfl⟩
 rw[h0,h1,h2,h3,h4,h5,h6] at fin
 rw[h3] at F3
 rw[h4] at F4
 rw[h5] at F5
 rw[h6] at F6
 cases d0
 case' false=>refine qfhu.wp_in (ds:=[5,6,7,8,9,10,11,12,13,14,15,16,17,18,19,20,21,22,23,24,25,26,27,28,29,30,31,32,33,34,35,36,37,38,39,40,41,42,43,44,45,46,47,48,49,50,51,52,53,4]) (B:=[(.agg C),(.agg E),(.pointer (some ⟨B,0,none⟩)),(.pointer (some ⟨B+1,0,none⟩)),(.bool false),(.agg C),(.agg (q3zb p)),(.agg E),(.agg (q3zb q)),(.bool false),(.bool false),undef,undef,undef,undef,undef,(.bool false),(.bool false),undef,undef,undef,undef,undef,(.bool false),(.bool false),undef,undef,undef,undef,undef,(.bool false),(.bool false),undef,undef,undef,undef,undef,(.bool false),(.bool false),undef,undef,undef,undef,undef,(.bool false),(.bool false),undef,undef,undef,undef,undef,undef,undef,(.bool false)]) (D:=[]) (by kernel_rfl) (by kernel_rfl) (by kernel_rfl) ?_ hS ?_ (fun w h=>by apply fin<;>first | rfl | exact h)
 case' true=>
  cases d1
  case' false=>refine qfhu.wp_in (ds:=[5,6,7,8,9,10,11,12,13,14,15,16,17,18,19,20,21,22,23,24,25,26,27,28,29,30,31,32,33,34,35,36,37,38,39,40,41,42,43,44,45,46,47,48,49,50,51,52,53,4]) (B:=[(.agg C),(.agg E),(.pointer (some ⟨B,0,none⟩)),(.pointer (some ⟨B+1,0,none⟩)),(.bool false),(.agg C),(.agg (q3zb p)),(.agg E),(.agg (q3zb q)),(.bool true),(.bool true),(.agg C),(.agg (qjjk p)),(.agg E),(.agg (qjjk q)),(.bool false),(.bool false),(.bool false),undef,undef,undef,undef,undef,(.bool false),(.bool false),undef,undef,undef,undef,undef,(.bool false),(.bool false),undef,undef,undef,undef,undef,(.bool false),(.bool false),undef,undef,undef,undef,undef,(.bool false),(.bool false),undef,undef,undef,undef,undef,undef,undef,(.bool false)]) (D:=[]) (by kernel_rfl) (by kernel_rfl) (by kernel_rfl) ?_ hS ?_ (fun w h=>by apply fin<;>first | rfl | exact h)
  case' true=>
   cases d2
   case' false=>refine qfhu.wp_in (ds:=[5,6,7,8,9,10,11,12,13,14,15,16,17,18,19,20,21,22,23,24,25,26,27,28,29,30,31,32,33,34,35,36,37,38,39,40,41,42,43,44,45,46,47,48,49,50,51,52,53,4]) (B:=[(.agg C),(.agg E),(.pointer (some ⟨B,0,none⟩)),(.pointer (some ⟨B+1,0,none⟩)),(.bool false),(.agg C),(.agg (q3zb p)),(.agg E),(.agg (q3zb q)),(.bool true),(.bool true),(.agg C),(.agg (qjjk p)),(.agg E),(.agg (qjjk q)),(.bool true),(.bool true),(.bool true),(.agg C),(.agg (q5cx p)),(.agg E),(.agg (q5cx q)),(.bool false),(.bool false),(.bool false),undef,undef,undef,undef,undef,(.bool false),(.bool false),undef,undef,undef,undef,undef,(.bool false),(.bool false),undef,undef,undef,undef,undef,(.bool false),(.bool false),undef,undef,undef,undef,undef,undef,undef,(.bool false)]) (D:=[]) (by kernel_rfl) (by kernel_rfl) (by kernel_rfl) ?_ hS ?_ (fun w h=>by apply fin<;>first | rfl | exact h)
   case' true=>
    cases d3
    case' false=>refine qfhu.wp_in (ds:=[5,6,7,8,9,10,11,12,13,14,15,16,17,18,19,20,21,22,23,24,25,26,27,28,29,30,31,32,33,34,35,36,37,38,39,40,41,42,43,44,45,46,47,48,49,50,51,52,53,4]) (B:=[(.agg C),(.agg E),(.pointer (some ⟨B,0,none⟩)),(.pointer (some ⟨B+1,0,none⟩)),(.bool false),(.agg C),(.agg (q3zb p)),(.agg E),(.agg (q3zb q)),(.bool true),(.bool true),(.agg C),(.agg (qjjk p)),(.agg E),(.agg (qjjk q)),(.bool true),(.bool true),(.bool true),(.agg C),(.agg (q5cx p)),(.agg E),(.agg (q5cx q)),(.bool true),(.bool true),(.bool true),(.pointer (some ⟨B,22,none⟩)),(.slice a.cs p.codes.length a.cc),(.pointer (some ⟨B+1,22,none⟩)),(.slice b.cs q.codes.length b.cc),(.bool false),(.bool false),(.bool false),undef,undef,undef,undef,undef,(.bool false),(.bool false),undef,undef,undef,undef,undef,(.bool false),(.bool false),undef,undef,undef,undef,undef,undef,undef,(.bool false)]) (D:=[]) (by kernel_rfl) (by kernel_rfl) (by kernel_rfl) ?_ hS ?_ (fun w h=>by apply fin<;>first | rfl | exact h)
    case' true=>
     cases d4
     case' false=>refine qfhu.wp_in (ds:=[5,6,7,8,9,10,11,12,13,14,15,16,17,18,19,20,21,22,23,24,25,26,27,28,29,30,31,32,33,34,35,36,37,38,39,40,41,42,43,44,45,46,47,48,49,50,51,52,53,4]) (B:=[(.agg C),(.agg E),(.pointer (some ⟨B,0,none⟩)),(.pointer (some ⟨B+1,0,none⟩)),(.bool false),(.agg C),(.agg (q3zb p)),(.agg E),(.agg (q3zb q)),(.bool true),(.bool true),(.agg C),(.agg (qjjk p)),(.agg E),(.agg (qjjk q)),(.bool true),(.bool true),(.bool true),(.agg C),(.agg (q5cx p)),(.agg E),(.agg (q5cx q)),(.bool true),(.bool true),(.bool true),(.pointer (some ⟨B,22,none⟩)),(.slice a.cs p.codes.length a.cc),(.pointer (some ⟨B+1,22,none⟩)),(.slice b.cs q.codes.length b.cc),(.bool true),(.bool true),(.bool true),(.pointer (some ⟨B,23,none⟩)),(.slice a.fs p.filters.length a.fc),(.pointer (some ⟨B+1,23,none⟩)),(.slice b.fs q.filters.length b.fc),(.bool false),(.bool false),(.bool false),undef,undef,undef,undef,undef,(.bool false),(.bool false),undef,undef,undef,undef,undef,undef,undef,(.bool false)]) (D:=[]) (by kernel_rfl) (by kernel_rfl) (by kernel_rfl) ?_ hS ?_ (fun w h=>by apply fin<;>first | rfl | exact h)
     case' true=>
      cases d5
      case' false=>refine qfhu.wp_in (ds:=[5,6,7,8,9,10,11,12,13,14,15,16,17,18,19,20,21,22,23,24,25,26,27,28,29,30,31,32,33,34,35,36,37,38,39,40,41,42,43,44,45,46,47,48,49,50,51,52,53,4]) (B:=[(.agg C),(.agg E),(.pointer (some ⟨B,0,none⟩)),(.pointer (some ⟨B+1,0,none⟩)),(.bool false),(.agg C),(.agg (q3zb p)),(.agg E),(.agg (q3zb q)),(.bool true),(.bool true),(.agg C),(.agg (qjjk p)),(.agg E),(.agg (qjjk q)),(.bool true),(.bool true),(.bool true),(.agg C),(.agg (q5cx p)),(.agg E),(.agg (q5cx q)),(.bool true),(.bool true),(.bool true),(.pointer (some ⟨B,22,none⟩)),(.slice a.cs p.codes.length a.cc),(.pointer (some ⟨B+1,22,none⟩)),(.slice b.cs q.codes.length b.cc),(.bool true),(.bool true),(.bool true),(.pointer (some ⟨B,23,none⟩)),(.slice a.fs p.filters.length a.fc),(.pointer (some ⟨B+1,23,none⟩)),(.slice b.fs q.filters.length b.fc),(.bool true),(.bool true),(.bool true),(.pointer (some ⟨B,24,none⟩)),(.slice a.ps p.props.length a.pc),(.pointer (some ⟨B+1,24,none⟩)),(.slice b.ps q.props.length b.pc),(.bool false),(.bool false),(.bool false),undef,undef,undef,undef,undef,undef,undef,(.bool false)]) (D:=[]) (by kernel_rfl) (by kernel_rfl) (by kernel_rfl) ?_ hS ?_ (fun w h=>by apply fin<;>first | rfl | exact h)
      case' true=>
       cases d6
       case' false=>refine qfhu.wp_in (ds:=[5,6,7,8,9,10,11,12,13,14,15,16,17,18,19,20,21,22,23,24,25,26,27,28,29,30,31,32,33,34,35,36,37,38,39,40,41,42,43,44,45,46,47,48,49,50,51,52,53,4]) (B:=[(.agg C),(.agg E),(.pointer (some ⟨B,0,none⟩)),(.pointer (some ⟨B+1,0,none⟩)),(.bool false),(.agg C),(.agg (q3zb p)),(.agg E),(.agg (q3zb q)),(.bool true),(.bool true),(.agg C),(.agg (qjjk p)),(.agg E),(.agg (qjjk q)),(.bool true),(.bool true),(.bool true),(.agg C),(.agg (q5cx p)),(.agg E),(.agg (q5cx q)),(.bool true),(.bool true),(.bool true),(.pointer (some ⟨B,22,none⟩)),(.slice a.cs p.codes.length a.cc),(.pointer (some ⟨B+1,22,none⟩)),(.slice b.cs q.codes.length b.cc),(.bool true),(.bool true),(.bool true),(.pointer (some ⟨B,23,none⟩)),(.slice a.fs p.filters.length a.fc),(.pointer (some ⟨B+1,23,none⟩)),(.slice b.fs q.filters.length b.fc),(.bool true),(.bool true),(.bool true),(.pointer (some ⟨B,24,none⟩)),(.slice a.ps p.props.length a.pc),(.pointer (some ⟨B+1,24,none⟩)),(.slice b.ps q.props.length b.pc),(.bool true),(.bool true),(.bool true),(.pointer (some ⟨B,15,none⟩)),(.pointer (some ⟨B,19,none⟩)),(.slice a.w p.wProps.length a.wc),(.pointer (some ⟨B+1,15,none⟩)),(.pointer (some ⟨B+1,19,none⟩)),(.slice b.w q.wProps.length b.wc),(.bool false),(.bool false)]) (D:=[]) (by kernel_rfl) (by kernel_rfl) (by kernel_rfl) ?_ hS ?_ (fun w h=>by apply fin<;>first | rfl | exact h)
       case' true=>
        refine qfhu.wp_in (ds:=[5,6,7,8,9,10,11,12,13,14,15,16,17,18,19,20,21,22,23,24,25,26,27,28,29,30,31,32,33,34,35,36,37,38,39,40,41,42,43,44,45,46,47,48,49,50,51,52,53,4]) (B:=[(.agg C),(.agg E),(.pointer (some ⟨B,0,none⟩)),(.pointer (some ⟨B+1,0,none⟩)),(.bool true),(.agg C),(.agg (q3zb p)),(.agg E),(.agg (q3zb q)),(.bool true),(.bool true),(.agg C),(.agg (qjjk p)),(.agg E),(.agg (qjjk q)),(.bool true),(.bool true),(.bool true),(.agg C),(.agg (q5cx p)),(.agg E),(.agg (q5cx q)),(.bool true),(.bool true),(.bool true),(.pointer (some ⟨B,22,none⟩)),(.slice a.cs p.codes.length a.cc),(.pointer (some ⟨B+1,22,none⟩)),(.slice b.cs q.codes.length b.cc),(.bool true),(.bool true),(.bool true),(.pointer (some ⟨B,23,none⟩)),(.slice a.fs p.filters.length a.fc),(.pointer (some ⟨B+1,23,none⟩)),(.slice b.fs q.filters.length b.fc),(.bool true),(.bool true),(.bool true),(.pointer (some ⟨B,24,none⟩)),(.slice a.ps p.props.length a.pc),(.pointer (some ⟨B+1,24,none⟩)),(.slice b.ps q.props.length b.pc),(.bool true),(.bool true),(.bool true),(.pointer (some ⟨B,15,none⟩)),(.pointer (some ⟨B,19,none⟩)),(.slice a.w p.wProps.length a.wc),(.pointer (some ⟨B+1,15,none⟩)),(.pointer (some ⟨B+1,19,none⟩)),(.slice b.w q.wProps.length b.wc),(.bool true),(.bool true)]) (D:=[]) (by kernel_rfl) (by kernel_rfl) (by kernel_rfl) ?_ hS ?_ (fun w h=>by apply fin<;>first | rfl | exact h)
 all_goals first
  | (
   first | refine qfhu.sk rfl rfl rfl rfl ?_ | refine qfhu.pu rfl rfl rfl rfl (fun w hS=>qtsc rfl hC (hS1 w hS)) ?_
   first | refine qfhu.sk rfl rfl rfl rfl ?_ | refine qfhu.ca rfl rfl rfl rfl (fun w=>qpjl.enter1 Tryz.func81 rfl rfl) N0p ?_
   first | refine qfhu.sk rfl rfl rfl rfl ?_ | refine qfhu.pu rfl rfl rfl rfl (fun w hS=>qtsc rfl hE (hS2 w hS)) ?_
   first | refine qfhu.sk rfl rfl rfl rfl ?_ | refine qfhu.ca rfl rfl rfl rfl (fun w=>qpjl.enter1 Tryz.func81 rfl rfl) N0q ?_
   first | refine qfhu.sk rfl rfl rfl rfl ?_ | refine qfhu.pu rfl rfl rfl rfl (fun w hS=>q3lh rfl rfl h0) ?_
   first | refine qfhu.sk rfl rfl rfl rfl ?_ | refine qfhu.pu rfl rfl rfl rfl (fun w hS=>rfl) ?_
   first | refine qfhu.sk rfl rfl rfl rfl ?_ | refine qfhu.pu rfl rfl rfl rfl (fun w hS=>qtsc rfl hC (hS1 w hS)) ?_
   first | refine qfhu.sk rfl rfl rfl rfl ?_ | refine qfhu.ca rfl rfl rfl rfl (fun w=>qpjl.enter1 Tryz.func82 rfl rfl) N1p ?_
   first | refine qfhu.sk rfl rfl rfl rfl ?_ | refine qfhu.pu rfl rfl rfl rfl (fun w hS=>qtsc rfl hE (hS2 w hS)) ?_
   first | refine qfhu.sk rfl rfl rfl rfl ?_ | refine qfhu.ca rfl rfl rfl rfl (fun w=>qpjl.enter1 Tryz.func82 rfl rfl) N1q ?_
   first | refine qfhu.sk rfl rfl rfl rfl ?_ | refine qfhu.pu rfl rfl rfl rfl (fun w hS=>qtwp8 rfl rfl h1) ?_
   first | refine qfhu.sk rfl rfl rfl rfl ?_ | refine qfhu.pu rfl rfl rfl rfl (fun w hS=>rfl) ?_
   first | refine qfhu.sk rfl rfl rfl rfl ?_ | refine qfhu.pu rfl rfl rfl rfl (fun w hS=>rfl) ?_
   first | refine qfhu.sk rfl rfl rfl rfl ?_ | refine qfhu.pu rfl rfl rfl rfl (fun w hS=>qtsc rfl hC (hS1 w hS)) ?_
   first | refine qfhu.sk rfl rfl rfl rfl ?_ | refine qfhu.ca rfl rfl rfl rfl (fun w=>qpjl.enter1 Tryz.func83 rfl rfl) N2p ?_
   first | refine qfhu.sk rfl rfl rfl rfl ?_ | refine qfhu.pu rfl rfl rfl rfl (fun w hS=>qtsc rfl hE (hS2 w hS)) ?_
   first | refine qfhu.sk rfl rfl rfl rfl ?_ | refine qfhu.ca rfl rfl rfl rfl (fun w=>qpjl.enter1 Tryz.func83 rfl rfl) N2q ?_
   first | refine qfhu.sk rfl rfl rfl rfl ?_ | refine qfhu.pu rfl rfl rfl rfl (fun w hS=>qpii rfl rfl h2) ?_
   first | refine qfhu.sk rfl rfl rfl rfl ?_ | refine qfhu.pu rfl rfl rfl rfl (fun w hS=>rfl) ?_
   first | refine qfhu.sk rfl rfl rfl rfl ?_ | refine qfhu.pu rfl rfl rfl rfl (fun w hS=>rfl) ?_
   first | refine qfhu.sk rfl rfl rfl rfl ?_ | refine qfhu.pu rfl rfl rfl rfl (fun w hS=>qb5w rfl) ?_
   first | refine qfhu.sk rfl rfl rfl rfl ?_ | refine qfhu.pu rfl rfl rfl rfl (fun w hS=>qajx rfl (hp22 w hS)) ?_
   first | refine qfhu.sk rfl rfl rfl rfl ?_ | refine qfhu.pu rfl rfl rfl rfl (fun w hS=>qb5w rfl) ?_
   first | refine qfhu.sk rfl rfl rfl rfl ?_ | refine qfhu.pu rfl rfl rfl rfl (fun w hS=>qajx rfl (hq22 w hS)) ?_
   first | refine qfhu.sk rfl rfl rfl rfl ?_ | refine qfhu.ca rfl rfl rfl rfl (fun w=>qpjl.enter3 Tryz.func84 rfl rfl rfl rfl) F3 ?_
   first | refine qfhu.sk rfl rfl rfl rfl ?_ | refine qfhu.pu rfl rfl rfl rfl (fun w hS=>rfl) ?_
   first | refine qfhu.sk rfl rfl rfl rfl ?_ | refine qfhu.pu rfl rfl rfl rfl (fun w hS=>rfl) ?_
   first | refine qfhu.sk rfl rfl rfl rfl ?_ | refine qfhu.pu rfl rfl rfl rfl (fun w hS=>qdvg rfl) ?_
   first | refine qfhu.sk rfl rfl rfl rfl ?_ | refine qfhu.pu rfl rfl rfl rfl (fun w hS=>q352 rfl (hp23 w hS)) ?_
   first | refine qfhu.sk rfl rfl rfl rfl ?_ | refine qfhu.pu rfl rfl rfl rfl (fun w hS=>qdvg rfl) ?_
   first | refine qfhu.sk rfl rfl rfl rfl ?_ | refine qfhu.pu rfl rfl rfl rfl (fun w hS=>q352 rfl (hq23 w hS)) ?_
   first | refine qfhu.sk rfl rfl rfl rfl ?_ | refine qfhu.ca rfl rfl rfl rfl (fun w=>qpjl.enter3 Tryz.func86 rfl rfl rfl rfl) F4 ?_
   first | refine qfhu.sk rfl rfl rfl rfl ?_ | refine qfhu.pu rfl rfl rfl rfl (fun w hS=>rfl) ?_
   first | refine qfhu.sk rfl rfl rfl rfl ?_ | refine qfhu.pu rfl rfl rfl rfl (fun w hS=>rfl) ?_
   first | refine qfhu.sk rfl rfl rfl rfl ?_ | refine qfhu.pu rfl rfl rfl rfl (fun w hS=>qmir rfl) ?_
   first | refine qfhu.sk rfl rfl rfl rfl ?_ | refine qfhu.pu rfl rfl rfl rfl (fun w hS=>qms8 rfl (hp24 w hS)) ?_
   first | refine qfhu.sk rfl rfl rfl rfl ?_ | refine qfhu.pu rfl rfl rfl rfl (fun w hS=>qmir rfl) ?_
   first | refine qfhu.sk rfl rfl rfl rfl ?_ | refine qfhu.pu rfl rfl rfl rfl (fun w hS=>qms8 rfl (hq24 w hS)) ?_
   first | refine qfhu.sk rfl rfl rfl rfl ?_ | refine qfhu.ca rfl rfl rfl rfl (fun w=>qpjl.enter3 Tryz.func88 rfl rfl rfl rfl) F5 ?_
   first | refine qfhu.sk rfl rfl rfl rfl ?_ | refine qfhu.pu rfl rfl rfl rfl (fun w hS=>rfl) ?_
   first | refine qfhu.sk rfl rfl rfl rfl ?_ | refine qfhu.pu rfl rfl rfl rfl (fun w hS=>rfl) ?_
   first | refine qfhu.sk rfl rfl rfl rfl ?_ | refine qfhu.pu rfl rfl rfl rfl (fun w hS=>qa2v rfl) ?_
   first | refine qfhu.sk rfl rfl rfl rfl ?_ | refine qfhu.pu rfl rfl rfl rfl (fun w hS=>q4lz rfl) ?_
   first | refine qfhu.sk rfl rfl rfl rfl ?_ | refine qfhu.pu rfl rfl rfl rfl (fun w hS=>qms8 rfl (hp19 w hS)) ?_
   first | refine qfhu.sk rfl rfl rfl rfl ?_ | refine qfhu.pu rfl rfl rfl rfl (fun w hS=>qa2v rfl) ?_
   first | refine qfhu.sk rfl rfl rfl rfl ?_ | refine qfhu.pu rfl rfl rfl rfl (fun w hS=>q4lz rfl) ?_
   first | refine qfhu.sk rfl rfl rfl rfl ?_ | refine qfhu.pu rfl rfl rfl rfl (fun w hS=>qms8 rfl (hq19 w hS)) ?_
   first | refine qfhu.sk rfl rfl rfl rfl ?_ | refine qfhu.ca rfl rfl rfl rfl (fun w=>qpjl.enter3 Tryz.func88 rfl rfl rfl rfl) F6 ?_
   first | refine qfhu.sk rfl rfl rfl rfl ?_ | refine qfhu.pu rfl rfl rfl rfl (fun w hS=>rfl) ?_
   first | refine qfhu.sk rfl rfl rfl rfl ?_ | refine qfhu.pu rfl rfl rfl rfl (fun w hS=>rfl) ?_
   exact qfhu.All.fin rfl)
  | exact(by repeat (first | exact trivial | refine⟨.inr rfl,?_⟩ | refine⟨.inl rfl,?_⟩))
structure SmS(w:World)(p:Pk)(a:Ad)(q:Pk)(b:Ad)(W:World):Prop where
 low:Below w.heap.size w W
 p:W.heap[w.heap.size]? = some (.cells (pkC p a) 35 (0,0))
 q:W.heap[w.heap.size+1]? = some (.cells (pkC q b) 35 (0,0))
theorem SmS.call{w W W':World}{p q:Pk}{a b:Ad}(h:SmS w p a q b W)(hb:Below W.heap.size W W'):SmS w p a q b W':=
 ⟨qxh2 h.low hb,(hb.block _ (lt_of_block h.p)).trans h.p,(hb.block _ (lt_of_block h.q)).trans h.q⟩
theorem qyk8(p q:Pk)(a b:Ad)(w:World)(hp:PkAt w p a)(hq:PkAt w q b)(sp:q21o p)(sq:q21o q) :
 Calls Tryz.prog 51 #[pkV p a,pkV q b] w fun e w'=>e = .returned (.bool (decide (p=q)))∧Below w.heap.size w w':=by
 have S0:SmS w p a q b ((w.alloc (.cells (pkC p a) 35)).alloc (.cells (pkC q b) 35)):=⟨qxh2 (qybm _) (qybm _),heap_alloc2_old _ _ _,heap_alloc2_new _ _ _⟩
 have S0:SmS w p a q b (((w.alloc (.cells (pkC p a) 35)).alloc (.cells (pkC q b) 35))).drew:=⟨S0.low.drew,S0.p,S0.q⟩
 have CE:∀(x:Pk) (c:Ad),(∀(B j:Nat) (u:Value) (W:World),W.heap[B]? = some (.cells (pkC x c) 35 (0,0))→(pkC x c)[j]? = some u→W.cell? ⟨B,j,none⟩=some u):=fun x c B j u W h hu=>(cell_of_row _ _ j _ _ _ h).trans hu
 have N1:∀(x:Pk) (c:Ad) W,SmS w p a q b W→Calls Tryz.prog 81 #[.agg (pkC x c)] W fun e w'=>e = .returned (.agg (q3zb x))∧SmS w p a q b w':=fun x c W h=>(qi7b x c W).mono fun e w' ⟨he,hb⟩=>⟨he,h.call hb⟩
 have N2:∀(x:Pk) (c:Ad) W,SmS w p a q b W→Calls Tryz.prog 82 #[.agg (pkC x c)] W fun e w'=>e = .returned (.agg (qjjk x))∧SmS w p a q b w':=fun x c W h=>(qu0d x c W).mono fun e w' ⟨he,hb⟩=>⟨he,h.call hb⟩
 have N3:∀(x:Pk) (c:Ad) W,SmS w p a q b W→Calls Tryz.prog 83 #[.agg (pkC x c)] W fun e w'=>e = .returned (.agg (q5cx x))∧SmS w p a q b w':=fun x c W h=>(quge x c W).mono fun e w' ⟨he,hb⟩=>⟨he,h.call hb⟩
 have F3:∀W,SmS w p a q b W→Calls Tryz.prog 84 #[(.slice a.cs p.codes.length a.cc),(.slice b.cs q.codes.length b.cc),.func (.func 85) #[] #[]] W fun e w'=>e = .returned (.bool (decide (p.codes=q.codes)))∧SmS w p a q b w':=fun W h=>(q5se _ _ _ _ _ _ p.codes q.codes W (hp.cs.below (h.low)) (hq.cs.below (h.low)) rfl rfl (by have:=sp;unfold q21o at this;omega) (by have:=sq;unfold q21o at this;omega)).mono fun e w' ⟨he,hb⟩=>⟨he,h.call hb⟩
 have F4:∀W,SmS w p a q b W→Calls Tryz.prog 86 #[(.slice a.fs p.filters.length a.fc),(.slice b.fs q.filters.length b.fc),.func (.func 87) #[] #[]] W fun e w'=>e = .returned (.bool (decide (p.filters=q.filters)))∧SmS w p a q b w':=fun W h=>(qm9z _ _ _ _ _ _ p.filters q.filters W (hp.fs.below (h.low)) (hq.fs.below (h.low)) rfl rfl (by have:=sp;unfold q21o at this;omega) (by have:=sq;unfold q21o at this;omega)).mono fun e w' ⟨he,hb⟩=>⟨he,h.call hb⟩
 have F5:∀W,SmS w p a q b W→Calls Tryz.prog 88 #[(.slice a.ps p.props.length a.pc),(.slice b.ps q.props.length b.pc),.func (.func 89) #[] #[]] W fun e w'=>e = .returned (.bool (decide (p.props=q.props)))∧SmS w p a q b w':=fun W h=>(qk57 _ _ _ _ _ _ p.props q.props W (hp.ps.below (h.low)) (hq.ps.below (h.low)) rfl rfl (by have:=sp;unfold q21o at this;omega) (by have:=sq;unfold q21o at this;omega)).mono fun e w' ⟨he,hb⟩=>⟨he,h.call hb⟩
 have F6:∀W,SmS w p a q b W→Calls Tryz.prog 88 #[(.slice a.w p.wProps.length a.wc),(.slice b.w q.wProps.length b.wc),.func (.func 89) #[] #[]] W fun e w'=>e = .returned (.bool (decide (p.wProps=q.wProps)))∧SmS w p a q b w':=fun W h=>(qk57 _ _ _ _ _ _ p.wProps q.wProps W (hp.w.below (h.low)) (hq.w.below (h.low)) rfl rfl (by have:=sp;unfold q21o at this;omega) (by have:=sq;unfold q21o at this;omega)).mono fun e w' ⟨he,hb⟩=>⟨he,h.call hb⟩
 have C1:=qwmp p a
 have C2:=qwmp q b
 have cp22:∀W,SmS w p a q b W→W.cell? ⟨w.heap.size,22,none⟩=some (.slice a.cs p.codes.length a.cc):=fun W h=>CE p a _ 22 _ W h.p rfl
 have cp23:∀W,SmS w p a q b W→W.cell? ⟨w.heap.size,23,none⟩=some (.slice a.fs p.filters.length a.fc):=fun W h=>CE p a _ 23 _ W h.p rfl
 have cp24:∀W,SmS w p a q b W→W.cell? ⟨w.heap.size,24,none⟩=some (.slice a.ps p.props.length a.pc):=fun W h=>CE p a _ 24 _ W h.p rfl
 have cp19:∀W,SmS w p a q b W→W.cell? ⟨w.heap.size,19,none⟩=some (.slice a.w p.wProps.length a.wc):=fun W h=>CE p a _ 19 _ W h.p rfl
 have cq22:∀W,SmS w p a q b W→W.cell? ⟨w.heap.size+1,22,none⟩=some (.slice b.cs q.codes.length b.cc):=fun W h=>CE q b _ 22 _ W h.q rfl
 have cq23:∀W,SmS w p a q b W→W.cell? ⟨w.heap.size+1,23,none⟩=some (.slice b.fs q.filters.length b.fc):=fun W h=>CE q b _ 23 _ W h.q rfl
 have cq24:∀W,SmS w p a q b W→W.cell? ⟨w.heap.size+1,24,none⟩=some (.slice b.ps q.props.length b.pc):=fun W h=>CE q b _ 24 _ W h.q rfl
 have cq19:∀W,SmS w p a q b W→W.cell? ⟨w.heap.size+1,19,none⟩=some (.slice b.w q.wProps.length b.wc):=fun W h=>CE q b _ 19 _ W h.q rfl
 have K1:=N1 p a
 have K2:=N1 q b
 have K3:=N2 p a
 have K4:=N2 q b
 have K5:=N3 p a
 have K6:=N3 q b
 have P1:∀W,SmS w p a q b W→W.heap[w.heap.size]? = some (.cells (pkC p a) 35 (0,0)):=fun W h=>h.p
 have P2:∀W,SmS w p a q b W→W.heap[w.heap.size+1]? = some (.cells (pkC q b) 35 (0,0)):=fun W h=>h.q
 have LO:∀W,SmS w p a q b W→Below w.heap.size w W:=fun W h=>h.low
 have I51:=qpgn p q
 unfold pkV
 clear CE N1 N2 N3 hp hq sp sq
 generalize pkC p a=C at *
 generalize pkC q b=E at *
 generalize hSS:SmS w p a q b=S at *
 have HS:=Lib.hid hSS
 clear hSS
 have hS0:=Lib.hid S0
 have hC1:=Lib.hid C1
 have hC2:=Lib.hid C2
 have hP1:=Lib.hid P1
 have hP2:=Lib.hid P2
 have hLO:=Lib.hid LO
 have hK1:=Lib.hid K1
 have hK2:=Lib.hid K2
 have hK3:=Lib.hid K3
 have hK4:=Lib.hid K4
 have hK5:=Lib.hid K5
 have hK6:=Lib.hid K6
 have hF3:=Lib.hid F3
 have hF4:=Lib.hid F4
 have hF5:=Lib.hid F5
 have hF6:=Lib.hid F6
 have hcp22:=Lib.hid cp22
 have hcp23:=Lib.hid cp23
 have hcp24:=Lib.hid cp24
 have hcp19:=Lib.hid cp19
 have hcq22:=Lib.hid cq22
 have hcq23:=Lib.hid cq23
 have hcq24:=Lib.hid cq24
 have hcq19:=Lib.hid cq19
 have HI:=Lib.hid I51
 clear I51 S0 C1 C2 P1 P2 LO K1 K2 K3 K4 K5 K6 F3 F4 F5 F6 cp22 cp23 cp24 cp19 cq22 cq23 cq24 cq19
 obtain⟨R,hR⟩:∃R,decide (p=q)=R:=⟨_,rfl⟩
 rw[hR]
 have HR:=Lib.hid hR
 clear hR
 go_enter Tryz.func51,Tryz.ntmps51
 go_wp2_with fail
 refine qw00 (S:=S) (p:=p) (q:=q) (a:=a) (b:=b) (C:=C) (E:=E) (B:=w.heap.size) hS0.out hC1.out hC2.out hP1.out hP2.out hK1.out hK2.out hK3.out hK4.out hK5.out hK6.out hcp22.out hcq22.out hF3.out hcp23.out hcq23.out hF4.out hcp24.out hcq24.out hF5.out hcp19.out hcq19.out hF6.out ?_
 intro r W hr hW
 have BW:=Lib.hid (hLO.out W hW)
 obtain rfl:R=r:=by
  rw[←hr,←HR.out,Bool.eq_iff_iff]
  simp only[Bool.and_eq_true,decide_eq_true_eq,HI.out,and_assoc]
 clear hW hr
 intros
 go_wp2_with fail
 go_ret
 exact⟨rfl,BW.out⟩
section
variable{a:Act}{w:World}{d:Option Tmp}{p:String}{af:Array Edge}{gd:Option (Nat×Bool)}{x y z:Tmp}{r:TypeId}
theorem qn4o{g:Nat}{D old:Array Value}(hx:a.eval (.tmp x) = .pointer (some ⟨g,0,none⟩))(hy:a.eval (.tmp y) = .agg D)(hD:D.size=25)(h1:D.all (·.oneCell')=true)(hg:w.heap[g]? = some (.cells old 35 (0,0)))(ho:old.size=25) :
 (execOp a.eval {dst:=d,op := .store 35 (.tmp x) (.tmp y),type:=r,pos:=p,after:=af,guard:=gd}).run Tryz.prog w = .ok .skip (w.setRow g D):=by
 unfold execOp
 simp only[hx,hy,Instr.storeAt,Instr.sureAddr,Sem.run_bind,Sem.run_pure,Result.andThen_ok,run_storeVar_row w g 35 35 old D hg (by rw[hD];exact q5nr) (by rw[ho,hD]) h1]
end
theorem qeqd{Q:Exit→Act→World→Prop}{S:World→Prop}{W:World}{b B cb:Nat}{f:Int}{C:Array Value}{x0 x1 x2 x3 x5 x8 x9 x10 x11 x12 x13 x14 x15 x16 x17 x18 x19 x20 x21 x22 x23 x24 x25 x26 x27 x28 x29 x30 x31 x32 x33 x34 x35 x36 x37 x38 x39 x40 x41 x42 x43 x44 x45 x46 x47 x48 x49 x50 x51 x52:Value}
 (hS:S W.drew) (hC:C.size=25) (h1:C.all (·.oneCell')=true) (hb:B≠b) (KB:∀w,S w→w.heap[B]? = some (.cells C 35 (0,0))) (KR:∀w,S w→∃old,w.heap[b]? = some (.cells old 35 (0,0))∧old.size=25)
 (H0:∀w,S w→Calls Tryz.prog 50 #[(.pointer (some ⟨cb,0,none⟩))] w fun e w'=>e = .returned (.int .i64 f)∧w=w')
 (H1:∀w,S w→Calls Tryz.prog 50 #[(.pointer (some ⟨cb,0,none⟩))] (w.setRow b C) fun e w'=>e = .returned (.int .i64 f)∧w.setRow b C=w')
 (fin:∀w,S w→Q .normal ⟨#[x0,x1,x2,x3,(.pointer (some ⟨b,0,none⟩)),(.int .i64 f),(.pointer (some ⟨cb,0,none⟩)),(.pointer (some ⟨B,0,none⟩)),x8,x9,x10,x11,x12,x13,x14,x15,x16,x17,x18,x19,x20,x21,x22,x23,x24,x25,x26,x27,x28,x29,x30,x31,x32,x33,x34,x35,x36,x37,x38,x39,x40,x41,x42,x43,x44,x45,x46,x47,x48,x49,(.agg C),(.pointer (some ⟨cb,0,none⟩)),(.int .i64 f)],[]⟩ (w.setRow b C)) :
 (Code.region 11 (qfhu.opsAt 11 Tryz.f21.body) true).wp Tryz.prog Q ⟨#[x0,x1,x2,x3,(.pointer (some ⟨b,0,none⟩)),x5,(.pointer (some ⟨cb,0,none⟩)),(.pointer (some ⟨B,0,none⟩)),x8,x9,x10,x11,x12,x13,x14,x15,x16,x17,x18,x19,x20,x21,x22,x23,x24,x25,x26,x27,x28,x29,x30,x31,x32,x33,x34,x35,x36,x37,x38,x39,x40,x41,x42,x43,x44,x45,x46,x47,x48,x49,x50,x51,x52],[]⟩ W:=by
 refine q2y4.wp (x:=false) (S:=fun x W=>∃V,S V∧W=if x=true then V.setRow b C else V) (made:=fun i x=>i=3→x=true) (war:=[]) (ds:=[50,51,52,5]) (A:=[x0,x1,x2,x3,(.pointer (some ⟨b,0,none⟩)),x5,(.pointer (some ⟨cb,0,none⟩)),(.pointer (some ⟨B,0,none⟩)),x8,x9,x10,x11,x12,x13,x14,x15,x16,x17,x18,x19,x20,x21,x22,x23,x24,x25,x26,x27,x28,x29,x30,x31,x32,x33,x34,x35,x36,x37,x38,x39,x40,x41,x42,x43,x44,x45,x46,x47,x48,x49,x50,x51,x52]) (B:=fun x=>[x0,x1,x2,x3,(.pointer (some ⟨b,0,none⟩)),(.int .i64 f),(.pointer (some ⟨cb,0,none⟩)),(.pointer (some ⟨B,0,none⟩)),x8,x9,x10,x11,x12,x13,x14,x15,x16,x17,x18,x19,x20,x21,x22,x23,x24,x25,x26,x27,x28,x29,x30,x31,x32,x33,x34,x35,x36,x37,x38,x39,x40,x41,x42,x43,x44,x45,x46,x47,x48,x49,(.agg C),(.pointer (some ⟨cb,0,none⟩)),(.int .i64 f)]) (D:=[]) (by kernel_rfl) (by kernel_rfl) (by kernel_rfl) ?_ ⟨_,hS,rfl⟩ ?_ ?fin
 case refine_1=>exact fun x=>(by repeat (first | exact trivial | refine⟨.inr rfl,?_⟩ | refine⟨.inl rfl,?_⟩))
 refine q2y4.All.step rfl (q2y4.Does.pure (val:=fun x=>(.agg C)) rfl (fun x h=>absurd h (by decide)) (fun x w hm hS=>⟨rfl,rfl,qjuh rfl hC (by
  obtain⟨V,hV,hw⟩:=hS
  subst hw
  cases x
  ·exact KB V hV
  ·exact(setRow_other V b B C hb).trans (KB V hV))⟩)) ?_
 refine q2y4.All.step rfl (q2y4.Does.pure (val:=fun x=>(.pointer (some ⟨cb,0,none⟩))) rfl (fun x h=>absurd h (by decide)) (fun x w hm hS=>⟨rfl,rfl,rfl⟩)) ?_
 refine q2y4.All.step rfl (q2y4.Does.call (val:=fun x=>(.int .i64 f)) rfl (fun x h=>absurd h (by decide)) (fun x w hm hS=>⟨rfl,rfl,qpjl.enter1 Tryz.func50 rfl rfl,by
  obtain⟨V,hV,hw⟩:=hS
  subst hw
  cases x
  ·exact(H0 V hV).mono fun e w' ⟨he,hk⟩=>⟨he,V,hV,hk.symm⟩
  ·exact(H1 V hV).mono fun e w' ⟨he,hk⟩=>⟨he,V,hV,hk.symm⟩⟩)) ?_
 refine q2y4.All.step rfl (fun x w hm hS=>by
  obtain⟨V,hV,hw⟩:=hS
  obtain⟨old,ho,hs⟩:=KR V hV
  refine .inl ⟨rfl,.skip true (V.setRow b C) ?_ ⟨fun d hd=>(by cases hd),⟨V,hV,rfl⟩,fun _=>rfl,fun i h e=>rfl,[],rfl,q2y4.off_refl 0 _⟩⟩
  subst hw
  cases x
  ·exact qn4o rfl rfl hC h1 ho hs
  ·exact(qn4o rfl rfl hC h1 (setRow_heap V b old C _ _ ho) hC).trans (by rw[setRow_setRow])) ?_
 refine q2y4.All.step rfl (q2y4.Does.pure (val:=fun x=>(.int .i64 f)) rfl (fun x h=>absurd h (by decide)) (fun x w hm hS=>⟨rfl,rfl,rfl⟩)) ?_
 exact q2y4.All.fin rfl
 case fin=>
  intro x w hm hS
  obtain⟨V,hV,hw⟩:=hS
  obtain rfl:=hm 3 (by decide+kernel) rfl
  subst hw
  exact fin V hV
end Go.Proofs.YtbklidpadffpgaaGreat
