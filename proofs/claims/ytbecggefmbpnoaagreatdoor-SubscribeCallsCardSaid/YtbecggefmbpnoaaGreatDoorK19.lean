/- Operations of a region upon a packet in a box: its fields' addresses, loads, comparisons. No condition. -/
import Derived.Laws.Bits128
import Derived.Test.YtbecggefmbpnoaaGreatDoorK02
import Derived.Test.YtbecggefmbpnoaaGreatDoorK17
import Derived.Test.YtbecggefmbpnoaaGreatDoorK08
import Derived.Test.YtbecggefmbpnoaaGreatDoorK12
import Derived.Test.YtbecggefmbpnoaaGreatDoorK10
set_option maxRecDepth 100000
set_option maxHeartbeats 8000000
namespace Go.Proofs.YtbecggefmbpnoaaGreatDoor
open Go.RowKit
section
variable{a:Act}{w:World}{d:Option Tmp}{p:String}{af:Array Edge}{gd:Option (Nat×Bool)}{x y z:Tmp}{r:TypeId}
theorem qjuh{g:Nat}{C:Array Value}(hx:a.eval (.tmp x) = .pointer (some ⟨g,0,none⟩))(hs:C.size=25)(hg:w.heap[g]? = some (.cells C 29 (0,0))) :
 (execOp a.eval {dst:=d,op := .load 29 (.tmp x),type:=29,pos:=p,after:=af,guard:=gd}).run Tryz.prog w = .ok (.value (.agg C)) w:=by
 unfold execOp
 simp only[hx,Instr.loadAt,Instr.sureAddr,Sem.run_bind,Sem.run_pure,Result.andThen_ok,run_loadVar_row w g 29 29 C (0,0) _ hg Tryz.underlying29 rfl (by rw[hs];exact q5nr)]
theorem qd7q{g:Nat}(hx:a.eval (.tmp x) = .pointer (some ⟨g,0,none⟩)) :
 (execOp a.eval {dst:=d,op := .fieldAddr 29 (.tmp x) 0,type:=r,pos:=p,after:=af,guard:=gd}).run Tryz.prog w = .ok (.value (.pointer (some ⟨g,0,none⟩))) w:=by
 generalize a.eval=f at *
 go_simp
theorem q43k{g:Nat}(hx:a.eval (.tmp x) = .pointer (some ⟨g,0,none⟩)) :
 (execOp a.eval {dst:=d,op := .fieldAddr 29 (.tmp x) 4,type:=r,pos:=p,after:=af,guard:=gd}).run Tryz.prog w = .ok (.value (.pointer (some ⟨g,4,none⟩))) w:=by
 generalize a.eval=f at *
 go_simp
theorem q8kw{g:Nat}(hx:a.eval (.tmp x) = .pointer (some ⟨g,0,none⟩)) :
 (execOp a.eval {dst:=d,op := .fieldAddr 29 (.tmp x) 20,type:=r,pos:=p,after:=af,guard:=gd}).run Tryz.prog w = .ok (.value (.pointer (some ⟨g,24,none⟩))) w:=by
 generalize a.eval=f at *
 go_simp
theorem qkcv{g j:Nat}{n:Int}(hx:a.eval (.tmp x) = .pointer (some ⟨g,j,none⟩))(hc:w.cell? ⟨g,j,none⟩=some (.int .i64 n)) :
 (execOp a.eval {dst:=d,op := .load 3 (.tmp x),type:=3,pos:=p,after:=af,guard:=gd}).run Tryz.prog w = .ok (.value (.int .i64 n)) w:=by
 generalize a.eval=f at *
 go_simp
theorem q8ba{g j n c:Nat}{A:Option Addr}(hx:a.eval (.tmp x) = .pointer (some ⟨g,j,none⟩))(hc:w.cell? ⟨g,j,none⟩=some (.slice A n c)) :
 (execOp a.eval {dst:=d,op := .load 23 (.tmp x),type:=23,pos:=p,after:=af,guard:=gd}).run Tryz.prog w = .ok (.value (.slice A n c)) w:=by
 generalize a.eval=f at *
 go_simp
theorem qyhu{n c:Int}{b:Bool}(hx:a.eval (.tmp x) = .int .i64 n)(hb:decide (c < n)=b) :
 (execOp a.eval {dst:=d,op := .binOp .gtr 3 (.tmp x) (.const (.int .i64 c)) 3,type:=r,pos:=p,after:=af,guard:=gd}).run Tryz.prog w = .ok (.value (.bool b)) w:=by
 subst hb
 have hc:a.eval (.const (.int .i64 c)) = .int .i64 c:=rfl
 generalize a.eval=f at *
 go_simp
theorem qbhz{n c:Int}{b:Bool}(hx:a.eval (.tmp x) = .int .i64 n)(hb:decide (n≤c)=b) :
 (execOp a.eval {dst:=d,op := .binOp .leq 3 (.tmp x) (.const (.int .i64 c)) 3,type:=r,pos:=p,after:=af,guard:=gd}).run Tryz.prog w = .ok (.value (.bool b)) w:=by
 subst hb
 have hc:a.eval (.const (.int .i64 c)) = .int .i64 c:=rfl
 generalize a.eval=f at *
 go_simp
end
section
variable{a:Act}{w:World}{d:Option Tmp}{p:String}{af:Array Edge}{gd:Option (Nat×Bool)}{x y z:Tmp}{r:TypeId}{ts:Array TypeId}
theorem qxyk{g:Nat}(hx:a.eval (.tmp x) = .pointer (some ⟨g,0,none⟩)) :
 (execOp a.eval {dst:=d,op := .fieldAddr 29 (.tmp x) 18,type:=r,pos:=p,after:=af,guard:=gd}).run Tryz.prog w = .ok (.value (.pointer (some ⟨g,22,none⟩))) w:=by
 generalize a.eval=f at *
 go_simp
theorem qvcr{g:Nat}(hx:a.eval (.tmp x) = .pointer (some ⟨g,0,none⟩)) :
 (execOp a.eval {dst:=d,op := .fieldAddr 29 (.tmp x) 19,type:=r,pos:=p,after:=af,guard:=gd}).run Tryz.prog w = .ok (.value (.pointer (some ⟨g,23,none⟩))) w:=by
 generalize a.eval=f at *
 go_simp
theorem qag2{g j n c:Nat}{A:Option Addr}(hx:a.eval (.tmp x) = .pointer (some ⟨g,j,none⟩))(hc:w.cell? ⟨g,j,none⟩=some (.slice A n c)) :
 (execOp a.eval {dst:=d,op := .load 26 (.tmp x),type:=26,pos:=p,after:=af,guard:=gd}).run Tryz.prog w = .ok (.value (.slice A n c)) w:=by
 generalize a.eval=f at *
 go_simp
theorem qdeq{g j n c:Nat}{A:Option Addr}(hx:a.eval (.tmp x) = .pointer (some ⟨g,j,none⟩))(hc:w.cell? ⟨g,j,none⟩=some (.slice A n c)) :
 (execOp a.eval {dst:=d,op := .load 27 (.tmp x),type:=27,pos:=p,after:=af,guard:=gd}).run Tryz.prog w = .ok (.value (.slice A n c)) w:=by
 generalize a.eval=f at *
 go_simp
theorem qki8{n c:Nat}{A:Option Addr}(hx:a.eval (.tmp x) = .slice A n c) :
 (execOp a.eval {dst:=d,op := .call {callee := .builtin .len,args:=#[.tmp x],argTypes:=#[26]},type:=r,pos:=p,after:=af,guard:=gd}).run Tryz.prog w = .ok (.value (.int .i64 (n:Nat))) w:=by
 generalize a.eval=f at *
 go_simp
theorem q73a{n c:Nat}{A:Option Addr}(hx:a.eval (.tmp x) = .slice A n c) :
 (execOp a.eval {dst:=d,op := .call {callee := .builtin .len,args:=#[.tmp x],argTypes:=#[27]},type:=r,pos:=p,after:=af,guard:=gd}).run Tryz.prog w = .ok (.value (.int .i64 (n:Nat))) w:=by
 generalize a.eval=f at *
 go_simp
theorem qvpr{n:Nat}{b:Bool}(h:decide (0 < n)=b):decide ((0:Int) < (n:Int))=b:=by
 rw[←h,decide_eq_decide];omega
end
def fiC(f:Fi):Array Value:=#[.string (bs f.topic),.int .i64 f.qos,.bool f.noLocal,.bool f.asPub,.int .i64 f.handling]
theorem qxzo(f:Fi):(fiC f).size=5:=rfl
theorem qx37(f:Fi):(fiC f).all (·.oneCell')=true:=by simp[fiC,Value.oneCell']
theorem qhg6:(Tryz.prog.info? 32).map (·.size)=some 5:=by kernel_rfl
theorem q4j3:(Tryz.prog.info? 32).map (fun i=>(i.zero,i.size,i.bytes))=some (some (.agg #[.string .empty,.int .i64 0,.bool false,.bool false,.int .i64 0]),5,40):=by kernel_rfl
structure BxF(w:World)(f:Fi)(W:World):Prop where
 low:Below w.heap.size w W
 box:W.heap[w.heap.size]? = some (.cells (fiC f) 32 (0,0))
theorem BxF.made(w:World)(f:Fi):BxF w f (w.alloc (.cells (fiC f) 32)):=⟨qybm _,heap_alloc_new _ _⟩
theorem BxF.call{w W W':World}{f:Fi}(h:BxF w f W)(hb:Below W.heap.size W W'):BxF w f W':=⟨qxh2 h.low hb,(hb.block _ (lt_of_block h.box)).trans h.box⟩
theorem BxF.draw{w W:World}{f:Fi}(h:BxF w f W):BxF w f W.drew:=⟨h.low.drew,h.box⟩
theorem BxF.cell{w W:World}{f:Fi}(h:BxF w f W)(j:Nat):W.cell? ⟨w.heap.size,j,none⟩=(fiC f)[j]? := cell_of_row _ _ j _ _ _ h.box
section
variable{a:Act}{w:World}{d:Option Tmp}{p:String}{af:Array Edge}{gd:Option (Nat×Bool)}{x y z:Tmp}{r:TypeId}
theorem q0b3{g:Nat}(hx:a.eval (.tmp x) = .pointer (some ⟨g,0,none⟩)) :
 (execOp a.eval {dst:=d,op := .fieldAddr 32 (.tmp x) 1,type:=r,pos:=p,after:=af,guard:=gd}).run Tryz.prog w = .ok (.value (.pointer (some ⟨g,1,none⟩))) w:=by
 generalize a.eval=f at *
 go_simp
theorem qqv5{g:Nat}(hx:a.eval (.tmp x) = .pointer (some ⟨g,0,none⟩)) :
 (execOp a.eval {dst:=d,op := .fieldAddr 32 (.tmp x) 2,type:=r,pos:=p,after:=af,guard:=gd}).run Tryz.prog w = .ok (.value (.pointer (some ⟨g,2,none⟩))) w:=by
 generalize a.eval=f at *
 go_simp
theorem qw8p{g:Nat}(hx:a.eval (.tmp x) = .pointer (some ⟨g,0,none⟩)) :
 (execOp a.eval {dst:=d,op := .fieldAddr 32 (.tmp x) 3,type:=r,pos:=p,after:=af,guard:=gd}).run Tryz.prog w = .ok (.value (.pointer (some ⟨g,3,none⟩))) w:=by
 generalize a.eval=f at *
 go_simp
theorem q7bm{g:Nat}(hx:a.eval (.tmp x) = .pointer (some ⟨g,0,none⟩)) :
 (execOp a.eval {dst:=d,op := .fieldAddr 32 (.tmp x) 4,type:=r,pos:=p,after:=af,guard:=gd}).run Tryz.prog w = .ok (.value (.pointer (some ⟨g,4,none⟩))) w:=by
 generalize a.eval=f at *
 go_simp
theorem qnwy{g j:Nat}{n:Int}(hx:a.eval (.tmp x) = .pointer (some ⟨g,j,none⟩))(hc:w.cell? ⟨g,j,none⟩=some (.int .i64 n)) :
 (execOp a.eval {dst:=d,op := .load 3 (.tmp x),type:=3,pos:=p,after:=af,guard:=gd}).run Tryz.prog w = .ok (.value (.int .i64 n)) w:=by
 generalize a.eval=f at *
 go_simp
theorem q7eg{g j:Nat}{n:Bool}(hx:a.eval (.tmp x) = .pointer (some ⟨g,j,none⟩))(hc:w.cell? ⟨g,j,none⟩=some (.bool n)) :
 (execOp a.eval {dst:=d,op := .load 4 (.tmp x),type:=4,pos:=p,after:=af,guard:=gd}).run Tryz.prog w = .ok (.value (.bool n)) w:=by
 generalize a.eval=f at *
 go_simp
theorem qv14{n c m:Int}(hx:a.eval (.tmp x) = .int .i64 n)(hm:IntKind.i64.wrap (n*c)=m) :
 (execOp a.eval {dst:=d,op := .binOp .mul 3 (.tmp x) (.const (.int .i64 c)) 3,type:=r,pos:=p,after:=af,guard:=gd}).run Tryz.prog w = .ok (.value (.int .i64 m)) w:=by
 subst hm
 have hc:a.eval (.const (.int .i64 c)) = .int .i64 c:=rfl
 generalize a.eval=f at *
 go_simp
theorem qzzw{n c m:Int}(hx:a.eval (.tmp x) = .int .i64 n)(hm:bits .and .i64 n c=m) :
 (execOp a.eval {dst:=d,op := .binOp .and 3 (.tmp x) (.const (.int .i64 c)) 3,type:=r,pos:=p,after:=af,guard:=gd}).run Tryz.prog w = .ok (.value (.int .i64 m)) w:=by
 subst hm
 have hc:a.eval (.const (.int .i64 c)) = .int .i64 c:=rfl
 generalize a.eval=f at *
 go_simp
theorem q0il{n c m:Int}(hx:a.eval (.tmp x) = .int .i64 n)(hy:a.eval (.tmp y) = .int .i64 c)(hm:bits .or .i64 n c=m) :
 (execOp a.eval {dst:=d,op := .binOp .or 3 (.tmp x) (.tmp y) 3,type:=r,pos:=p,after:=af,guard:=gd}).run Tryz.prog w = .ok (.value (.int .i64 m)) w:=by
 subst hm
 generalize a.eval=f at *
 go_simp
end
structure OwG where
 s:Nat→Nat
 A:Nat→Option Addr
 c:Nat→Nat
def OwG.none:OwG:=⟨fun _=>0,fun _ => .none,fun _=>0⟩
def OwG.to(x:OwG)(k n:Nat):OwG:={x with s:=fun i=>if i=k then n else x.s i}
def OwG.got(x:OwG)(k:Nat)(A:Option Addr)(c:Nat):OwG:=⟨fun i=>if i=k then 2 else x.s i,fun i=>if i=k then A else x.A i,fun i=>if i=k then c else x.c i⟩
def owSt:Nat→Option (Nat×Nat)
 | 1=>some (0,1)
 | 2=>some (0,2)
 | 14=>some (0,3)
 | 4=>some (1,1)
 | 5=>some (1,2)
 | 16=>some (1,3)
 | 7=>some (2,1)
 | 8=>some (2,2)
 | 18=>some (2,3)
 | 11=>some (3,1)
 | 12=>some (3,2)
 | 21=>some (3,3)
 | _ => .none
def owOf:Nat→Nat→Nat
 | 0,1=>1
 | 0,2=>2
 | 0,3=>14
 | 1,1=>4
 | 1,2=>5
 | 1,3=>16
 | 2,1=>7
 | 2,2=>8
 | 2,3=>18
 | 3,1=>11
 | 3,2=>12
 | 3,3=>21
 | _,_=>0
theorem qgrd{i k n:Nat}(h:owSt i=some (k,n)):owOf k n=i:=by
 unfold owSt at h
 split at h<;>cases h<;>rfl
theorem qhef{i k n:Nat}(h:owSt i=some (k,n)):0 < n:=by
 unfold owSt at h
 split at h<;>cases h<;>decide
section
variable{x:OwG}{i j k n:Nat}
theorem qcow(hj:owSt j=some (k,n))(_:x.s k+1=n):∀k' n',owSt j=some (k',n')→n'≤(x.to k n).s k':=fun k' n' h=>by
 rw[hj] at h
 cases h
 simp[OwG.to]
theorem qedx(hs:x.s k+1=n)(h:∀k' n',owSt i=some (k',n')→n'≤x.s k'):∀k' n',owSt i=some (k',n')→n'≤(x.to k n).s k':=fun k' n' hi=>by
 have:=h k' n' hi
 unfold OwG.to
 by_cases e:k'=k
 ·subst e;simp;omega
 ·simp[e];exact this
theorem qjl5(hj:owSt j=some (k,n))(hs:x.s k+1=n)(hne:i≠j)(h:∀k' n',owSt i=some (k',n')→x.s k' < n'):∀k' n',owSt i=some (k',n')→(x.to k n).s k' < n':=fun k' n' hi=>by
 have h1:=h k' n' hi
 unfold OwG.to
 by_cases e:k'=k
 ·subst e
  have:n'≠n:=fun e=>by subst e;exact hne ((qgrd hi).symm.trans (qgrd hj))
  simp;omega
 ·simp[e];exact h1
end
def qnt6(a:Ad)(x:OwG):Ad:={w:=if 3≤x.s 3 then x.A 3 else a.w,wc:=if 3≤x.s 3 then x.c 3 else a.wc,cs:=if 3≤x.s 0 then x.A 0 else a.cs,cc:=if 3≤x.s 0 then x.c 0 else a.cc,fs:=if 3≤x.s 1 then x.A 1 else a.fs,fc:=if 3≤x.s 1 then x.c 1 else a.fc,ps:=if 3≤x.s 2 then x.A 2 else a.ps,pc:=if 3≤x.s 2 then x.c 2 else a.pc}
theorem qarg{W:World}{b:Nat}{p:Pk}{a:Ad}{x:OwG}(h:W.heap[b]? = some (.cells (pkC p (qnt6 a x)) 29 (0,0)))(hs:x.s 0 < 3):W.cell? ⟨b,22,none⟩=some (.slice a.cs p.codes.length a.cc):=by
 rw[cell_of_row _ _ 22 _ _ _ h]
 simp only[pkC,qnt6,if_neg (show ¬3≤x.s 0 by omega)]
 rfl
theorem qwga{W:World}{b:Nat}{p:Pk}{a:Ad}{x:OwG}(h:W.heap[b]? = some (.cells (pkC p (qnt6 a x)) 29 (0,0)))(hs:x.s 1 < 3):W.cell? ⟨b,23,none⟩=some (.slice a.fs p.filters.length a.fc):=by
 rw[cell_of_row _ _ 23 _ _ _ h]
 simp only[pkC,qnt6,if_neg (show ¬3≤x.s 1 by omega)]
 rfl
theorem q6hp{W:World}{b:Nat}{p:Pk}{a:Ad}{x:OwG}(h:W.heap[b]? = some (.cells (pkC p (qnt6 a x)) 29 (0,0)))(hs:x.s 2 < 3):W.cell? ⟨b,24,none⟩=some (.slice a.ps p.props.length a.pc):=by
 rw[cell_of_row _ _ 24 _ _ _ h]
 simp only[pkC,qnt6,if_neg (show ¬3≤x.s 2 by omega)]
 rfl
theorem qgrp{W:World}{b:Nat}{p:Pk}{a:Ad}{x:OwG}(h:W.heap[b]? = some (.cells (pkC p (qnt6 a x)) 29 (0,0)))(hs:x.s 3 < 3):W.cell? ⟨b,19,none⟩=some (.slice a.w p.wProps.length a.wc):=by
 rw[cell_of_row _ _ 19 _ _ _ h]
 simp only[pkC,qnt6,if_neg (show ¬3≤x.s 3 by omega)]
 rfl
section
variable{a:Act}{w:World}{d:Option Tmp}{p:String}{af:Array Edge}{gd:Option (Nat×Bool)}{x y z:Tmp}{r:TypeId}
theorem q0zh{g:Nat}(hx:a.eval (.tmp x) = .pointer (some ⟨g,0,none⟩)) :
 (execOp a.eval {dst:=d,op := .fieldAddr 29 (.tmp x) 18,type:=r,pos:=p,after:=af,guard:=gd}).run Tryz.prog w = .ok (.value (.pointer (some ⟨g,22,none⟩))) w:=by
 generalize a.eval=f at *
 go_simp
theorem q2iq{g:Nat}(hx:a.eval (.tmp x) = .pointer (some ⟨g,0,none⟩)) :
 (execOp a.eval {dst:=d,op := .fieldAddr 29 (.tmp x) 19,type:=r,pos:=p,after:=af,guard:=gd}).run Tryz.prog w = .ok (.value (.pointer (some ⟨g,23,none⟩))) w:=by
 generalize a.eval=f at *
 go_simp
theorem qxry{g:Nat}(hx:a.eval (.tmp x) = .pointer (some ⟨g,0,none⟩)) :
 (execOp a.eval {dst:=d,op := .fieldAddr 29 (.tmp x) 20,type:=r,pos:=p,after:=af,guard:=gd}).run Tryz.prog w = .ok (.value (.pointer (some ⟨g,24,none⟩))) w:=by
 generalize a.eval=f at *
 go_simp
theorem qtdp{g:Nat}(hx:a.eval (.tmp x) = .pointer (some ⟨g,0,none⟩)) :
 (execOp a.eval {dst:=d,op := .fieldAddr 29 (.tmp x) 15,type:=r,pos:=p,after:=af,guard:=gd}).run Tryz.prog w = .ok (.value (.pointer (some ⟨g,15,none⟩))) w:=by
 generalize a.eval=f at *
 go_simp
theorem qtwp{g:Nat}(hx:a.eval (.tmp x) = .pointer (some ⟨g,15,none⟩)) :
 (execOp a.eval {dst:=d,op := .fieldAddr 25 (.tmp x) 4,type:=r,pos:=p,after:=af,guard:=gd}).run Tryz.prog w = .ok (.value (.pointer (some ⟨g,19,none⟩))) w:=by
 generalize a.eval=f at *
 go_simp
theorem q2ns{g j n c:Nat}{A:Option Addr}(hx:a.eval (.tmp x) = .pointer (some ⟨g,j,none⟩))(hc:w.cell? ⟨g,j,none⟩=some (.slice A n c)) :
 (execOp a.eval {dst:=d,op := .load 26 (.tmp x),type:=26,pos:=p,after:=af,guard:=gd}).run Tryz.prog w = .ok (.value (.slice A n c)) w:=by
 generalize a.eval=f at *
 go_simp
theorem q4bt{g j n c n' c':Nat}{A A':Option Addr}(hx:a.eval (.tmp x) = .pointer (some ⟨g,j,none⟩))(hy:a.eval (.tmp y) = .slice A n c)(hc:w.cell? ⟨g,j,none⟩=some (.slice A' n' c'))(hf:w.frozen? ⟨g,j,none⟩=false) :
 (execOp a.eval {dst:=d,op := .store 26 (.tmp x) (.tmp y),type:=r,pos:=p,after:=af,guard:=gd}).run Tryz.prog w = .ok .skip (w.setCell ⟨g,j,none⟩ (.slice A n c)):=by
 generalize a.eval=f at *
 go_simp
theorem qvo7{g j n c:Nat}{A:Option Addr}(hx:a.eval (.tmp x) = .pointer (some ⟨g,j,none⟩))(hc:w.cell? ⟨g,j,none⟩=some (.slice A n c)) :
 (execOp a.eval {dst:=d,op := .load 27 (.tmp x),type:=27,pos:=p,after:=af,guard:=gd}).run Tryz.prog w = .ok (.value (.slice A n c)) w:=by
 generalize a.eval=f at *
 go_simp
theorem qdxg{g j n c n' c':Nat}{A A':Option Addr}(hx:a.eval (.tmp x) = .pointer (some ⟨g,j,none⟩))(hy:a.eval (.tmp y) = .slice A n c)(hc:w.cell? ⟨g,j,none⟩=some (.slice A' n' c'))(hf:w.frozen? ⟨g,j,none⟩=false) :
 (execOp a.eval {dst:=d,op := .store 27 (.tmp x) (.tmp y),type:=r,pos:=p,after:=af,guard:=gd}).run Tryz.prog w = .ok .skip (w.setCell ⟨g,j,none⟩ (.slice A n c)):=by
 generalize a.eval=f at *
 go_simp
theorem q2vi{g j n c:Nat}{A:Option Addr}(hx:a.eval (.tmp x) = .pointer (some ⟨g,j,none⟩))(hc:w.cell? ⟨g,j,none⟩=some (.slice A n c)) :
 (execOp a.eval {dst:=d,op := .load 23 (.tmp x),type:=23,pos:=p,after:=af,guard:=gd}).run Tryz.prog w = .ok (.value (.slice A n c)) w:=by
 generalize a.eval=f at *
 go_simp
theorem qshq{g j n c n' c':Nat}{A A':Option Addr}(hx:a.eval (.tmp x) = .pointer (some ⟨g,j,none⟩))(hy:a.eval (.tmp y) = .slice A n c)(hc:w.cell? ⟨g,j,none⟩=some (.slice A' n' c'))(hf:w.frozen? ⟨g,j,none⟩=false) :
 (execOp a.eval {dst:=d,op := .store 23 (.tmp x) (.tmp y),type:=r,pos:=p,after:=af,guard:=gd}).run Tryz.prog w = .ok .skip (w.setCell ⟨g,j,none⟩ (.slice A n c)):=by
 generalize a.eval=f at *
 go_simp
end
theorem qc1g{Q:Exit→Act→World→Prop}{S:OwG→World→Prop}{W:World}{b:Nat}{p:Pk}{a:Ad}{x0 x2 x3 x4 x5 x6 x7 x8 x9 x10 x11 x12 x13 x14 x15 x16 x17 x18 x19 x20 x21:Value}
 (hS:S OwG.none W.drew) (KB:∀x w,S x w→w.heap[b]? = some (.cells (pkC p (qnt6 a x)) 29 (0,0)))
 (LD:∀k x w,k < 4→S x w→x.s k=0→S (x.to k 1) w)
 (H0:∀(x:OwG) (w:World),S x w→x.s 0=1→Calls Tryz.prog 52 #[(.slice a.cs p.codes.length a.cc)] w fun e w'=>∃A c,e = .returned (.slice A p.codes.length c)∧S (x.got 0 A c) w')
 (T0:∀(x:OwG) (w:World),S x w→x.s 0=2→S (x.to 0 3) (w.setCell ⟨b,22,none⟩ (.slice (x.A 0) p.codes.length (x.c 0))))
 (H1:∀(x:OwG) (w:World),S x w→x.s 1=1→Calls Tryz.prog 29 #[(.slice a.fs p.filters.length a.fc)] w fun e w'=>∃A c,e = .returned (.slice A p.filters.length c)∧S (x.got 1 A c) w')
 (T1:∀(x:OwG) (w:World),S x w→x.s 1=2→S (x.to 1 3) (w.setCell ⟨b,23,none⟩ (.slice (x.A 1) p.filters.length (x.c 1))))
 (H2:∀(x:OwG) (w:World),S x w→x.s 2=1→Calls Tryz.prog 53 #[(.slice a.ps p.props.length a.pc)] w fun e w'=>∃A c,e = .returned (.slice A p.props.length c)∧S (x.got 2 A c) w')
 (T2:∀(x:OwG) (w:World),S x w→x.s 2=2→S (x.to 2 3) (w.setCell ⟨b,24,none⟩ (.slice (x.A 2) p.props.length (x.c 2))))
 (H3:∀(x:OwG) (w:World),S x w→x.s 3=1→Calls Tryz.prog 53 #[(.slice a.w p.wProps.length a.wc)] w fun e w'=>∃A c,e = .returned (.slice A p.wProps.length c)∧S (x.got 3 A c) w')
 (T3:∀(x:OwG) (w:World),S x w→x.s 3=2→S (x.to 3 3) (w.setCell ⟨b,19,none⟩ (.slice (x.A 3) p.wProps.length (x.c 3))))
 (fin:∀x w,S x w→(3≤x.s 0∧3≤x.s 1∧3≤x.s 2∧3≤x.s 3)→Q .normal ⟨#[x0,(.pointer (some ⟨b,0,none⟩)),x2,(.pointer (some ⟨b,22,none⟩)),(.slice a.cs p.codes.length a.cc),(.slice (x.A 0) p.codes.length (x.c 0)),(.pointer (some ⟨b,23,none⟩)),(.slice a.fs p.filters.length a.fc),(.slice (x.A 1) p.filters.length (x.c 1)),(.pointer (some ⟨b,24,none⟩)),(.slice a.ps p.props.length a.pc),(.slice (x.A 2) p.props.length (x.c 2)),(.pointer (some ⟨b,15,none⟩)),(.pointer (some ⟨b,19,none⟩)),(.slice a.w p.wProps.length a.wc),(.slice (x.A 3) p.wProps.length (x.c 3)),(.pointer (some ⟨b,22,none⟩)),(.pointer (some ⟨b,23,none⟩)),(.pointer (some ⟨b,24,none⟩)),(.pointer (some ⟨b,15,none⟩)),(.pointer (some ⟨b,19,none⟩)),x21],[]⟩ w) :
 (Code.region 1 (qfhu.opsAt 1 Tryz.f18.body) true).wp Tryz.prog Q ⟨#[x0,(.pointer (some ⟨b,0,none⟩)),x2,x3,x4,x5,x6,x7,x8,x9,x10,x11,x12,x13,x14,x15,x16,x17,x18,x19,x20,x21],[]⟩ W:=by
 refine qu7n.wp (fresh:=fun i x=>∀k n,owSt i=some (k,n)→x.s k < n) (hf0:=fun i k n h=>qhef h) (x:=OwG.none) (S:=S) (made:=fun i x=>∀k n,owSt i=some (k,n)→n≤x.s k) (war:=[]) (ds:=[3,4,5,6,7,8,9,10,11,12,13,14,15,16,17,18,19,20]) (A:=[x0,(.pointer (some ⟨b,0,none⟩)),x2,x3,x4,x5,x6,x7,x8,x9,x10,x11,x12,x13,x14,x15,x16,x17,x18,x19,x20,x21]) (B:=fun x=>[x0,(.pointer (some ⟨b,0,none⟩)),x2,(.pointer (some ⟨b,22,none⟩)),(.slice a.cs p.codes.length a.cc),(.slice (x.A 0) p.codes.length (x.c 0)),(.pointer (some ⟨b,23,none⟩)),(.slice a.fs p.filters.length a.fc),(.slice (x.A 1) p.filters.length (x.c 1)),(.pointer (some ⟨b,24,none⟩)),(.slice a.ps p.props.length a.pc),(.slice (x.A 2) p.props.length (x.c 2)),(.pointer (some ⟨b,15,none⟩)),(.pointer (some ⟨b,19,none⟩)),(.slice a.w p.wProps.length a.wc),(.slice (x.A 3) p.wProps.length (x.c 3)),(.pointer (some ⟨b,22,none⟩)),(.pointer (some ⟨b,23,none⟩)),(.pointer (some ⟨b,24,none⟩)),(.pointer (some ⟨b,15,none⟩)),(.pointer (some ⟨b,19,none⟩)),x21]) (D:=[]) (by kernel_rfl) (by kernel_rfl) (by kernel_rfl) ?_ hS ?_ (fun x w hm hS=>fin x w hS (by have h0:=hm 14 (by decide) 0 3 rfl;have h1:=hm 16 (by decide) 1 3 rfl;have h2:=hm 18 (by decide) 2 3 rfl;have h3:=hm 21 (by decide) 3 3 rfl;exact⟨h0,h1,h2,h3⟩))
 ·exact fun x=>(by repeat (first | exact trivial | refine⟨.inr rfl,?_⟩ | refine⟨.inl rfl,?_⟩))
 refine q2y4.All.step rfl (qu7n.Does.pure (val:=fun x=>(.pointer (some ⟨b,22,none⟩))) rfl (fun x k n h=>by cases h) (fun x w hm hS=>⟨rfl,rfl,q0zh rfl⟩)) ?_
 refine q2y4.All.step rfl ((fun x w hm hf hS=>by
  have hs:x.s 0+1=1:=by have:=hf 0 1 rfl;omega
  exact .inl ⟨rfl,.value _ (x.to 0 1) w (q2ns rfl (qarg (KB x w hS) (by omega))) ⟨fun d hd=>by cases hd;rfl,LD 0 x w (by decide) hS (by omega),qcow (x:=x) (k:=0) (n:=1) rfl hs,fun i h=>qedx (k:=0) (n:=1) hs h,fun i hi h=>qjl5 (j:=1) (k:=0) (n:=1) rfl hs hi h,[],rfl,q2y4.off_refl 0 _⟩⟩)) ?_
 refine q2y4.All.step rfl ((fun x w hm hf hS=>by
  have hs:x.s 0+1=2:=by have:=hf 0 2 rfl;have:=hm 1 (by kernel_rfl) (by decide) 0 1 rfl;omega
  exact .inl ⟨rfl,.call _ _ (qpjl.enter1 Tryz.func52 rfl rfl) ((H0 x w hS (by omega)).mono fun e w' ⟨A',c',he,hk⟩=>⟨_,x.got 0 A' c',he,fun d hd=>by cases hd;rfl,hk,qcow (x:=x) (k:=0) (n:=2) rfl hs,fun i h=>qedx (k:=0) (n:=2) hs h,fun i hi h=>qjl5 (j:=2) (k:=0) (n:=2) rfl hs hi h,[5],by kernel_rfl,(by repeat (first | exact trivial | refine⟨.inr rfl,?_⟩ | refine⟨.inl rfl,?_⟩))⟩)⟩)) ?_
 refine q2y4.All.step rfl (qu7n.Does.pure (val:=fun x=>(.pointer (some ⟨b,23,none⟩))) rfl (fun x k n h=>by cases h) (fun x w hm hS=>⟨rfl,rfl,q2iq rfl⟩)) ?_
 refine q2y4.All.step rfl ((fun x w hm hf hS=>by
  have hs:x.s 1+1=1:=by have:=hf 1 1 rfl;omega
  exact .inl ⟨rfl,.value _ (x.to 1 1) w (qvo7 rfl (qwga (KB x w hS) (by omega))) ⟨fun d hd=>by cases hd;rfl,LD 1 x w (by decide) hS (by omega),qcow (x:=x) (k:=1) (n:=1) rfl hs,fun i h=>qedx (k:=1) (n:=1) hs h,fun i hi h=>qjl5 (j:=4) (k:=1) (n:=1) rfl hs hi h,[],rfl,q2y4.off_refl 0 _⟩⟩)) ?_
 refine q2y4.All.step rfl ((fun x w hm hf hS=>by
  have hs:x.s 1+1=2:=by have:=hf 1 2 rfl;have:=hm 4 (by kernel_rfl) (by decide) 1 1 rfl;omega
  exact .inl ⟨rfl,.call _ _ (qpjl.enter1 Tryz.func29 rfl rfl) ((H1 x w hS (by omega)).mono fun e w' ⟨A',c',he,hk⟩=>⟨_,x.got 1 A' c',he,fun d hd=>by cases hd;rfl,hk,qcow (x:=x) (k:=1) (n:=2) rfl hs,fun i h=>qedx (k:=1) (n:=2) hs h,fun i hi h=>qjl5 (j:=5) (k:=1) (n:=2) rfl hs hi h,[8],by kernel_rfl,(by repeat (first | exact trivial | refine⟨.inr rfl,?_⟩ | refine⟨.inl rfl,?_⟩))⟩)⟩)) ?_
 refine q2y4.All.step rfl (qu7n.Does.pure (val:=fun x=>(.pointer (some ⟨b,24,none⟩))) rfl (fun x k n h=>by cases h) (fun x w hm hS=>⟨rfl,rfl,qxry rfl⟩)) ?_
 refine q2y4.All.step rfl ((fun x w hm hf hS=>by
  have hs:x.s 2+1=1:=by have:=hf 2 1 rfl;omega
  exact .inl ⟨rfl,.value _ (x.to 2 1) w (q2vi rfl (q6hp (KB x w hS) (by omega))) ⟨fun d hd=>by cases hd;rfl,LD 2 x w (by decide) hS (by omega),qcow (x:=x) (k:=2) (n:=1) rfl hs,fun i h=>qedx (k:=2) (n:=1) hs h,fun i hi h=>qjl5 (j:=7) (k:=2) (n:=1) rfl hs hi h,[],rfl,q2y4.off_refl 0 _⟩⟩)) ?_
 refine q2y4.All.step rfl ((fun x w hm hf hS=>by
  have hs:x.s 2+1=2:=by have:=hf 2 2 rfl;have:=hm 7 (by kernel_rfl) (by decide) 2 1 rfl;omega
  exact .inl ⟨rfl,.call _ _ (qpjl.enter1 Tryz.func53 rfl rfl) ((H2 x w hS (by omega)).mono fun e w' ⟨A',c',he,hk⟩=>⟨_,x.got 2 A' c',he,fun d hd=>by cases hd;rfl,hk,qcow (x:=x) (k:=2) (n:=2) rfl hs,fun i h=>qedx (k:=2) (n:=2) hs h,fun i hi h=>qjl5 (j:=8) (k:=2) (n:=2) rfl hs hi h,[11],by kernel_rfl,(by repeat (first | exact trivial | refine⟨.inr rfl,?_⟩ | refine⟨.inl rfl,?_⟩))⟩)⟩)) ?_
 refine q2y4.All.step rfl (qu7n.Does.pure (val:=fun x=>(.pointer (some ⟨b,15,none⟩))) rfl (fun x k n h=>by cases h) (fun x w hm hS=>⟨rfl,rfl,qtdp rfl⟩)) ?_
 refine q2y4.All.step rfl (qu7n.Does.pure (val:=fun x=>(.pointer (some ⟨b,19,none⟩))) rfl (fun x k n h=>by cases h) (fun x w hm hS=>⟨rfl,rfl,qtwp rfl⟩)) ?_
 refine q2y4.All.step rfl ((fun x w hm hf hS=>by
  have hs:x.s 3+1=1:=by have:=hf 3 1 rfl;omega
  exact .inl ⟨rfl,.value _ (x.to 3 1) w (q2vi rfl (qgrp (KB x w hS) (by omega))) ⟨fun d hd=>by cases hd;rfl,LD 3 x w (by decide) hS (by omega),qcow (x:=x) (k:=3) (n:=1) rfl hs,fun i h=>qedx (k:=3) (n:=1) hs h,fun i hi h=>qjl5 (j:=11) (k:=3) (n:=1) rfl hs hi h,[],rfl,q2y4.off_refl 0 _⟩⟩)) ?_
 refine q2y4.All.step rfl ((fun x w hm hf hS=>by
  have hs:x.s 3+1=2:=by have:=hf 3 2 rfl;have:=hm 11 (by kernel_rfl) (by decide) 3 1 rfl;omega
  exact .inl ⟨rfl,.call _ _ (qpjl.enter1 Tryz.func53 rfl rfl) ((H3 x w hS (by omega)).mono fun e w' ⟨A',c',he,hk⟩=>⟨_,x.got 3 A' c',he,fun d hd=>by cases hd;rfl,hk,qcow (x:=x) (k:=3) (n:=2) rfl hs,fun i h=>qedx (k:=3) (n:=2) hs h,fun i hi h=>qjl5 (j:=12) (k:=3) (n:=2) rfl hs hi h,[15],by kernel_rfl,(by repeat (first | exact trivial | refine⟨.inr rfl,?_⟩ | refine⟨.inl rfl,?_⟩))⟩)⟩)) ?_
 refine q2y4.All.step rfl (qu7n.Does.pure (val:=fun x=>(.pointer (some ⟨b,22,none⟩))) rfl (fun x k n h=>by cases h) (fun x w hm hS=>⟨rfl,rfl,q0zh rfl⟩)) ?_
 refine q2y4.All.step rfl ((fun x w hm hf hS=>by
  have hs:x.s 0+1=3:=by have:=hf 0 3 rfl;have:=hm 2 (by kernel_rfl) (by decide) 0 2 rfl;omega
  exact .inl ⟨rfl,.skip (x.to 0 3) _ (q4bt rfl rfl (qarg (KB x w hS) (by omega)) (frozen_of_row _ _ _ _ _ (KB x w hS))) ⟨fun d hd=>(by cases hd),T0 x w hS (by omega),qcow (x:=x) (k:=0) (n:=3) rfl hs,fun i h=>qedx (k:=0) (n:=3) hs h,fun i hi h=>qjl5 (j:=14) (k:=0) (n:=3) rfl hs hi h,[],rfl,q2y4.off_refl 0 _⟩⟩)) ?_
 refine q2y4.All.step rfl (qu7n.Does.pure (val:=fun x=>(.pointer (some ⟨b,23,none⟩))) rfl (fun x k n h=>by cases h) (fun x w hm hS=>⟨rfl,rfl,q2iq rfl⟩)) ?_
 refine q2y4.All.step rfl ((fun x w hm hf hS=>by
  have hs:x.s 1+1=3:=by have:=hf 1 3 rfl;have:=hm 5 (by kernel_rfl) (by decide) 1 2 rfl;omega
  exact .inl ⟨rfl,.skip (x.to 1 3) _ (qdxg rfl rfl (qwga (KB x w hS) (by omega)) (frozen_of_row _ _ _ _ _ (KB x w hS))) ⟨fun d hd=>(by cases hd),T1 x w hS (by omega),qcow (x:=x) (k:=1) (n:=3) rfl hs,fun i h=>qedx (k:=1) (n:=3) hs h,fun i hi h=>qjl5 (j:=16) (k:=1) (n:=3) rfl hs hi h,[],rfl,q2y4.off_refl 0 _⟩⟩)) ?_
 refine q2y4.All.step rfl (qu7n.Does.pure (val:=fun x=>(.pointer (some ⟨b,24,none⟩))) rfl (fun x k n h=>by cases h) (fun x w hm hS=>⟨rfl,rfl,qxry rfl⟩)) ?_
 refine q2y4.All.step rfl ((fun x w hm hf hS=>by
  have hs:x.s 2+1=3:=by have:=hf 2 3 rfl;have:=hm 8 (by kernel_rfl) (by decide) 2 2 rfl;omega
  exact .inl ⟨rfl,.skip (x.to 2 3) _ (qshq rfl rfl (q6hp (KB x w hS) (by omega)) (frozen_of_row _ _ _ _ _ (KB x w hS))) ⟨fun d hd=>(by cases hd),T2 x w hS (by omega),qcow (x:=x) (k:=2) (n:=3) rfl hs,fun i h=>qedx (k:=2) (n:=3) hs h,fun i hi h=>qjl5 (j:=18) (k:=2) (n:=3) rfl hs hi h,[],rfl,q2y4.off_refl 0 _⟩⟩)) ?_
 refine q2y4.All.step rfl (qu7n.Does.pure (val:=fun x=>(.pointer (some ⟨b,15,none⟩))) rfl (fun x k n h=>by cases h) (fun x w hm hS=>⟨rfl,rfl,qtdp rfl⟩)) ?_
 refine q2y4.All.step rfl (qu7n.Does.pure (val:=fun x=>(.pointer (some ⟨b,19,none⟩))) rfl (fun x k n h=>by cases h) (fun x w hm hS=>⟨rfl,rfl,qtwp rfl⟩)) ?_
 refine q2y4.All.step rfl ((fun x w hm hf hS=>by
  have hs:x.s 3+1=3:=by have:=hf 3 3 rfl;have:=hm 12 (by kernel_rfl) (by decide) 3 2 rfl;omega
  exact .inl ⟨rfl,.skip (x.to 3 3) _ (qshq rfl rfl (qgrp (KB x w hS) (by omega)) (frozen_of_row _ _ _ _ _ (KB x w hS))) ⟨fun d hd=>(by cases hd),T3 x w hS (by omega),qcow (x:=x) (k:=3) (n:=3) rfl hs,fun i h=>qedx (k:=3) (n:=3) hs h,fun i hi h=>qjl5 (j:=21) (k:=3) (n:=3) rfl hs hi h,[],rfl,q2y4.off_refl 0 _⟩⟩)) ?_
 exact q2y4.All.fin rfl
theorem qmri{Q:Exit→Act→World→Prop}{S:World→Prop}{W:World}{B:Nat}{q q1 q2 h h1 h2 y1 y2 o1 o2 o3:Int}{n a:Bool}{x0 x2 x3 x4 x5 x6 x7 x8 x9 x10 x11 x12 x13 x14 x15 x16 x17 x18 x19:Value}
 (hS:S W.drew)
 (K1:∀w,S w→w.cell? ⟨B,1,none⟩=some (.int .i64 q)) (K2:∀w,S w→w.cell? ⟨B,2,none⟩=some (.bool n)) (K3:∀w,S w→w.cell? ⟨B,3,none⟩=some (.bool a)) (K4:∀w,S w→w.cell? ⟨B,4,none⟩=some (.int .i64 h))
 (e1:IntKind.i64.wrap (q*1)=q1) (e2:bits .and .i64 q1 3=q2) (e3:IntKind.i64.wrap (h*16)=h1) (e4:bits .and .i64 h1 48=h2) (f1:bits .or .i64 q2 y1=o1) (f2:bits .or .i64 o1 y2=o2) (f3:bits .or .i64 o2 h2=o3)
 (H0:∀w,S w→Calls Tryz.prog 43 #[.bool n,.int .i64 4] w fun e w'=>e = .returned (.int .i64 y1)∧S w')
 (H1:∀w,S w→Calls Tryz.prog 43 #[.bool a,.int .i64 8] w fun e w'=>e = .returned (.int .i64 y2)∧S w')
 (fin:∀w:World,S w→Q .normal ⟨#[x0,(.pointer (some ⟨B,0,none⟩)),(.int .i64 o3),(.pointer (some ⟨B,1,none⟩)),(.int .i64 q),(.int .i64 q1),(.int .i64 q2),(.pointer (some ⟨B,2,none⟩)),(.bool n),(.int .i64 y1),(.int .i64 o1),(.pointer (some ⟨B,3,none⟩)),(.bool a),(.int .i64 y2),(.int .i64 o2),(.pointer (some ⟨B,4,none⟩)),(.int .i64 h),(.int .i64 h1),(.int .i64 h2),(.int .i64 o3)],[]⟩ w) :
 (Code.region 1 (qfhu.opsAt 1 Tryz.f13.body) true).wp Tryz.prog Q ⟨#[x0,(.pointer (some ⟨B,0,none⟩)),x2,x3,x4,x5,x6,x7,x8,x9,x10,x11,x12,x13,x14,x15,x16,x17,x18,x19],[]⟩ W:=by
 refine qfhu.wp_in (ds:=[3,4,5,6,7,8,9,10,11,12,13,14,15,16,17,18,19,2]) (B:=[x0,(.pointer (some ⟨B,0,none⟩)),(.int .i64 o3),(.pointer (some ⟨B,1,none⟩)),(.int .i64 q),(.int .i64 q1),(.int .i64 q2),(.pointer (some ⟨B,2,none⟩)),(.bool n),(.int .i64 y1),(.int .i64 o1),(.pointer (some ⟨B,3,none⟩)),(.bool a),(.int .i64 y2),(.int .i64 o2),(.pointer (some ⟨B,4,none⟩)),(.int .i64 h),(.int .i64 h1),(.int .i64 h2),(.int .i64 o3)]) (D:=[]) (by kernel_rfl) (by kernel_rfl) (by kernel_rfl) ?_ hS ?_ fin
 ·exact(by repeat (first | exact trivial | refine⟨.inr rfl,?_⟩ | refine⟨.inl rfl,?_⟩))
 refine qfhu.pu rfl rfl rfl rfl (fun w hS=>q0b3 rfl) ?_
 refine qfhu.pu rfl rfl rfl rfl (fun w hS=>qnwy rfl (K1 w hS)) ?_
 refine qfhu.pu rfl rfl rfl rfl (fun w hS=>qv14 rfl e1) ?_
 refine qfhu.pu rfl rfl rfl rfl (fun w hS=>qzzw rfl e2) ?_
 refine qfhu.pu rfl rfl rfl rfl (fun w hS=>qqv5 rfl) ?_
 refine qfhu.pu rfl rfl rfl rfl (fun w hS=>q7eg rfl (K2 w hS)) ?_
 refine qfhu.ca rfl rfl rfl rfl (fun w=>qpjl.enter2 Tryz.func43 rfl rfl rfl) H0 ?_
 refine qfhu.pu rfl rfl rfl rfl (fun w hS=>q0il rfl rfl f1) ?_
 refine qfhu.pu rfl rfl rfl rfl (fun w hS=>qw8p rfl) ?_
 refine qfhu.pu rfl rfl rfl rfl (fun w hS=>q7eg rfl (K3 w hS)) ?_
 refine qfhu.ca rfl rfl rfl rfl (fun w=>qpjl.enter2 Tryz.func43 rfl rfl rfl) H1 ?_
 refine qfhu.pu rfl rfl rfl rfl (fun w hS=>q0il rfl rfl f2) ?_
 refine qfhu.pu rfl rfl rfl rfl (fun w hS=>q7bm rfl) ?_
 refine qfhu.pu rfl rfl rfl rfl (fun w hS=>qnwy rfl (K4 w hS)) ?_
 refine qfhu.pu rfl rfl rfl rfl (fun w hS=>qv14 rfl e3) ?_
 refine qfhu.pu rfl rfl rfl rfl (fun w hS=>qzzw rfl e4) ?_
 refine qfhu.pu rfl rfl rfl rfl (fun w hS=>q0il rfl rfl f3) ?_
 refine qfhu.pu rfl rfl rfl rfl (fun w hS=>rfl) ?_
 exact qfhu.All.fin rfl
theorem qhgg{Q:Exit→Act→World→Prop}{S:World→Prop}{W:World}{B nc nf cc fc:Nat}{v k i:Int}{C D:Array Value}{b s:Bool}{ac af:Option Addr}{x1 x2 x5 x6 x7 x8 x9 x10 x11 x12 x13 x14 x15 x16 x17 x18 x19 x20 x21 x22 x23 x24 x25 x26 x27 x28 x29 x30 x31 x32 x33 x34 x35 x36 x37 x38 x39 x40 x41 x42 x43:Value}
 (hS:S W.drew)
 (hC:C.size=25) (KC:∀w,S w→w.heap[B]? = some (.cells C 29 (0,0))) (K0:∀w,S w→w.cell? ⟨B,0,none⟩=some (.int .i64 k)) (K4:∀w,S w→w.cell? ⟨B,4,none⟩=some (.int .i64 i))
 (K22:∀w,S w→w.cell? ⟨B,22,none⟩=some (.slice ac nc cc)) (K23:∀w,S w→w.cell? ⟨B,23,none⟩=some (.slice af nf fc))
 (H0:∀w,S w→Calls Tryz.prog 35 #[.int .i64 v,.int .i64 k] w fun e w'=>e = .returned (.bool (versC v&&qfws k))∧S w')
 (H1:∀w,S w→Calls Tryz.prog 45 #[.int .i64 v,.int .i64 k] w fun e w'=>e = .returned (.bool b)∧S w')
 (H2:∀w,S w→Calls Tryz.prog 85 #[.int .i64 v,.agg C] w fun e w'=>e = .returned (.agg D)∧S w')
 (H3:∀w,S w→Calls Tryz.prog 84 #[.agg C,.agg D] w fun e w'=>e = .returned (.bool s)∧S w')
 (fin:∀(r:Bool) (w:World),((versC v&&qfws k)&&(decide (0 < i))&&(decide (i≤65535))&&((decide (0 < nf)) || (decide (0 < nc)) || b)&&s)=r→S w→∀x5 x6 x7 x8 x9 x10 x11 x12 x13 x14 x15 x16 x17 x18 x19 x20 x21 x22 x23 x24 x25 x26 x27 x28 x29 x30 x31 x32 x33 x34 x35 x36 x37 x38 x39 x40 x41 x42 x43,Q .normal ⟨#[(.int .i64 v),x1,x2,(.pointer (some ⟨B,0,none⟩)),(.bool r),x5,x6,x7,x8,x9,x10,x11,x12,x13,x14,x15,x16,x17,x18,x19,x20,x21,x22,x23,x24,x25,x26,x27,x28,x29,x30,x31,x32,x33,x34,x35,x36,x37,x38,x39,x40,x41,x42,x43],[]⟩ w) :
 (Code.region 1 (qfhu.opsAt 1 Tryz.f46.body) true).wp Tryz.prog Q ⟨#[(.int .i64 v),x1,x2,(.pointer (some ⟨B,0,none⟩)),(.bool false),x5,x6,x7,x8,x9,x10,x11,x12,x13,x14,x15,x16,x17,x18,x19,x20,x21,x22,x23,x24,x25,x26,x27,x28,x29,x30,x31,x32,x33,x34,x35,x36,x37,x38,x39,x40,x41,x42,x43],[]⟩ W:=by
 obtain⟨d0,ed0⟩:∃d,(versC v&&qfws k)=d:=⟨_,rfl⟩
 obtain⟨d1,ed1⟩:∃d,(decide (0 < i))=d:=⟨_,rfl⟩
 obtain⟨d2,ed2⟩:∃d,(decide (i≤65535))=d:=⟨_,rfl⟩
 obtain⟨c0,ec0⟩:∃d,(decide (0 < nf))=d:=⟨_,rfl⟩
 obtain⟨c1,ec1⟩:∃d,(decide (0 < nc))=d:=⟨_,rfl⟩
 obtain⟨c2,ec2⟩:∃d,(b)=d:=⟨_,rfl⟩
 obtain⟨d4,ed4⟩:∃d,(s)=d:=⟨_,rfl⟩
 rw[ed0,ed1,ed2,ec0,ec1,ec2,ed4] at fin
 rw[ed0] at H0
 rw[ec2] at H1
 rw[ed4] at H3
 cases d0
 case' false=>
  refine qfhu.wp_in (ds:=[5,6,7,8,9,10,11,12,13,14,15,16,17,18,19,20,21,22,23,24,25,26,27,28,29,30,31,32,33,34,35,36,37,38,39,40,41,42,43,4]) (B:=[(.int .i64 v),x1,x2,(.pointer (some ⟨B,0,none⟩)),(.bool false),(.int .i64 v),(.pointer (some ⟨B,0,none⟩)),(.int .i64 k),(.bool false),(.bool false),undef,undef,undef,(.bool false),(.bool false),undef,undef,undef,(.bool false),(.bool false),undef,undef,undef,undef,undef,undef,undef,undef,undef,undef,undef,undef,undef,undef,undef,undef,(.bool false),(.bool false),undef,undef,undef,undef,undef,(.bool false)]) (D:=[]) (by kernel_rfl) (by kernel_rfl) (by kernel_rfl) ?_ hS ?_ (fun w hS=>fin false w rfl hS _ _ _ _ _ _ _ _ _ _ _ _ _ _ _ _ _ _ _ _ _ _ _ _ _ _ _ _ _ _ _ _ _ _ _ _ _ _ _)
 case' true=>
  cases d1
  case' false=>
   refine qfhu.wp_in (ds:=[5,6,7,8,9,10,11,12,13,14,15,16,17,18,19,20,21,22,23,24,25,26,27,28,29,30,31,32,33,34,35,36,37,38,39,40,41,42,43,4]) (B:=[(.int .i64 v),x1,x2,(.pointer (some ⟨B,0,none⟩)),(.bool false),(.int .i64 v),(.pointer (some ⟨B,0,none⟩)),(.int .i64 k),(.bool true),(.bool true),(.pointer (some ⟨B,4,none⟩)),(.int .i64 i),(.bool false),(.bool false),(.bool false),undef,undef,undef,(.bool false),(.bool false),undef,undef,undef,undef,undef,undef,undef,undef,undef,undef,undef,undef,undef,undef,undef,undef,(.bool false),(.bool false),undef,undef,undef,undef,undef,(.bool false)]) (D:=[]) (by kernel_rfl) (by kernel_rfl) (by kernel_rfl) ?_ hS ?_ (fun w hS=>fin false w rfl hS _ _ _ _ _ _ _ _ _ _ _ _ _ _ _ _ _ _ _ _ _ _ _ _ _ _ _ _ _ _ _ _ _ _ _ _ _ _ _)
  case' true=>
   cases d2
   case' false=>
    refine qfhu.wp_in (ds:=[5,6,7,8,9,10,11,12,13,14,15,16,17,18,19,20,21,22,23,24,25,26,27,28,29,30,31,32,33,34,35,36,37,38,39,40,41,42,43,4]) (B:=[(.int .i64 v),x1,x2,(.pointer (some ⟨B,0,none⟩)),(.bool false),(.int .i64 v),(.pointer (some ⟨B,0,none⟩)),(.int .i64 k),(.bool true),(.bool true),(.pointer (some ⟨B,4,none⟩)),(.int .i64 i),(.bool true),(.bool true),(.bool true),(.pointer (some ⟨B,4,none⟩)),(.int .i64 i),(.bool false),(.bool false),(.bool false),undef,undef,undef,undef,undef,undef,undef,undef,undef,undef,undef,undef,undef,undef,undef,undef,(.bool false),(.bool false),undef,undef,undef,undef,undef,(.bool false)]) (D:=[]) (by kernel_rfl) (by kernel_rfl) (by kernel_rfl) ?_ hS ?_ (fun w hS=>fin false w rfl hS _ _ _ _ _ _ _ _ _ _ _ _ _ _ _ _ _ _ _ _ _ _ _ _ _ _ _ _ _ _ _ _ _ _ _ _ _ _ _)
   case' true=>
    cases c0
    case' false=>
     cases c1
     case' false=>
      cases c2
      case' false=>
       refine qfhu.wp_in (ds:=[5,6,7,8,9,10,11,12,13,14,15,16,17,18,19,20,21,22,23,24,25,26,27,28,29,30,31,32,33,34,35,36,37,38,39,40,41,42,43,4]) (B:=[(.int .i64 v),x1,x2,(.pointer (some ⟨B,0,none⟩)),(.bool false),(.int .i64 v),(.pointer (some ⟨B,0,none⟩)),(.int .i64 k),(.bool true),(.bool true),(.pointer (some ⟨B,4,none⟩)),(.int .i64 i),(.bool true),(.bool true),(.bool true),(.pointer (some ⟨B,4,none⟩)),(.int .i64 i),(.bool true),(.bool true),(.bool true),(.pointer (some ⟨B,23,none⟩)),(.slice af nf fc),(.int .i64 (nf:Nat)),(.bool false),(.bool false),(.pointer (some ⟨B,22,none⟩)),(.slice ac nc cc),(.int .i64 (nc:Nat)),(.bool false),(.bool false),(.bool false),(.int .i64 v),(.pointer (some ⟨B,0,none⟩)),(.int .i64 k),(.bool false),(.bool false),(.bool false),(.bool false),undef,undef,undef,undef,undef,(.bool false)]) (D:=[]) (by kernel_rfl) (by kernel_rfl) (by kernel_rfl) ?_ hS ?_ (fun w hS=>fin false w rfl hS _ _ _ _ _ _ _ _ _ _ _ _ _ _ _ _ _ _ _ _ _ _ _ _ _ _ _ _ _ _ _ _ _ _ _ _ _ _ _)
      case' true=>
       cases d4
       case' false=>
        refine qfhu.wp_in (ds:=[5,6,7,8,9,10,11,12,13,14,15,16,17,18,19,20,21,22,23,24,25,26,27,28,29,30,31,32,33,34,35,36,37,38,39,40,41,42,43,4]) (B:=[(.int .i64 v),x1,x2,(.pointer (some ⟨B,0,none⟩)),(.bool false),(.int .i64 v),(.pointer (some ⟨B,0,none⟩)),(.int .i64 k),(.bool true),(.bool true),(.pointer (some ⟨B,4,none⟩)),(.int .i64 i),(.bool true),(.bool true),(.bool true),(.pointer (some ⟨B,4,none⟩)),(.int .i64 i),(.bool true),(.bool true),(.bool true),(.pointer (some ⟨B,23,none⟩)),(.slice af nf fc),(.int .i64 (nf:Nat)),(.bool false),(.bool false),(.pointer (some ⟨B,22,none⟩)),(.slice ac nc cc),(.int .i64 (nc:Nat)),(.bool false),(.bool false),(.bool false),(.int .i64 v),(.pointer (some ⟨B,0,none⟩)),(.int .i64 k),(.bool true),(.bool true),(.bool true),(.bool true),(.agg C),(.int .i64 v),(.agg C),(.agg D),(.bool false),(.bool false)]) (D:=[]) (by kernel_rfl) (by kernel_rfl) (by kernel_rfl) ?_ hS ?_ (fun w hS=>fin false w rfl hS _ _ _ _ _ _ _ _ _ _ _ _ _ _ _ _ _ _ _ _ _ _ _ _ _ _ _ _ _ _ _ _ _ _ _ _ _ _ _)
       case' true=>
        refine qfhu.wp_in (ds:=[5,6,7,8,9,10,11,12,13,14,15,16,17,18,19,20,21,22,23,24,25,26,27,28,29,30,31,32,33,34,35,36,37,38,39,40,41,42,43,4]) (B:=[(.int .i64 v),x1,x2,(.pointer (some ⟨B,0,none⟩)),(.bool true),(.int .i64 v),(.pointer (some ⟨B,0,none⟩)),(.int .i64 k),(.bool true),(.bool true),(.pointer (some ⟨B,4,none⟩)),(.int .i64 i),(.bool true),(.bool true),(.bool true),(.pointer (some ⟨B,4,none⟩)),(.int .i64 i),(.bool true),(.bool true),(.bool true),(.pointer (some ⟨B,23,none⟩)),(.slice af nf fc),(.int .i64 (nf:Nat)),(.bool false),(.bool false),(.pointer (some ⟨B,22,none⟩)),(.slice ac nc cc),(.int .i64 (nc:Nat)),(.bool false),(.bool false),(.bool false),(.int .i64 v),(.pointer (some ⟨B,0,none⟩)),(.int .i64 k),(.bool true),(.bool true),(.bool true),(.bool true),(.agg C),(.int .i64 v),(.agg C),(.agg D),(.bool true),(.bool true)]) (D:=[]) (by kernel_rfl) (by kernel_rfl) (by kernel_rfl) ?_ hS ?_ (fun w hS=>fin true w rfl hS _ _ _ _ _ _ _ _ _ _ _ _ _ _ _ _ _ _ _ _ _ _ _ _ _ _ _ _ _ _ _ _ _ _ _ _ _ _ _)
     case' true=>
      cases d4
      case' false=>
       refine qfhu.wp_in (ds:=[5,6,7,8,9,10,11,12,13,14,15,16,17,18,19,20,21,22,23,24,25,26,27,28,29,30,31,32,33,34,35,36,37,38,39,40,41,42,43,4]) (B:=[(.int .i64 v),x1,x2,(.pointer (some ⟨B,0,none⟩)),(.bool false),(.int .i64 v),(.pointer (some ⟨B,0,none⟩)),(.int .i64 k),(.bool true),(.bool true),(.pointer (some ⟨B,4,none⟩)),(.int .i64 i),(.bool true),(.bool true),(.bool true),(.pointer (some ⟨B,4,none⟩)),(.int .i64 i),(.bool true),(.bool true),(.bool true),(.pointer (some ⟨B,23,none⟩)),(.slice af nf fc),(.int .i64 (nf:Nat)),(.bool false),(.bool false),(.pointer (some ⟨B,22,none⟩)),(.slice ac nc cc),(.int .i64 (nc:Nat)),(.bool true),(.bool true),(.bool true),undef,undef,undef,undef,(.bool true),(.bool true),(.bool true),(.agg C),(.int .i64 v),(.agg C),(.agg D),(.bool false),(.bool false)]) (D:=[]) (by kernel_rfl) (by kernel_rfl) (by kernel_rfl) ?_ hS ?_ (fun w hS=>fin false w rfl hS _ _ _ _ _ _ _ _ _ _ _ _ _ _ _ _ _ _ _ _ _ _ _ _ _ _ _ _ _ _ _ _ _ _ _ _ _ _ _)
      case' true=>
       refine qfhu.wp_in (ds:=[5,6,7,8,9,10,11,12,13,14,15,16,17,18,19,20,21,22,23,24,25,26,27,28,29,30,31,32,33,34,35,36,37,38,39,40,41,42,43,4]) (B:=[(.int .i64 v),x1,x2,(.pointer (some ⟨B,0,none⟩)),(.bool true),(.int .i64 v),(.pointer (some ⟨B,0,none⟩)),(.int .i64 k),(.bool true),(.bool true),(.pointer (some ⟨B,4,none⟩)),(.int .i64 i),(.bool true),(.bool true),(.bool true),(.pointer (some ⟨B,4,none⟩)),(.int .i64 i),(.bool true),(.bool true),(.bool true),(.pointer (some ⟨B,23,none⟩)),(.slice af nf fc),(.int .i64 (nf:Nat)),(.bool false),(.bool false),(.pointer (some ⟨B,22,none⟩)),(.slice ac nc cc),(.int .i64 (nc:Nat)),(.bool true),(.bool true),(.bool true),undef,undef,undef,undef,(.bool true),(.bool true),(.bool true),(.agg C),(.int .i64 v),(.agg C),(.agg D),(.bool true),(.bool true)]) (D:=[]) (by kernel_rfl) (by kernel_rfl) (by kernel_rfl) ?_ hS ?_ (fun w hS=>fin true w rfl hS _ _ _ _ _ _ _ _ _ _ _ _ _ _ _ _ _ _ _ _ _ _ _ _ _ _ _ _ _ _ _ _ _ _ _ _ _ _ _)
    case' true=>
     cases d4
     case' false=>
      refine qfhu.wp_in (ds:=[5,6,7,8,9,10,11,12,13,14,15,16,17,18,19,20,21,22,23,24,25,26,27,28,29,30,31,32,33,34,35,36,37,38,39,40,41,42,43,4]) (B:=[(.int .i64 v),x1,x2,(.pointer (some ⟨B,0,none⟩)),(.bool false),(.int .i64 v),(.pointer (some ⟨B,0,none⟩)),(.int .i64 k),(.bool true),(.bool true),(.pointer (some ⟨B,4,none⟩)),(.int .i64 i),(.bool true),(.bool true),(.bool true),(.pointer (some ⟨B,4,none⟩)),(.int .i64 i),(.bool true),(.bool true),(.bool true),(.pointer (some ⟨B,23,none⟩)),(.slice af nf fc),(.int .i64 (nf:Nat)),(.bool true),(.bool true),undef,undef,undef,undef,(.bool true),(.bool true),undef,undef,undef,undef,(.bool true),(.bool true),(.bool true),(.agg C),(.int .i64 v),(.agg C),(.agg D),(.bool false),(.bool false)]) (D:=[]) (by kernel_rfl) (by kernel_rfl) (by kernel_rfl) ?_ hS ?_ (fun w hS=>fin false w rfl hS _ _ _ _ _ _ _ _ _ _ _ _ _ _ _ _ _ _ _ _ _ _ _ _ _ _ _ _ _ _ _ _ _ _ _ _ _ _ _)
     case' true=>
      refine qfhu.wp_in (ds:=[5,6,7,8,9,10,11,12,13,14,15,16,17,18,19,20,21,22,23,24,25,26,27,28,29,30,31,32,33,34,35,36,37,38,39,40,41,42,43,4]) (B:=[(.int .i64 v),x1,x2,(.pointer (some ⟨B,0,none⟩)),(.bool true),(.int .i64 v),(.pointer (some ⟨B,0,none⟩)),(.int .i64 k),(.bool true),(.bool true),(.pointer (some ⟨B,4,none⟩)),(.int .i64 i),(.bool true),(.bool true),(.bool true),(.pointer (some ⟨B,4,none⟩)),(.int .i64 i),(.bool true),(.bool true),(.bool true),(.pointer (some ⟨B,23,none⟩)),(.slice af nf fc),(.int .i64 (nf:Nat)),(.bool true),(.bool true),undef,undef,undef,undef,(.bool true),(.bool true),undef,undef,undef,undef,(.bool true),(.bool true),(.bool true),(.agg C),(.int .i64 v),(.agg C),(.agg D),(.bool true),(.bool true)]) (D:=[]) (by kernel_rfl) (by kernel_rfl) (by kernel_rfl) ?_ hS ?_ (fun w hS=>fin true w rfl hS _ _ _ _ _ _ _ _ _ _ _ _ _ _ _ _ _ _ _ _ _ _ _ _ _ _ _ _ _ _ _ _ _ _ _ _ _ _ _)
 all_goals first
  | (
   refine qfhu.pu rfl rfl rfl rfl (fun w hS=>rfl) ?_
   refine qfhu.pu rfl rfl rfl rfl (fun w hS=>qd7q rfl) ?_
   refine qfhu.pu rfl rfl rfl rfl (fun w hS=>qkcv rfl (K0 w hS)) ?_
   refine qfhu.ca rfl rfl rfl rfl (fun w=>qpjl.enter2 Tryz.func35 rfl rfl rfl) H0 ?_
   refine qfhu.pu rfl rfl rfl rfl (fun w hS=>rfl) ?_
   first | refine qfhu.sk rfl rfl rfl rfl ?_ | refine qfhu.pu rfl rfl rfl rfl (fun w hS=>q43k rfl) ?_
   first | refine qfhu.sk rfl rfl rfl rfl ?_ | refine qfhu.pu rfl rfl rfl rfl (fun w hS=>qkcv rfl (K4 w hS)) ?_
   first | refine qfhu.sk rfl rfl rfl rfl ?_ | refine qfhu.pu rfl rfl rfl rfl (fun w hS=>qyhu rfl ed1) ?_
   refine qfhu.pu rfl rfl rfl rfl (fun w hS=>rfl) ?_
   refine qfhu.pu rfl rfl rfl rfl (fun w hS=>rfl) ?_
   first | refine qfhu.sk rfl rfl rfl rfl ?_ | refine qfhu.pu rfl rfl rfl rfl (fun w hS=>q43k rfl) ?_
   first | refine qfhu.sk rfl rfl rfl rfl ?_ | refine qfhu.pu rfl rfl rfl rfl (fun w hS=>qkcv rfl (K4 w hS)) ?_
   first | refine qfhu.sk rfl rfl rfl rfl ?_ | refine qfhu.pu rfl rfl rfl rfl (fun w hS=>qbhz rfl ed2) ?_
   refine qfhu.pu rfl rfl rfl rfl (fun w hS=>rfl) ?_
   refine qfhu.pu rfl rfl rfl rfl (fun w hS=>rfl) ?_
   first | refine qfhu.sk rfl rfl rfl rfl ?_ | refine qfhu.pu rfl rfl rfl rfl (fun w hS=>qvcr rfl) ?_
   first | refine qfhu.sk rfl rfl rfl rfl ?_ | refine qfhu.pu rfl rfl rfl rfl (fun w hS=>qdeq rfl (K23 w hS)) ?_
   first | refine qfhu.sk rfl rfl rfl rfl ?_ | refine qfhu.pu rfl rfl rfl rfl (fun w hS=>q73a rfl) ?_
   first | refine qfhu.sk rfl rfl rfl rfl ?_ | refine qfhu.pu rfl rfl rfl rfl (fun w hS=>qyhu rfl (qvpr ec0)) ?_
   first | refine qfhu.sk rfl rfl rfl rfl ?_ | refine qfhu.pu rfl rfl rfl rfl (fun w hS=>rfl) ?_
   first | refine qfhu.sk rfl rfl rfl rfl ?_ | refine qfhu.pu rfl rfl rfl rfl (fun w hS=>qxyk rfl) ?_
   first | refine qfhu.sk rfl rfl rfl rfl ?_ | refine qfhu.pu rfl rfl rfl rfl (fun w hS=>qag2 rfl (K22 w hS)) ?_
   first | refine qfhu.sk rfl rfl rfl rfl ?_ | refine qfhu.pu rfl rfl rfl rfl (fun w hS=>qki8 rfl) ?_
   first | refine qfhu.sk rfl rfl rfl rfl ?_ | refine qfhu.pu rfl rfl rfl rfl (fun w hS=>qyhu rfl (qvpr ec1)) ?_
   first | refine qfhu.sk rfl rfl rfl rfl ?_ | refine qfhu.pu rfl rfl rfl rfl (fun w hS=>rfl) ?_
   first | refine qfhu.sk rfl rfl rfl rfl ?_ | refine qfhu.pu rfl rfl rfl rfl (fun w hS=>rfl) ?_
   first | refine qfhu.sk rfl rfl rfl rfl ?_ | refine qfhu.pu rfl rfl rfl rfl (fun w hS=>rfl) ?_
   first | refine qfhu.sk rfl rfl rfl rfl ?_ | refine qfhu.pu rfl rfl rfl rfl (fun w hS=>qd7q rfl) ?_
   first | refine qfhu.sk rfl rfl rfl rfl ?_ | refine qfhu.pu rfl rfl rfl rfl (fun w hS=>qkcv rfl (K0 w hS)) ?_
   first | refine qfhu.sk rfl rfl rfl rfl ?_ | refine qfhu.ca rfl rfl rfl rfl (fun w=>qpjl.enter2 Tryz.func45 rfl rfl rfl) H1 ?_
   first | refine qfhu.sk rfl rfl rfl rfl ?_ | refine qfhu.pu rfl rfl rfl rfl (fun w hS=>rfl) ?_
   refine qfhu.pu rfl rfl rfl rfl (fun w hS=>rfl) ?_
   refine qfhu.pu rfl rfl rfl rfl (fun w hS=>rfl) ?_
   first | refine qfhu.sk rfl rfl rfl rfl ?_ | refine qfhu.pu rfl rfl rfl rfl (fun w hS=>qjuh rfl hC (KC w hS)) ?_
   first | refine qfhu.sk rfl rfl rfl rfl ?_ | refine qfhu.pu rfl rfl rfl rfl (fun w hS=>rfl) ?_
   first | refine qfhu.sk rfl rfl rfl rfl ?_ | refine qfhu.pu rfl rfl rfl rfl (fun w hS=>qjuh rfl hC (KC w hS)) ?_
   first | refine qfhu.sk rfl rfl rfl rfl ?_ | refine qfhu.ca rfl rfl rfl rfl (fun w=>qpjl.enter2 Tryz.func85 rfl rfl rfl) H2 ?_
   first | refine qfhu.sk rfl rfl rfl rfl ?_ | refine qfhu.ca rfl rfl rfl rfl (fun w=>qpjl.enter2 Tryz.func84 rfl rfl rfl) H3 ?_
   refine qfhu.pu rfl rfl rfl rfl (fun w hS=>rfl) ?_
   refine qfhu.pu rfl rfl rfl rfl (fun w hS=>rfl) ?_
   exact qfhu.All.fin rfl)
  | exact(by repeat (first | exact trivial | refine⟨.inr rfl,?_⟩ | refine⟨.inl rfl,?_⟩))
section
variable{a:Act}{w:World}{d:Option Tmp}{p:String}{af:Array Edge}{gd:Option (Nat×Bool)}{x y z:Tmp}{r:TypeId}
theorem qtsc{g:Nat}{C:Array Value}(hx:a.eval (.tmp x) = .pointer (some ⟨g,0,none⟩))(hs:C.size=25)(hg:w.heap[g]? = some (.cells C 29 (0,0))) :
 (execOp a.eval {dst:=d,op := .load 29 (.tmp x),type:=29,pos:=p,after:=af,guard:=gd}).run Tryz.prog w = .ok (.value (.agg C)) w:=by
 unfold execOp
 simp only[hx,Instr.loadAt,Instr.sureAddr,Sem.run_bind,Sem.run_pure,Result.andThen_ok,run_loadVar_row w g 29 29 C (0,0) _ hg Tryz.underlying29 rfl (by rw[hs];exact q5nr)]
theorem qb5w{g:Nat}(hx:a.eval (.tmp x) = .pointer (some ⟨g,0,none⟩)) :
 (execOp a.eval {dst:=d,op := .fieldAddr 29 (.tmp x) 18,type:=r,pos:=p,after:=af,guard:=gd}).run Tryz.prog w = .ok (.value (.pointer (some ⟨g,22,none⟩))) w:=by
 generalize a.eval=f at *
 go_simp
theorem qdvg{g:Nat}(hx:a.eval (.tmp x) = .pointer (some ⟨g,0,none⟩)) :
 (execOp a.eval {dst:=d,op := .fieldAddr 29 (.tmp x) 19,type:=r,pos:=p,after:=af,guard:=gd}).run Tryz.prog w = .ok (.value (.pointer (some ⟨g,23,none⟩))) w:=by
 generalize a.eval=f at *
 go_simp
theorem qmir{g:Nat}(hx:a.eval (.tmp x) = .pointer (some ⟨g,0,none⟩)) :
 (execOp a.eval {dst:=d,op := .fieldAddr 29 (.tmp x) 20,type:=r,pos:=p,after:=af,guard:=gd}).run Tryz.prog w = .ok (.value (.pointer (some ⟨g,24,none⟩))) w:=by
 generalize a.eval=f at *
 go_simp
theorem qa2v{g:Nat}(hx:a.eval (.tmp x) = .pointer (some ⟨g,0,none⟩)) :
 (execOp a.eval {dst:=d,op := .fieldAddr 29 (.tmp x) 15,type:=r,pos:=p,after:=af,guard:=gd}).run Tryz.prog w = .ok (.value (.pointer (some ⟨g,15,none⟩))) w:=by
 generalize a.eval=f at *
 go_simp
theorem q4lz{g:Nat}(hx:a.eval (.tmp x) = .pointer (some ⟨g,15,none⟩)) :
 (execOp a.eval {dst:=d,op := .fieldAddr 25 (.tmp x) 4,type:=r,pos:=p,after:=af,guard:=gd}).run Tryz.prog w = .ok (.value (.pointer (some ⟨g,19,none⟩))) w:=by
 generalize a.eval=f at *
 go_simp
theorem qajx{g j n c:Nat}{A:Option Addr}(hx:a.eval (.tmp x) = .pointer (some ⟨g,j,none⟩))(hc:w.cell? ⟨g,j,none⟩=some (.slice A n c)) :
 (execOp a.eval {dst:=d,op := .load 26 (.tmp x),type:=26,pos:=p,after:=af,guard:=gd}).run Tryz.prog w = .ok (.value (.slice A n c)) w:=by
 generalize a.eval=f at *
 go_simp
theorem q352{g j n c:Nat}{A:Option Addr}(hx:a.eval (.tmp x) = .pointer (some ⟨g,j,none⟩))(hc:w.cell? ⟨g,j,none⟩=some (.slice A n c)) :
 (execOp a.eval {dst:=d,op := .load 27 (.tmp x),type:=27,pos:=p,after:=af,guard:=gd}).run Tryz.prog w = .ok (.value (.slice A n c)) w:=by
 generalize a.eval=f at *
 go_simp
theorem qms8{g j n c:Nat}{A:Option Addr}(hx:a.eval (.tmp x) = .pointer (some ⟨g,j,none⟩))(hc:w.cell? ⟨g,j,none⟩=some (.slice A n c)) :
 (execOp a.eval {dst:=d,op := .load 23 (.tmp x),type:=23,pos:=p,after:=af,guard:=gd}).run Tryz.prog w = .ok (.value (.slice A n c)) w:=by
 generalize a.eval=f at *
 go_simp
theorem q3lh{p' q':Pk}{b:Bool}(hx:a.eval (.tmp x) = .agg (q3zb p'))(hy:a.eval (.tmp y) = .agg (q3zb q'))(hb:decide (p'.nums=q'.nums)=b) :
 (execOp a.eval {dst:=d,op := .binOp .eql 140 (.tmp x) (.tmp y) 140,type:=r,pos:=p,after:=af,guard:=gd}).run Tryz.prog w = .ok (.value (.bool b)) w:=by
 subst hb
 unfold execOp
 simp only[hx,hy,Sem.run_bind,run_eqGuard_agg w .eql 140 (.tmp x) (.tmp y) _ _ (show Tryz.prog.eqGuardType Tryz.prog.depth 140=false by kernel_rfl),Result.andThen_ok,qh1o p' q' w,Sem.run_pure]
theorem qtwp8{p' q':Pk}{b:Bool}(hx:a.eval (.tmp x) = .agg (qjjk p'))(hy:a.eval (.tmp y) = .agg (qjjk q'))(hb:decide (p'.marks=q'.marks)=b) :
 (execOp a.eval {dst:=d,op := .binOp .eql 142 (.tmp x) (.tmp y) 142,type:=r,pos:=p,after:=af,guard:=gd}).run Tryz.prog w = .ok (.value (.bool b)) w:=by
 subst hb
 unfold execOp
 simp only[hx,hy,Sem.run_bind,run_eqGuard_agg w .eql 142 (.tmp x) (.tmp y) _ _ (show Tryz.prog.eqGuardType Tryz.prog.depth 142=false by kernel_rfl),Result.andThen_ok,quaf p' q' w,Sem.run_pure]
theorem qpii{p' q':Pk}{b:Bool}(hx:a.eval (.tmp x) = .agg (q5cx p'))(hy:a.eval (.tmp y) = .agg (q5cx q'))(hb:decide (p'.texts=q'.texts)=b) :
 (execOp a.eval {dst:=d,op := .binOp .eql 144 (.tmp x) (.tmp y) 144,type:=r,pos:=p,after:=af,guard:=gd}).run Tryz.prog w = .ok (.value (.bool b)) w:=by
 subst hb
 unfold execOp
 simp only[hx,hy,Sem.run_bind,run_eqGuard_agg w .eql 144 (.tmp x) (.tmp y) _ _ (show Tryz.prog.eqGuardType Tryz.prog.depth 144=false by kernel_rfl),Result.andThen_ok,q6p1 p' q' w,Sem.run_pure]
end
theorem qw00{Q:Exit→Act→World→Prop}{S:World→Prop}{W:World}{p q:Pk}{a b:Ad}{C E:Array Value}{B:Nat}{x5 x6 x7 x8 x9 x10 x11 x12 x13 x14 x15 x16 x17 x18 x19 x20 x21 x22 x23 x24 x25 x26 x27 x28 x29 x30 x31 x32 x33 x34 x35 x36 x37 x38 x39 x40 x41 x42 x43 x44 x45 x46 x47 x48 x49 x50 x51 x52 x53:Value}
 (hS:S W.drew) (hC:C.size=25) (hE:E.size=25) (hS1:∀w,S w→w.heap[B]? = some (.cells C 29 (0,0))) (hS2:∀w,S w→w.heap[B+1]? = some (.cells E 29 (0,0)))
 (N0p:∀w,S w→Calls Tryz.prog 118 #[.agg C] w fun e w'=>e = .returned (.agg (q3zb p))∧S w')
 (N0q:∀w,S w→Calls Tryz.prog 118 #[.agg E] w fun e w'=>e = .returned (.agg (q3zb q))∧S w')
 (N1p:∀w,S w→Calls Tryz.prog 119 #[.agg C] w fun e w'=>e = .returned (.agg (qjjk p))∧S w')
 (N1q:∀w,S w→Calls Tryz.prog 119 #[.agg E] w fun e w'=>e = .returned (.agg (qjjk q))∧S w')
 (N2p:∀w,S w→Calls Tryz.prog 120 #[.agg C] w fun e w'=>e = .returned (.agg (q5cx p))∧S w')
 (N2q:∀w,S w→Calls Tryz.prog 120 #[.agg E] w fun e w'=>e = .returned (.agg (q5cx q))∧S w')
 (hp22:∀w,S w→w.cell? ⟨B,22,none⟩=some (.slice a.cs p.codes.length a.cc))
 (hq22:∀w,S w→w.cell? ⟨B+1,22,none⟩=some (.slice b.cs q.codes.length b.cc))
 (F3:∀w,S w→Calls Tryz.prog 121 #[(.slice a.cs p.codes.length a.cc),(.slice b.cs q.codes.length b.cc),.func (.func 122) #[] #[]] w fun e w'=>e = .returned (.bool (decide (p.codes=q.codes)))∧S w')
 (hp23:∀w,S w→w.cell? ⟨B,23,none⟩=some (.slice a.fs p.filters.length a.fc))
 (hq23:∀w,S w→w.cell? ⟨B+1,23,none⟩=some (.slice b.fs q.filters.length b.fc))
 (F4:∀w,S w→Calls Tryz.prog 123 #[(.slice a.fs p.filters.length a.fc),(.slice b.fs q.filters.length b.fc),.func (.func 124) #[] #[]] w fun e w'=>e = .returned (.bool (decide (p.filters=q.filters)))∧S w')
 (hp24:∀w,S w→w.cell? ⟨B,24,none⟩=some (.slice a.ps p.props.length a.pc))
 (hq24:∀w,S w→w.cell? ⟨B+1,24,none⟩=some (.slice b.ps q.props.length b.pc))
 (F5:∀w,S w→Calls Tryz.prog 125 #[(.slice a.ps p.props.length a.pc),(.slice b.ps q.props.length b.pc),.func (.func 126) #[] #[]] w fun e w'=>e = .returned (.bool (decide (p.props=q.props)))∧S w')
 (hp19:∀w,S w→w.cell? ⟨B,19,none⟩=some (.slice a.w p.wProps.length a.wc))
 (hq19:∀w,S w→w.cell? ⟨B+1,19,none⟩=some (.slice b.w q.wProps.length b.wc))
 (F6:∀w,S w→Calls Tryz.prog 125 #[(.slice a.w p.wProps.length a.wc),(.slice b.w q.wProps.length b.wc),.func (.func 126) #[] #[]] w fun e w'=>e = .returned (.bool (decide (p.wProps=q.wProps)))∧S w')
 (fin:∀(r:Bool) (w:World),(decide (p.nums=q.nums)&&decide (p.marks=q.marks)&&decide (p.texts=q.texts)&&decide (p.codes=q.codes)&&decide (p.filters=q.filters)&&decide (p.props=q.props)&&decide (p.wProps=q.wProps))=r→S w→∀x5 x6 x7 x8 x9 x10 x11 x12 x13 x14 x15 x16 x17 x18 x19 x20 x21 x22 x23 x24 x25 x26 x27 x28 x29 x30 x31 x32 x33 x34 x35 x36 x37 x38 x39 x40 x41 x42 x43 x44 x45 x46 x47 x48 x49 x50 x51 x52 x53,Q .normal ⟨#[(.agg C),(.agg E),(.pointer (some ⟨B,0,none⟩)),(.pointer (some ⟨B+1,0,none⟩)),(.bool r),x5,x6,x7,x8,x9,x10,x11,x12,x13,x14,x15,x16,x17,x18,x19,x20,x21,x22,x23,x24,x25,x26,x27,x28,x29,x30,x31,x32,x33,x34,x35,x36,x37,x38,x39,x40,x41,x42,x43,x44,x45,x46,x47,x48,x49,x50,x51,x52,x53],[]⟩ w) :
 (Code.region 1 (qfhu.opsAt 1 Tryz.f84.body) true).wp Tryz.prog Q ⟨#[(.agg C),(.agg E),(.pointer (some ⟨B,0,none⟩)),(.pointer (some ⟨B+1,0,none⟩)),(.bool false),x5,x6,x7,x8,x9,x10,x11,x12,x13,x14,x15,x16,x17,x18,x19,x20,x21,x22,x23,x24,x25,x26,x27,x28,x29,x30,x31,x32,x33,x34,x35,x36,x37,x38,x39,x40,x41,x42,x43,x44,x45,x46,x47,x48,x49,x50,x51,x52,x53],[]⟩ W:=by
 obtain⟨d0,h0⟩:∃d,decide (p.nums=q.nums)=d:=⟨_,rfl⟩
 obtain⟨d1,h1⟩:∃d,decide (p.marks=q.marks)=d:=⟨_,rfl⟩
 obtain⟨d2,h2⟩:∃d,decide (p.texts=q.texts)=d:=⟨_,rfl⟩
 obtain⟨d3,h3⟩:∃d,decide (p.codes=q.codes)=d:=⟨_,rfl⟩
 obtain⟨d4,h4⟩:∃d,decide (p.filters=q.filters)=d:=⟨_,rfl⟩
 obtain⟨d5,h5⟩:∃d,decide (p.props=q.props)=d:=⟨_,rfl⟩
 obtain⟨d6,h6⟩:∃d,decide (p.wProps=q.wProps)=d:=⟨_,rfl⟩
 rw[h0,h1,h2,h3,h4,h5,h6] at fin
 rw[h3] at F3
 rw[h4] at F4
 rw[h5] at F5
 rw[h6] at F6
 cases d0
 case' false=>refine qfhu.wp_in (ds:=[5,6,7,8,9,10,11,12,13,14,15,16,17,18,19,20,21,22,23,24,25,26,27,28,29,30,31,32,33,34,35,36,37,38,39,40,41,42,43,44,45,46,47,48,49,50,51,52,53,4]) (B:=[(.agg C),(.agg E),(.pointer (some ⟨B,0,none⟩)),(.pointer (some ⟨B+1,0,none⟩)),(.bool false),(.agg C),(.agg (q3zb p)),(.agg E),(.agg (q3zb q)),(.bool false),(.bool false),undef,undef,undef,undef,undef,(.bool false),(.bool false),undef,undef,undef,undef,undef,(.bool false),(.bool false),undef,undef,undef,undef,undef,(.bool false),(.bool false),undef,undef,undef,undef,undef,(.bool false),(.bool false),undef,undef,undef,undef,undef,(.bool false),(.bool false),undef,undef,undef,undef,undef,undef,undef,(.bool false)]) (D:=[]) (by kernel_rfl) (by kernel_rfl) (by kernel_rfl) ?_ hS ?_ (fun w h=>by apply fin<;>first | rfl | exact h)
 case' true=>
  cases d1
  case' false=>refine qfhu.wp_in (ds:=[5,6,7,8,9,10,11,12,13,14,15,16,17,18,19,20,21,22,23,24,25,26,27,28,29,30,31,32,33,34,35,36,37,38,39,40,41,42,43,44,45,46,47,48,49,50,51,52,53,4]) (B:=[(.agg C),(.agg E),(.pointer (some ⟨B,0,none⟩)),(.pointer (some ⟨B+1,0,none⟩)),(.bool false),(.agg C),(.agg (q3zb p)),(.agg E),(.agg (q3zb q)),(.bool true),(.bool true),(.agg C),(.agg (qjjk p)),(.agg E),(.agg (qjjk q)),(.bool false),(.bool false),(.bool false),undef,undef,undef,undef,undef,(.bool false),(.bool false),undef,undef,undef,undef,undef,(.bool false),(.bool false),undef,undef,undef,undef,undef,(.bool false),(.bool false),undef,undef,undef,undef,undef,(.bool false),(.bool false),undef,undef,undef,undef,undef,undef,undef,(.bool false)]) (D:=[]) (by kernel_rfl) (by kernel_rfl) (by kernel_rfl) ?_ hS ?_ (fun w h=>by apply fin<;>first | rfl | exact h)
  case' true=>
   cases d2
   case' false=>refine qfhu.wp_in (ds:=[5,6,7,8,9,10,11,12,13,14,15,16,17,18,19,20,21,22,23,24,25,26,27,28,29,30,31,32,33,34,35,36,37,38,39,40,41,42,43,44,45,46,47,48,49,50,51,52,53,4]) (B:=[(.agg C),(.agg E),(.pointer (some ⟨B,0,none⟩)),(.pointer (some ⟨B+1,0,none⟩)),(.bool false),(.agg C),(.agg (q3zb p)),(.agg E),(.agg (q3zb q)),(.bool true),(.bool true),(.agg C),(.agg (qjjk p)),(.agg E),(.agg (qjjk q)),(.bool true),(.bool true),(.bool true),(.agg C),(.agg (q5cx p)),(.agg E),(.agg (q5cx q)),(.bool false),(.bool false),(.bool false),undef,undef,undef,undef,undef,(.bool false),(.bool false),undef,undef,undef,undef,undef,(.bool false),(.bool false),undef,undef,undef,undef,undef,(.bool false),(.bool false),undef,undef,undef,undef,undef,undef,undef,(.bool false)]) (D:=[]) (by kernel_rfl) (by kernel_rfl) (by kernel_rfl) ?_ hS ?_ (fun w h=>by apply fin<;>first | rfl | exact h)
   case' true=>
    cases d3
    case' false=>refine qfhu.wp_in (ds:=[5,6,7,8,9,10,11,12,13,14,15,16,17,18,19,20,21,22,23,24,25,26,27,28,29,30,31,32,33,34,35,36,37,38,39,40,41,42,43,44,45,46,47,48,49,50,51,52,53,4]) (B:=[(.agg C),(.agg E),(.pointer (some ⟨B,0,none⟩)),(.pointer (some ⟨B+1,0,none⟩)),(.bool false),(.agg C),(.agg (q3zb p)),(.agg E),(.agg (q3zb q)),(.bool true),(.bool true),(.agg C),(.agg (qjjk p)),(.agg E),(.agg (qjjk q)),(.bool true),(.bool true),(.bool true),(.agg C),(.agg (q5cx p)),(.agg E),(.agg (q5cx q)),(.bool true),(.bool true),(.bool true),(.pointer (some ⟨B,22,none⟩)),(.slice a.cs p.codes.length a.cc),(.pointer (some ⟨B+1,22,none⟩)),(.slice b.cs q.codes.length b.cc),(.bool false),(.bool false),(.bool false),undef,undef,undef,undef,undef,(.bool false),(.bool false),undef,undef,undef,undef,undef,(.bool false),(.bool false),undef,undef,undef,undef,undef,undef,undef,(.bool false)]) (D:=[]) (by kernel_rfl) (by kernel_rfl) (by kernel_rfl) ?_ hS ?_ (fun w h=>by apply fin<;>first | rfl | exact h)
    case' true=>
     cases d4
     case' false=>refine qfhu.wp_in (ds:=[5,6,7,8,9,10,11,12,13,14,15,16,17,18,19,20,21,22,23,24,25,26,27,28,29,30,31,32,33,34,35,36,37,38,39,40,41,42,43,44,45,46,47,48,49,50,51,52,53,4]) (B:=[(.agg C),(.agg E),(.pointer (some ⟨B,0,none⟩)),(.pointer (some ⟨B+1,0,none⟩)),(.bool false),(.agg C),(.agg (q3zb p)),(.agg E),(.agg (q3zb q)),(.bool true),(.bool true),(.agg C),(.agg (qjjk p)),(.agg E),(.agg (qjjk q)),(.bool true),(.bool true),(.bool true),(.agg C),(.agg (q5cx p)),(.agg E),(.agg (q5cx q)),(.bool true),(.bool true),(.bool true),(.pointer (some ⟨B,22,none⟩)),(.slice a.cs p.codes.length a.cc),(.pointer (some ⟨B+1,22,none⟩)),(.slice b.cs q.codes.length b.cc),(.bool true),(.bool true),(.bool true),(.pointer (some ⟨B,23,none⟩)),(.slice a.fs p.filters.length a.fc),(.pointer (some ⟨B+1,23,none⟩)),(.slice b.fs q.filters.length b.fc),(.bool false),(.bool false),(.bool false),undef,undef,undef,undef,undef,(.bool false),(.bool false),undef,undef,undef,undef,undef,undef,undef,(.bool false)]) (D:=[]) (by kernel_rfl) (by kernel_rfl) (by kernel_rfl) ?_ hS ?_ (fun w h=>by apply fin<;>first | rfl | exact h)
     case' true=>
      cases d5
      case' false=>refine qfhu.wp_in (ds:=[5,6,7,8,9,10,11,12,13,14,15,16,17,18,19,20,21,22,23,24,25,26,27,28,29,30,31,32,33,34,35,36,37,38,39,40,41,42,43,44,45,46,47,48,49,50,51,52,53,4]) (B:=[(.agg C),(.agg E),(.pointer (some ⟨B,0,none⟩)),(.pointer (some ⟨B+1,0,none⟩)),(.bool false),(.agg C),(.agg (q3zb p)),(.agg E),(.agg (q3zb q)),(.bool true),(.bool true),(.agg C),(.agg (qjjk p)),(.agg E),(.agg (qjjk q)),(.bool true),(.bool true),(.bool true),(.agg C),(.agg (q5cx p)),(.agg E),(.agg (q5cx q)),(.bool true),(.bool true),(.bool true),(.pointer (some ⟨B,22,none⟩)),(.slice a.cs p.codes.length a.cc),(.pointer (some ⟨B+1,22,none⟩)),(.slice b.cs q.codes.length b.cc),(.bool true),(.bool true),(.bool true),(.pointer (some ⟨B,23,none⟩)),(.slice a.fs p.filters.length a.fc),(.pointer (some ⟨B+1,23,none⟩)),(.slice b.fs q.filters.length b.fc),(.bool true),(.bool true),(.bool true),(.pointer (some ⟨B,24,none⟩)),(.slice a.ps p.props.length a.pc),(.pointer (some ⟨B+1,24,none⟩)),(.slice b.ps q.props.length b.pc),(.bool false),(.bool false),(.bool false),undef,undef,undef,undef,undef,undef,undef,(.bool false)]) (D:=[]) (by kernel_rfl) (by kernel_rfl) (by kernel_rfl) ?_ hS ?_ (fun w h=>by apply fin<;>first | rfl | exact h)
      case' true=>
       cases d6
       case' false=>refine qfhu.wp_in (ds:=[5,6,7,8,9,10,11,12,13,14,15,16,17,18,19,20,21,22,23,24,25,26,27,28,29,30,31,32,33,34,35,36,37,38,39,40,41,42,43,44,45,46,47,48,49,50,51,52,53,4]) (B:=[(.agg C),(.agg E),(.pointer (some ⟨B,0,none⟩)),(.pointer (some ⟨B+1,0,none⟩)),(.bool false),(.agg C),(.agg (q3zb p)),(.agg E),(.agg (q3zb q)),(.bool true),(.bool true),(.agg C),(.agg (qjjk p)),(.agg E),(.agg (qjjk q)),(.bool true),(.bool true),(.bool true),(.agg C),(.agg (q5cx p)),(.agg E),(.agg (q5cx q)),(.bool true),(.bool true),(.bool true),(.pointer (some ⟨B,22,none⟩)),(.slice a.cs p.codes.length a.cc),(.pointer (some ⟨B+1,22,none⟩)),(.slice b.cs q.codes.length b.cc),(.bool true),(.bool true),(.bool true),(.pointer (some ⟨B,23,none⟩)),(.slice a.fs p.filters.length a.fc),(.pointer (some ⟨B+1,23,none⟩)),(.slice b.fs q.filters.length b.fc),(.bool true),(.bool true),(.bool true),(.pointer (some ⟨B,24,none⟩)),(.slice a.ps p.props.length a.pc),(.pointer (some ⟨B+1,24,none⟩)),(.slice b.ps q.props.length b.pc),(.bool true),(.bool true),(.bool true),(.pointer (some ⟨B,15,none⟩)),(.pointer (some ⟨B,19,none⟩)),(.slice a.w p.wProps.length a.wc),(.pointer (some ⟨B+1,15,none⟩)),(.pointer (some ⟨B+1,19,none⟩)),(.slice b.w q.wProps.length b.wc),(.bool false),(.bool false)]) (D:=[]) (by kernel_rfl) (by kernel_rfl) (by kernel_rfl) ?_ hS ?_ (fun w h=>by apply fin<;>first | rfl | exact h)
       case' true=>
        refine qfhu.wp_in (ds:=[5,6,7,8,9,10,11,12,13,14,15,16,17,18,19,20,21,22,23,24,25,26,27,28,29,30,31,32,33,34,35,36,37,38,39,40,41,42,43,44,45,46,47,48,49,50,51,52,53,4]) (B:=[(.agg C),(.agg E),(.pointer (some ⟨B,0,none⟩)),(.pointer (some ⟨B+1,0,none⟩)),(.bool true),(.agg C),(.agg (q3zb p)),(.agg E),(.agg (q3zb q)),(.bool true),(.bool true),(.agg C),(.agg (qjjk p)),(.agg E),(.agg (qjjk q)),(.bool true),(.bool true),(.bool true),(.agg C),(.agg (q5cx p)),(.agg E),(.agg (q5cx q)),(.bool true),(.bool true),(.bool true),(.pointer (some ⟨B,22,none⟩)),(.slice a.cs p.codes.length a.cc),(.pointer (some ⟨B+1,22,none⟩)),(.slice b.cs q.codes.length b.cc),(.bool true),(.bool true),(.bool true),(.pointer (some ⟨B,23,none⟩)),(.slice a.fs p.filters.length a.fc),(.pointer (some ⟨B+1,23,none⟩)),(.slice b.fs q.filters.length b.fc),(.bool true),(.bool true),(.bool true),(.pointer (some ⟨B,24,none⟩)),(.slice a.ps p.props.length a.pc),(.pointer (some ⟨B+1,24,none⟩)),(.slice b.ps q.props.length b.pc),(.bool true),(.bool true),(.bool true),(.pointer (some ⟨B,15,none⟩)),(.pointer (some ⟨B,19,none⟩)),(.slice a.w p.wProps.length a.wc),(.pointer (some ⟨B+1,15,none⟩)),(.pointer (some ⟨B+1,19,none⟩)),(.slice b.w q.wProps.length b.wc),(.bool true),(.bool true)]) (D:=[]) (by kernel_rfl) (by kernel_rfl) (by kernel_rfl) ?_ hS ?_ (fun w h=>by apply fin<;>first | rfl | exact h)
 all_goals first
  | (
   first | refine qfhu.sk rfl rfl rfl rfl ?_ | refine qfhu.pu rfl rfl rfl rfl (fun w hS=>qtsc rfl hC (hS1 w hS)) ?_
   first | refine qfhu.sk rfl rfl rfl rfl ?_ | refine qfhu.ca rfl rfl rfl rfl (fun w=>qpjl.enter1 Tryz.func118 rfl rfl) N0p ?_
   first | refine qfhu.sk rfl rfl rfl rfl ?_ | refine qfhu.pu rfl rfl rfl rfl (fun w hS=>qtsc rfl hE (hS2 w hS)) ?_
   first | refine qfhu.sk rfl rfl rfl rfl ?_ | refine qfhu.ca rfl rfl rfl rfl (fun w=>qpjl.enter1 Tryz.func118 rfl rfl) N0q ?_
   first | refine qfhu.sk rfl rfl rfl rfl ?_ | refine qfhu.pu rfl rfl rfl rfl (fun w hS=>q3lh rfl rfl h0) ?_
   first | refine qfhu.sk rfl rfl rfl rfl ?_ | refine qfhu.pu rfl rfl rfl rfl (fun w hS=>rfl) ?_
   first | refine qfhu.sk rfl rfl rfl rfl ?_ | refine qfhu.pu rfl rfl rfl rfl (fun w hS=>qtsc rfl hC (hS1 w hS)) ?_
   first | refine qfhu.sk rfl rfl rfl rfl ?_ | refine qfhu.ca rfl rfl rfl rfl (fun w=>qpjl.enter1 Tryz.func119 rfl rfl) N1p ?_
   first | refine qfhu.sk rfl rfl rfl rfl ?_ | refine qfhu.pu rfl rfl rfl rfl (fun w hS=>qtsc rfl hE (hS2 w hS)) ?_
   first | refine qfhu.sk rfl rfl rfl rfl ?_ | refine qfhu.ca rfl rfl rfl rfl (fun w=>qpjl.enter1 Tryz.func119 rfl rfl) N1q ?_
   first | refine qfhu.sk rfl rfl rfl rfl ?_ | refine qfhu.pu rfl rfl rfl rfl (fun w hS=>qtwp8 rfl rfl h1) ?_
   first | refine qfhu.sk rfl rfl rfl rfl ?_ | refine qfhu.pu rfl rfl rfl rfl (fun w hS=>rfl) ?_
   first | refine qfhu.sk rfl rfl rfl rfl ?_ | refine qfhu.pu rfl rfl rfl rfl (fun w hS=>rfl) ?_
   first | refine qfhu.sk rfl rfl rfl rfl ?_ | refine qfhu.pu rfl rfl rfl rfl (fun w hS=>qtsc rfl hC (hS1 w hS)) ?_
   first | refine qfhu.sk rfl rfl rfl rfl ?_ | refine qfhu.ca rfl rfl rfl rfl (fun w=>qpjl.enter1 Tryz.func120 rfl rfl) N2p ?_
   first | refine qfhu.sk rfl rfl rfl rfl ?_ | refine qfhu.pu rfl rfl rfl rfl (fun w hS=>qtsc rfl hE (hS2 w hS)) ?_
   first | refine qfhu.sk rfl rfl rfl rfl ?_ | refine qfhu.ca rfl rfl rfl rfl (fun w=>qpjl.enter1 Tryz.func120 rfl rfl) N2q ?_
   first | refine qfhu.sk rfl rfl rfl rfl ?_ | refine qfhu.pu rfl rfl rfl rfl (fun w hS=>qpii rfl rfl h2) ?_
   first | refine qfhu.sk rfl rfl rfl rfl ?_ | refine qfhu.pu rfl rfl rfl rfl (fun w hS=>rfl) ?_
   first | refine qfhu.sk rfl rfl rfl rfl ?_ | refine qfhu.pu rfl rfl rfl rfl (fun w hS=>rfl) ?_
   first | refine qfhu.sk rfl rfl rfl rfl ?_ | refine qfhu.pu rfl rfl rfl rfl (fun w hS=>qb5w rfl) ?_
   first | refine qfhu.sk rfl rfl rfl rfl ?_ | refine qfhu.pu rfl rfl rfl rfl (fun w hS=>qajx rfl (hp22 w hS)) ?_
   first | refine qfhu.sk rfl rfl rfl rfl ?_ | refine qfhu.pu rfl rfl rfl rfl (fun w hS=>qb5w rfl) ?_
   first | refine qfhu.sk rfl rfl rfl rfl ?_ | refine qfhu.pu rfl rfl rfl rfl (fun w hS=>qajx rfl (hq22 w hS)) ?_
   first | refine qfhu.sk rfl rfl rfl rfl ?_ | refine qfhu.ca rfl rfl rfl rfl (fun w=>qpjl.enter3 Tryz.func121 rfl rfl rfl rfl) F3 ?_
   first | refine qfhu.sk rfl rfl rfl rfl ?_ | refine qfhu.pu rfl rfl rfl rfl (fun w hS=>rfl) ?_
   first | refine qfhu.sk rfl rfl rfl rfl ?_ | refine qfhu.pu rfl rfl rfl rfl (fun w hS=>rfl) ?_
   first | refine qfhu.sk rfl rfl rfl rfl ?_ | refine qfhu.pu rfl rfl rfl rfl (fun w hS=>qdvg rfl) ?_
   first | refine qfhu.sk rfl rfl rfl rfl ?_ | refine qfhu.pu rfl rfl rfl rfl (fun w hS=>q352 rfl (hp23 w hS)) ?_
   first | refine qfhu.sk rfl rfl rfl rfl ?_ | refine qfhu.pu rfl rfl rfl rfl (fun w hS=>qdvg rfl) ?_
   first | refine qfhu.sk rfl rfl rfl rfl ?_ | refine qfhu.pu rfl rfl rfl rfl (fun w hS=>q352 rfl (hq23 w hS)) ?_
   first | refine qfhu.sk rfl rfl rfl rfl ?_ | refine qfhu.ca rfl rfl rfl rfl (fun w=>qpjl.enter3 Tryz.func123 rfl rfl rfl rfl) F4 ?_
   first | refine qfhu.sk rfl rfl rfl rfl ?_ | refine qfhu.pu rfl rfl rfl rfl (fun w hS=>rfl) ?_
   first | refine qfhu.sk rfl rfl rfl rfl ?_ | refine qfhu.pu rfl rfl rfl rfl (fun w hS=>rfl) ?_
   first | refine qfhu.sk rfl rfl rfl rfl ?_ | refine qfhu.pu rfl rfl rfl rfl (fun w hS=>qmir rfl) ?_
   first | refine qfhu.sk rfl rfl rfl rfl ?_ | refine qfhu.pu rfl rfl rfl rfl (fun w hS=>qms8 rfl (hp24 w hS)) ?_
   first | refine qfhu.sk rfl rfl rfl rfl ?_ | refine qfhu.pu rfl rfl rfl rfl (fun w hS=>qmir rfl) ?_
   first | refine qfhu.sk rfl rfl rfl rfl ?_ | refine qfhu.pu rfl rfl rfl rfl (fun w hS=>qms8 rfl (hq24 w hS)) ?_
   first | refine qfhu.sk rfl rfl rfl rfl ?_ | refine qfhu.ca rfl rfl rfl rfl (fun w=>qpjl.enter3 Tryz.func125 rfl rfl rfl rfl) F5 ?_
   first | refine qfhu.sk rfl rfl rfl rfl ?_ | refine qfhu.pu rfl rfl rfl rfl (fun w hS=>rfl) ?_
   first | refine qfhu.sk rfl rfl rfl rfl ?_ | refine qfhu.pu rfl rfl rfl rfl (fun w hS=>rfl) ?_
   first | refine qfhu.sk rfl rfl rfl rfl ?_ | refine qfhu.pu rfl rfl rfl rfl (fun w hS=>qa2v rfl) ?_
   first | refine qfhu.sk rfl rfl rfl rfl ?_ | refine qfhu.pu rfl rfl rfl rfl (fun w hS=>q4lz rfl) ?_
   first | refine qfhu.sk rfl rfl rfl rfl ?_ | refine qfhu.pu rfl rfl rfl rfl (fun w hS=>qms8 rfl (hp19 w hS)) ?_
   first | refine qfhu.sk rfl rfl rfl rfl ?_ | refine qfhu.pu rfl rfl rfl rfl (fun w hS=>qa2v rfl) ?_
   first | refine qfhu.sk rfl rfl rfl rfl ?_ | refine qfhu.pu rfl rfl rfl rfl (fun w hS=>q4lz rfl) ?_
   first | refine qfhu.sk rfl rfl rfl rfl ?_ | refine qfhu.pu rfl rfl rfl rfl (fun w hS=>qms8 rfl (hq19 w hS)) ?_
   first | refine qfhu.sk rfl rfl rfl rfl ?_ | refine qfhu.ca rfl rfl rfl rfl (fun w=>qpjl.enter3 Tryz.func125 rfl rfl rfl rfl) F6 ?_
   first | refine qfhu.sk rfl rfl rfl rfl ?_ | refine qfhu.pu rfl rfl rfl rfl (fun w hS=>rfl) ?_
   first | refine qfhu.sk rfl rfl rfl rfl ?_ | refine qfhu.pu rfl rfl rfl rfl (fun w hS=>rfl) ?_
   exact qfhu.All.fin rfl)
  | exact(by repeat (first | exact trivial | refine⟨.inr rfl,?_⟩ | refine⟨.inl rfl,?_⟩))
end Go.Proofs.YtbecggefmbpnoaaGreatDoor
