/- A buffer of bytes: a slice of one's own, at whatever place of its block, with whatever capacity. No condition. -/
import Derived.Deep.Upon
import Derived.Test.YtefmhbioggcfaaaGreatDoorK20
namespace Go.Proofs.YtefmhbioggcfaaaGreatDoor
open Proofs.Tryz
open Go.RowKit
def Buf(W:World)(kv:Value)(K:List UInt8):Prop:=
 ∃(A:Option Addr) (c:Nat),kv=.slice A K.length c/\K.length<=c/\(c=0\/∃b o,A=some ⟨b,o,none⟩/\(∀j,j<c->(W.cell? ⟨b,o+j,none⟩).isSome=true/\W.frozen? ⟨b,o+j,none⟩=false)/\∀j x,K[j]?=some x->W.cell? ⟨b,o+j,none⟩=some (u8v x))
section
variable{W W':World}{kv:Value}{K:List UInt8}
theorem Buf.empty(W:World):Buf W (.slice none 0 0) []:=⟨_,0,rfl,Nat.le_refl _,.inl rfl⟩
theorem Buf.moved(h:Buf W kv K)(hb:∀b,kv.ownBlock=some b->b<W.heap.size->W'.heap[b]?=W.heap[b]?):Buf W' kv K:=by
 obtain⟨A,c,rfl,hc,h|⟨b,o,rfl,h1,h2⟩⟩:=h
 ·exact⟨A,c,rfl,hc,.inl h⟩
 ·by_cases h0:c=0
  ·exact⟨_,c,rfl,hc,.inl h0⟩
  ·obtain⟨v,hv⟩:=Option.isSome_iff_exists.1 (h1 0 (by omega)).1;have hlt:b<W.heap.size:=World.block_lt_of_cell? W _ hv;have e:=hb b rfl hlt;refine⟨_,c,rfl,hc,.inr ⟨b,o,rfl,fun j hj=>?_,fun j x hx=>?_⟩⟩
   ·rw[World.cell?_of_block (a:=⟨b,o+j,none⟩) e,World.frozen?_of_block (a:=⟨b,o+j,none⟩) e];exact h1 j hj
   ·rw[World.cell?_of_block (a:=⟨b,o+j,none⟩) e];exact h2 j x hx
theorem Buf.below(h:Buf W kv K)(hb:Below W.heap.size W W'):Buf W' kv K:=h.moved fun b _ hl=>hb.block b hl
theorem Buf.drop(h:Buf W kv K){n:Nat}(hn:n<=K.length):∃A c,kv=.slice A K.length c/\K.length<=c/\Buf W (sliced A n K.length c 1) (K.drop n)/\((sliced A n K.length c 1).ownBlock=kv.ownBlock):=by
 obtain⟨A,c,rfl,hc,h⟩:=h;refine⟨A,c,rfl,hc,?_,?_⟩
 ·refine⟨_,c-n,by unfold sliced;rw[List.length_drop],by rw[List.length_drop];omega,?_⟩;by_cases h0:c-n=0
  ·exact .inl h0
  ·rcases h with h|⟨b,o,rfl,h1,h2⟩
   ·omega
   ·refine .inr ⟨b,o+n,?_,fun j hj=>?_,fun j x hx=>?_⟩
    ·rw[if_neg (by omega)];simp[Addr.add_lit]
    ·rw[Nat.add_assoc];exact h1 (n+j) (by omega)
    ·rw[Nat.add_assoc];exact h2 (n+j) x (by rw[List.getElem?_drop] at hx;exact hx)
 ·unfold sliced;split
  ·cases A<;>rfl
  ·cases A with
   |none=>rfl
   |some a=>obtain⟨b,o,s⟩:=a;simp[Value.ownBlock,Addr.add];split<;>rfl
theorem Buf.front(h:Buf W kv K){n:Nat}(hn:n<=K.length){A:Option Addr}{c:Nat}(hk:kv=.slice A K.length c):(convert 58 9 (sliced A 0 n c 1)).run prog W=.ok (.string (bs (K.take n))) W:=by
 obtain⟨A',c',e,hc,h⟩:=h;rw[hk] at e;cases e;have hs:sliced A 0 n c 1=.slice A n c:=by
  unfold sliced;rcases h with h|⟨b,o,rfl,-,-⟩
  ·rw[if_pos h,Nat.sub_zero,Nat.sub_zero]
  ·simp[Addr.add_lit]
 rw[hs];by_cases h0:c=0
 ·have hK:K=[]:=List.length_eq_zero_iff.1 (by omega);have hn0:n=0:=by rw[hK] at hn;simpa using hn
  subst hn0;rw[List.take_zero,run_convert_bytes_string W 58 9 5 A 0 c underlying58 underlying5 underlying9];cases A with
  |none=>simp[Conv.bytesToString,bs];rfl
  |some a=>simp[Conv.bytesToString,bs];rfl
 ·rcases h with h|⟨b,o,rfl,h1,h2⟩
  ·exact absurd h h0
  ·have e:=run_convert_bytes_arg (P:=prog) W 58 5 underlying58 underlying5 b o n c ((K.take n).map fun b=>(b.toNat:Int)) (by simp[hn]) (fun i hi=>by
    have hi2:i<K.length:=by omega
    rw[h2 i (K.getD i 0) (by simp[List.getElem?_eq_getElem hi2])];simp[u8v,List.getD,List.getElem?_eq_getElem hi2,hi]) 9 underlying9
   rw[e];simp[bs,strOfNums,Function.comp_def]
theorem qcnl{W:World}{B j:Nat}{t:TypeId}{cs:Array Value}(h:W.heap[B]?=some (.cells cs t (0,0))):W.frozen? ⟨B,j,none⟩=false:=by simp[World.frozen?,h]
theorem qpujr(b:Nat):∀(vs:List Value) (o:Nat) (w:World),(w.setCells b o vs).tape=w.tape/\(w.setCells b o vs).heap.size=w.heap.size
 |[],_,_=>⟨rfl,rfl⟩
 |v::vs,o,w=>by obtain⟨h1,h2⟩:=qpujr b vs (o+1) (w.setCell ⟨b,o,none⟩ v);exact⟨h1.trans rfl,h2.trans (by simp[World.setCell])⟩
theorem qh9z{s:ByteArray}(w:World):Src prog 1 9 (.string s) s.data.toList.length (s.data.toList.map u8v) w:=by
 have:=Src.ofString (P:=prog) w underlying9 s
 have e:s.data.toList.length=s.size:=Array.length_toList;rw[e];exact this
theorem Buf.append(h:Buf W kv K){tx:TypeId}{x:Value}{L:List UInt8}(hs:∀w:World,w.heap=W.heap->Src prog 1 tx x L.length (L.map u8v) w)(hL:L≠[])(hm:K.length+L.length<=70368744177664) :
 ∃kv' W',(Builtin.append_ #[58,tx] 58 #[kv,x]).run prog W=.ok kv' W'/\Buf W' kv' (K++L)/\W.grownBy W' kv.ownBlock/\(kv'.ownBlock=kv.ownBlock\/kv'.ownBlock=some W.heap.size/\W'.heap.size=W.heap.size+1):=by
 obtain⟨A,c,rfl,hc,h⟩:=h;obtain⟨i0,hi,hz0,hz1,hz2⟩:=info_parts qsz0;have hl0:0<L.length:=List.length_pos_iff.2 hL;by_cases hr:K.length+L.length<=c
 ·rcases h with h|⟨b,o,rfl,h1,h2⟩
  ·omega
  ·have hthere:∀j,j<(L.map u8v).length->(W.cell? ⟨b,o+K.length+j,none⟩).isSome=true:=fun j hj=>by
    rw[List.length_map] at hj
    have:=(h1 (K.length+j) (by omega)).1
    rwa [<-Nat.add_assoc] at this
   have e:=run_append_room_src (P:=prog) W 58 tx 58 5 i0 underlying58 hi b o K.length c x L.length (L.map u8v) (by rw[hz1];exact hs W rfl) hr
    (by rw[hz1];simpa using hthere) (by
     rw[hz1];intro j hj;rw[List.length_map] at hj
     have:=(h1 (K.length+j) (by omega)).2
     rwa [<-Nat.add_assoc,<-Nat.mul_one K.length] at this)
   rw[hz1,Nat.mul_one] at e;refine⟨_,_,e,⟨_,c,by rw[List.length_append],by rw[List.length_append];exact hr,.inr ⟨b,o,rfl,fun j hj=>⟨?_,?_⟩,fun j u hu=>?_⟩⟩,⟨World.os_setCells ..,?_,World.output_setCells ..,?_,fun k hk hne=>World.heap_setCells_other _ _ _ _ hk (fun e=>hne (by rw[e];rfl))⟩,.inl rfl⟩
   ·by_cases hin:K.length<=j/\j<K.length+L.length
    ·have:=World.cell?_setCells_in b (L.map u8v) (o+K.length) W hthere (j-K.length) (by rw[List.length_map];omega)
     rw[show o+K.length+(j-K.length)=o+j by omega] at this;rw[this];rfl
    ·rw[World.cell?_setCells_out b _ _ _ _ (fun _ _=>by simp only[List.length_map];omega)];exact(h1 j hj).1
   ·rw[World.frozen?_setCells];exact(h1 j hj).2
   ·by_cases hj:j<K.length
    ·rw[World.cell?_setCells_out b _ _ _ _ (fun _ _=>by simp only[List.length_map];omega)];exact h2 j u (by rwa [List.getElem?_append_left hj] at hu)
    ·rw[List.getElem?_append_right (by omega)] at hu;have hjl:=(List.getElem?_eq_some_iff.1 hu).1
     have:=World.cell?_setCells_in b (L.map u8v) (o+K.length) W hthere (j-K.length) (by rw[List.length_map];omega)
     rw[show o+K.length+(j-K.length)=o+j by omega] at this;rw[this]
     have:=(List.getElem?_eq_some_iff.1 hu).2
     simp[this]
   ·exact(qpujr b _ _ W).1
   ·exact Nat.le_of_eq (qpujr b _ _ W).2.symm
 ·have hold:(Builtin.firstCells i0.size K.length (.slice A K.length c)).run prog W.drew=.ok (K.map u8v).toArray W.drew:=by
   rw[hz1];cases A with
   |none=>
    have hK:K=[]:=by
     rcases h with h|⟨b,o,e,-⟩
     ·exact List.length_eq_zero_iff.1 (by omega)
     ·cases e
    subst hK;exact run_firstCells_none W.drew 1 0 0 c
   |some a=>
    refine run_firstCells_some W.drew 1 K.length a K.length c _ (by simp) fun j v hv=>?_;rw[List.getElem?_map] at hv;obtain⟨x,hx,rfl⟩:=Option.map_eq_some_iff.1 hv;rcases h with h|⟨b,o,e,h1,h2⟩
    ·have:=(List.getElem?_eq_some_iff.1 hx).1;omega
    ·cases e;rw[Addr.add_lit];exact h2 j x hx
  have hle:=nextslicecap_le (need:=K.length+L.length) (old:=c) (by omega);have e:=run_append_grow_src (P:=prog) W 58 tx 58 5 i0 (.int .u8 0) underlying58 hi hz0 A K.length c (K.map u8v) hold x L.length (L.map u8v) (by rw[hz1];exact hs W rfl) (by omega) (by omega) (by rw[hz2];omega);refine⟨_,_,e,⟨_,_,by rw[List.length_append],by rw[List.length_append];exact grownCap_ge ..,.inr ⟨W.heap.size,0,rfl,fun j hj=>?_,fun j u hu=>?_⟩⟩,⟨rfl,rfl,rfl,by simp,fun k hk _=>heap_alloc_old W.drew _ hk⟩,.inr ⟨rfl,by simp⟩⟩
  all_goals have hn:=heap_alloc_new W.drew (.cells (((K.map u8v)++(L.map u8v)).toArray++Builtin.zeroCells (Value.int .u8 0).cells (grownCap W (K.length+L.length) c 5-(K.length+L.length))) 5);rw[Nat.zero_add]
  ·constructor
   ·have:(W.drew.alloc (.cells (((K.map u8v)++(L.map u8v)).toArray++Builtin.zeroCells (Value.int .u8 0).cells (grownCap W (K.length+L.length) c 5-(K.length+L.length))) 5)).cell? ⟨W.heap.size,j,none⟩=_:=cell_of_row _ _ j _ _ _ hn
    rw[this,Array.getElem?_eq_getElem (by rw[Array.size_append,size_zeroCells];simp[Value.cells];omega)]
    rfl
   ·exact qcnl hn
  ·have:(W.drew.alloc (.cells (((K.map u8v)++(L.map u8v)).toArray++Builtin.zeroCells (Value.int .u8 0).cells (grownCap W (K.length+L.length) c 5-(K.length+L.length))) 5)).cell? ⟨W.heap.size,j,none⟩=_:=cell_of_row _ _ j _ _ _ hn
   have hj:=(List.getElem?_eq_some_iff.1 hu).1;rw[this,Array.getElem?_append_left (by simpa using hj)];rw[<-List.map_append,List.getElem?_toArray,List.getElem?_map,hu]
   rfl
end
def nxV(g z:Nat):Value := .func (.func (if z=0 then 23 else 31)) #[.pointer (some ⟨g,0,none⟩)] #[]
def msC(g:Nat)(v:Int)(m:Nat)(kv:Value)(z:Nat)(nx:Value)(k t e:Nat):Array Value:=
 #[.pointer (some ⟨g,0,none⟩),.int .i64 v,.int .i64 m,kv,.int .i64 z,nx,.int .i64 k,.int .i64 t,.int .i64 e]
def Stm(w:World)(g:Nat)(v:Int)(m:Nat)(kv:Value)(z:Nat)(nx:Value)(k t e:Nat):Prop:=w.heap[g]?=some (.cells (msC g v m kv z nx k t e) 61 (0,0))
section
variable{w w':World}{g m z k t e:Nat}{v:Int}{kv nx:Value}
theorem Stm.lt(h:Stm w g v m kv z nx k t e):g<w.heap.size:=lt_of_block h
theorem Stm.cell(h:Stm w g v m kv z nx k t e)(j:Nat):w.cell? ⟨g,j,none⟩=(msC g v m kv z nx k t e)[j]? := cell_of_row w g j _ _ (0,0) h
theorem Stm.c0(h:Stm w g v m kv z nx k t e):w.cell? ⟨g,0,none⟩=some (.pointer (some ⟨g,0,none⟩)):=h.cell 0
theorem Stm.c1(h:Stm w g v m kv z nx k t e):w.cell? ⟨g,1,none⟩=some (.int .i64 v):=h.cell 1
theorem Stm.c2(h:Stm w g v m kv z nx k t e):w.cell? ⟨g,2,none⟩=some (.int .i64 m):=h.cell 2
theorem Stm.c3(h:Stm w g v m kv z nx k t e):w.cell? ⟨g,3,none⟩=some kv:=h.cell 3
theorem Stm.c4(h:Stm w g v m kv z nx k t e):w.cell? ⟨g,4,none⟩=some (.int .i64 z):=h.cell 4
theorem Stm.c5(h:Stm w g v m kv z nx k t e):w.cell? ⟨g,5,none⟩=some nx:=h.cell 5
theorem Stm.c6(h:Stm w g v m kv z nx k t e):w.cell? ⟨g,6,none⟩=some (.int .i64 k):=h.cell 6
theorem Stm.c7(h:Stm w g v m kv z nx k t e):w.cell? ⟨g,7,none⟩=some (.int .i64 t):=h.cell 7
theorem Stm.c8(h:Stm w g v m kv z nx k t e):w.cell? ⟨g,8,none⟩=some (.int .i64 e):=h.cell 8
theorem Stm.fr(h:Stm w g v m kv z nx k t e)(j:Nat):w.frozen? ⟨g,j,none⟩=false:=qcnl h
theorem Stm.of_block(h:Stm w g v m kv z nx k t e)(hb:w'.heap[g]?=w.heap[g]?):Stm w' g v m kv z nx k t e:=hb.trans h
theorem Stm.below(h:Stm w g v m kv z nx k t e)(hb:Below w.heap.size w w'):Stm w' g v m kv z nx k t e:=h.of_block (hb.block g h.lt)
theorem Stm.set3(h:Stm w g v m kv z nx k t e)(x:Value):Stm (w.setCell ⟨g,3,none⟩ x) g v m x z nx k t e:=qlvy h 3 _
theorem Stm.set4(h:Stm w g v m kv z nx k t e)(x:Nat):Stm (w.setCell ⟨g,4,none⟩ (.int .i64 x)) g v m kv x nx k t e:=qlvy h 4 _
theorem q0gg(w:World)(a:Addr)(f:Nat)(x:Array Value)(m:Mode):(store a (.func (.func f) x #[]) m).run prog w=stored prog w a (.func (.func f) x #[]) m:=run_store _ w a _ m rfl
end
end Go.Proofs.YtefmhbioggcfaaaGreatDoor
