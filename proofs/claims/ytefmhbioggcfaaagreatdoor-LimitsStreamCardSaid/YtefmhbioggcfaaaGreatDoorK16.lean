/- A buffer of bytes: a slice of one's own, at whatever place of its block, with whatever capacity. No condition. -/
import Derived.Deep.Upon
import Derived.Test.YtefmhbioggcfaaaGreatDoorK15
namespace Go.Proofs.YtefmhbioggcfaaaGreatDoor
open Lib(hid)
open Proofs.Tryz
open Go.RowKit
def Buf(W:World)(kv:Value)(K:List UInt8):Prop:=
 ∃(A:Option Addr) (c:Nat),kv=.slice A K.length c/\K.length<=c/\(c=0\/∃b o,A=some ⟨b,o,none⟩/\(∀j,j<c->(W.cell? ⟨b,o+j,none⟩).isSome=true/\W.frozen? ⟨b,o+j,none⟩=false)/\∀j x,K[j]?=some x->W.cell? ⟨b,o+j,none⟩=some (u8v x))
section
variable{W W':World}{kv:Value}{K:List UInt8}
theorem Buf.empty(W:World):Buf W (.slice none 0 0) []:=⟨_,0,rfl,Nat.le_refl _,.inl rfl⟩
theorem Buf.moved(h:Buf W kv K)(hb:∀b,kv.ownBlock=some b->b<W.heap.size->W'.heap[b]?=W.heap[b]?):Buf W' kv K:=by
 obtain⟨A,c,rfl,hc,h|⟨b,o,rfl,h1,h2⟩⟩:=h
 ·exact⟨A,c,rfl,hc,.inl h⟩
 ·by_cases h0:c=0
  ·exact⟨_,c,rfl,hc,.inl h0⟩
  ·obtain⟨v,hv⟩:=Option.isSome_iff_exists.1 (h1 0 (by omega)).1;have hlt:b<W.heap.size:=World.block_lt_of_cell? W _ hv;have e:=hb b rfl hlt;refine⟨_,c,rfl,hc,.inr ⟨b,o,rfl,fun j hj=>?_,fun j x hx=>?_⟩⟩
   ·rw[World.cell?_of_block (a:=⟨b,o+j,none⟩) e,World.frozen?_of_block (a:=⟨b,o+j,none⟩) e];exact h1 j hj
   ·rw[World.cell?_of_block (a:=⟨b,o+j,none⟩) e];exact h2 j x hx
theorem Buf.below(h:Buf W kv K)(hb:Below W.heap.size W W'):Buf W' kv K:=h.moved fun b _ hl=>hb.block b hl
theorem Buf.drop(h:Buf W kv K){n:Nat}(hn:n<=K.length):∃A c,kv=.slice A K.length c/\K.length<=c/\Buf W (sliced A n K.length c 1) (K.drop n)/\((sliced A n K.length c 1).ownBlock=kv.ownBlock):=by
 obtain⟨A,c,rfl,hc,h⟩:=h;refine⟨A,c,rfl,hc,?_,?_⟩
 ·refine⟨_,c-n,by unfold sliced;rw[List.length_drop],by rw[List.length_drop];omega,?_⟩;by_cases h0:c-n=0
  ·exact .inl h0
  ·rcases h with h|⟨b,o,rfl,h1,h2⟩
   ·omega
   ·refine .inr ⟨b,o+n,?_,fun j hj=>?_,fun j x hx=>?_⟩
    ·rw[if_neg (by omega)];simp[Addr.add_lit]
    ·rw[Nat.add_assoc];exact h1 (n+j) (by omega)
    ·rw[Nat.add_assoc];exact h2 (n+j) x (by rw[List.getElem?_drop] at hx;exact hx)
 ·unfold sliced;split
  ·cases A<;>rfl
  ·cases A with
   |none=>rfl
   |some a=>obtain⟨b,o,s⟩:=a;simp[Value.ownBlock,Addr.add];split<;>rfl
theorem Buf.front(h:Buf W kv K){n:Nat}(hn:n<=K.length){A:Option Addr}{c:Nat}(hk:kv=.slice A K.length c):(convert 58 9 (sliced A 0 n c 1)).run prog W=.ok (.string (bs (K.take n))) W:=by
 obtain⟨A',c',e,hc,h⟩:=h;rw[hk] at e;cases e;have hs:sliced A 0 n c 1=.slice A n c:=by
  unfold sliced;rcases h with h|⟨b,o,rfl,-,-⟩
  ·rw[if_pos h,Nat.sub_zero,Nat.sub_zero]
  ·simp[Addr.add_lit]
 rw[hs];by_cases h0:c=0
 ·have hK:K=[]:=List.length_eq_zero_iff.1 (by omega);have hn0:n=0:=by rw[hK] at hn;simpa using hn
  subst hn0;rw[List.take_zero,run_convert_bytes_string W 58 9 5 A 0 c underlying58 underlying5 underlying9];cases A with
  |none=>simp[Conv.bytesToString,bs];rfl
  |some a=>simp[Conv.bytesToString,bs];rfl
 ·rcases h with h|⟨b,o,rfl,h1,h2⟩
  ·exact absurd h h0
  ·have e:=run_convert_bytes_arg (P:=prog) W 58 5 underlying58 underlying5 b o n c ((K.take n).map fun b=>(b.toNat:Int)) (by simp[hn]) (fun i hi=>by
    have hi2:i<K.length:=by omega
    rw[h2 i (K.getD i 0) (by simp[List.getElem?_eq_getElem hi2])];simp[u8v,List.getD,List.getElem?_eq_getElem hi2,hi]) 9 underlying9
   rw[e];simp[bs,strOfNums,Function.comp_def]
theorem qcnl{W:World}{B j:Nat}{t:TypeId}{cs:Array Value}(h:W.heap[B]?=some (.cells cs t (0,0))):W.frozen? ⟨B,j,none⟩=false:=by simp[World.frozen?,h]
theorem qpujr(b:Nat):∀(vs:List Value) (o:Nat) (w:World),(w.setCells b o vs).tape=w.tape/\(w.setCells b o vs).heap.size=w.heap.size
 |[],_,_=>⟨rfl,rfl⟩
 |v::vs,o,w=>by obtain⟨h1,h2⟩:=qpujr b vs (o+1) (w.setCell ⟨b,o,none⟩ v);exact⟨h1.trans rfl,h2.trans (by simp[World.setCell])⟩
theorem qh9z{s:ByteArray}(w:World):Src prog 1 9 (.string s) s.data.toList.length (s.data.toList.map u8v) w:=by
 have:=Src.ofString (P:=prog) w underlying9 s
 have e:s.data.toList.length=s.size:=Array.length_toList;rw[e];exact this
theorem Buf.src(h:Buf W kv K):∀w:World,w.heap=W.heap->Src prog 1 58 kv K.length (K.map u8v) w:=fun w hw=>by
 obtain⟨A,c,rfl,hc,h⟩:=h;cases A with
 |none=>
  have hK:K=[]:=by
   rcases h with h|⟨b,o,e,-⟩
   ·exact List.length_eq_zero_iff.1 (by omega)
   ·cases e
  subst hK;exact Src.ofNil w underlying58 c
 |some a=>
  refine Src.ofSlice w underlying58 a K.length c _ (by simp) (fun j v hv=>?_) (fun u hu=>?_)
  ·rw[List.getElem?_map] at hv;obtain⟨x,hx,rfl⟩:=Option.map_eq_some_iff.1 hv;rcases h with h|⟨b,o,e,h1,h2⟩
   ·have:=(List.getElem?_eq_some_iff.1 hx).1;omega
   ·cases e;rw[Addr.add_lit,show w.cell? ⟨b,o+j,none⟩=W.cell? ⟨b,o+j,none⟩ by simp[World.cell?,hw]];exact h2 j x hx
  ·obtain⟨x,-,rfl⟩:=List.mem_map.1 hu
   rfl
theorem Buf.append(h:Buf W kv K){tx:TypeId}{x:Value}{L:List UInt8}(hs:∀w:World,w.heap=W.heap->Src prog 1 tx x L.length (L.map u8v) w)(hL:L≠[])(hm:K.length+L.length<=70368744177664) :
 ∃kv' W',(Builtin.append_ #[58,tx] 58 #[kv,x]).run prog W=.ok kv' W'/\Buf W' kv' (K++L)/\W.grownBy W' kv.ownBlock/\(kv'.ownBlock=kv.ownBlock\/kv'.ownBlock=some W.heap.size/\W'.heap.size=W.heap.size+1):=by
 obtain⟨A,c,rfl,hc,h⟩:=h;obtain⟨i0,hi,hz0,hz1,hz2⟩:=info_parts qsz0;have hl0:0<L.length:=List.length_pos_iff.2 hL;by_cases hr:K.length+L.length<=c
 ·rcases h with h|⟨b,o,rfl,h1,h2⟩
  ·omega
  ·have hthere:∀j,j<(L.map u8v).length->(W.cell? ⟨b,o+K.length+j,none⟩).isSome=true:=fun j hj=>by
    rw[List.length_map] at hj
    have:=(h1 (K.length+j) (by omega)).1
    rwa [<-Nat.add_assoc] at this
   have e:=run_append_room_src (P:=prog) W 58 tx 58 5 i0 underlying58 hi b o K.length c x L.length (L.map u8v) (by rw[hz1];exact hs W rfl) hr
    (by rw[hz1];simpa using hthere) (by
     rw[hz1];intro j hj;rw[List.length_map] at hj
     have:=(h1 (K.length+j) (by omega)).2
     rwa [<-Nat.add_assoc,<-Nat.mul_one K.length] at this)
   rw[hz1,Nat.mul_one] at e;refine⟨_,_,e,⟨_,c,by rw[List.length_append],by rw[List.length_append];exact hr,.inr ⟨b,o,rfl,fun j hj=>⟨?_,?_⟩,fun j u hu=>?_⟩⟩,⟨World.os_setCells ..,?_,World.output_setCells ..,?_,fun k hk hne=>World.heap_setCells_other _ _ _ _ hk (fun e=>hne (by rw[e];rfl))⟩,.inl rfl⟩
   ·by_cases hin:K.length<=j/\j<K.length+L.length
    ·have:=World.cell?_setCells_in b (L.map u8v) (o+K.length) W hthere (j-K.length) (by rw[List.length_map];omega)
     rw[show o+K.length+(j-K.length)=o+j by omega] at this;rw[this];rfl
    ·rw[World.cell?_setCells_out b _ _ _ _ (fun _ _=>by simp only[List.length_map];omega)];exact(h1 j hj).1
   ·rw[World.frozen?_setCells];exact(h1 j hj).2
   ·by_cases hj:j<K.length
    ·rw[World.cell?_setCells_out b _ _ _ _ (fun _ _=>by simp only[List.length_map];omega)];exact h2 j u (by rwa [List.getElem?_append_left hj] at hu)
    ·rw[List.getElem?_append_right (by omega)] at hu;have hjl:=(List.getElem?_eq_some_iff.1 hu).1
     have:=World.cell?_setCells_in b (L.map u8v) (o+K.length) W hthere (j-K.length) (by rw[List.length_map];omega)
     rw[show o+K.length+(j-K.length)=o+j by omega] at this;rw[this]
     have:=(List.getElem?_eq_some_iff.1 hu).2
     simp[this]
   ·exact(qpujr b _ _ W).1
   ·exact Nat.le_of_eq (qpujr b _ _ W).2.symm
 ·have hold:(Builtin.firstCells i0.size K.length (.slice A K.length c)).run prog W.drew=.ok (K.map u8v).toArray W.drew:=by
   rw[hz1];cases A with
   |none=>
    have hK:K=[]:=by
     rcases h with h|⟨b,o,e,-⟩
     ·exact List.length_eq_zero_iff.1 (by omega)
     ·cases e
    subst hK;exact run_firstCells_none W.drew 1 0 0 c
   |some a=>
    refine run_firstCells_some W.drew 1 K.length a K.length c _ (by simp) fun j v hv=>?_;rw[List.getElem?_map] at hv;obtain⟨x,hx,rfl⟩:=Option.map_eq_some_iff.1 hv;rcases h with h|⟨b,o,e,h1,h2⟩
    ·have:=(List.getElem?_eq_some_iff.1 hx).1;omega
    ·cases e;rw[Addr.add_lit];exact h2 j x hx
  have hle:=nextslicecap_le (need:=K.length+L.length) (old:=c) (by omega);have e:=run_append_grow_src (P:=prog) W 58 tx 58 5 i0 (.int .u8 0) underlying58 hi hz0 A K.length c (K.map u8v) hold x L.length (L.map u8v) (by rw[hz1];exact hs W rfl) (by omega) (by omega) (by rw[hz2];omega);refine⟨_,_,e,⟨_,_,by rw[List.length_append],by rw[List.length_append];exact grownCap_ge ..,.inr ⟨W.heap.size,0,rfl,fun j hj=>?_,fun j u hu=>?_⟩⟩,⟨rfl,rfl,rfl,by simp,fun k hk _=>heap_alloc_old W.drew _ hk⟩,.inr ⟨rfl,by simp⟩⟩
  all_goals have hn:=heap_alloc_new W.drew (.cells (((K.map u8v)++(L.map u8v)).toArray++Builtin.zeroCells (Value.int .u8 0).cells (grownCap W (K.length+L.length) c 5-(K.length+L.length))) 5);rw[Nat.zero_add]
  ·constructor
   ·have:(W.drew.alloc (.cells (((K.map u8v)++(L.map u8v)).toArray++Builtin.zeroCells (Value.int .u8 0).cells (grownCap W (K.length+L.length) c 5-(K.length+L.length))) 5)).cell? ⟨W.heap.size,j,none⟩=_:=cell_of_row _ _ j _ _ _ hn
    rw[this,Array.getElem?_eq_getElem (by rw[Array.size_append,size_zeroCells];simp[Value.cells];omega)]
    rfl
   ·exact qcnl hn
  ·have:(W.drew.alloc (.cells (((K.map u8v)++(L.map u8v)).toArray++Builtin.zeroCells (Value.int .u8 0).cells (grownCap W (K.length+L.length) c 5-(K.length+L.length))) 5)).cell? ⟨W.heap.size,j,none⟩=_:=cell_of_row _ _ j _ _ _ hn
   have hj:=(List.getElem?_eq_some_iff.1 hu).1;rw[this,Array.getElem?_append_left (by simpa using hj)];rw[<-List.map_append,List.getElem?_toArray,List.getElem?_map,hu]
   rfl
end
def nxV(g z:Nat):Value := .func (.func (if z=0 then 23 else 31)) #[.pointer (some ⟨g,0,none⟩)] #[]
def msC(g:Nat)(v:Int)(m:Nat)(kv:Value)(z:Nat)(nx:Value)(k t e:Nat):Array Value:=
 #[.pointer (some ⟨g,0,none⟩),.int .i64 v,.int .i64 m,kv,.int .i64 z,nx,.int .i64 k,.int .i64 t,.int .i64 e]
def Stm(w:World)(g:Nat)(v:Int)(m:Nat)(kv:Value)(z:Nat)(nx:Value)(k t e:Nat):Prop:=w.heap[g]?=some (.cells (msC g v m kv z nx k t e) 61 (0,0))
section
variable{w w':World}{g m z k t e:Nat}{v:Int}{kv nx:Value}
theorem Stm.lt(h:Stm w g v m kv z nx k t e):g<w.heap.size:=lt_of_block h
theorem Stm.cell(h:Stm w g v m kv z nx k t e)(j:Nat):w.cell? ⟨g,j,none⟩=(msC g v m kv z nx k t e)[j]? := cell_of_row w g j _ _ (0,0) h
theorem Stm.c0(h:Stm w g v m kv z nx k t e):w.cell? ⟨g,0,none⟩=some (.pointer (some ⟨g,0,none⟩)):=h.cell 0
theorem Stm.c1(h:Stm w g v m kv z nx k t e):w.cell? ⟨g,1,none⟩=some (.int .i64 v):=h.cell 1
theorem Stm.c2(h:Stm w g v m kv z nx k t e):w.cell? ⟨g,2,none⟩=some (.int .i64 m):=h.cell 2
theorem Stm.c3(h:Stm w g v m kv z nx k t e):w.cell? ⟨g,3,none⟩=some kv:=h.cell 3
theorem Stm.c4(h:Stm w g v m kv z nx k t e):w.cell? ⟨g,4,none⟩=some (.int .i64 z):=h.cell 4
theorem Stm.c5(h:Stm w g v m kv z nx k t e):w.cell? ⟨g,5,none⟩=some nx:=h.cell 5
theorem Stm.c6(h:Stm w g v m kv z nx k t e):w.cell? ⟨g,6,none⟩=some (.int .i64 k):=h.cell 6
theorem Stm.c7(h:Stm w g v m kv z nx k t e):w.cell? ⟨g,7,none⟩=some (.int .i64 t):=h.cell 7
theorem Stm.c8(h:Stm w g v m kv z nx k t e):w.cell? ⟨g,8,none⟩=some (.int .i64 e):=h.cell 8
theorem Stm.fr(h:Stm w g v m kv z nx k t e)(j:Nat):w.frozen? ⟨g,j,none⟩=false:=qcnl h
theorem Stm.of_block(h:Stm w g v m kv z nx k t e)(hb:w'.heap[g]?=w.heap[g]?):Stm w' g v m kv z nx k t e:=hb.trans h
theorem Stm.below(h:Stm w g v m kv z nx k t e)(hb:Below w.heap.size w w'):Stm w' g v m kv z nx k t e:=h.of_block (hb.block g h.lt)
theorem Stm.set3(h:Stm w g v m kv z nx k t e)(x:Value):Stm (w.setCell ⟨g,3,none⟩ x) g v m x z nx k t e:=qlvy h 3 _
theorem Stm.set4(h:Stm w g v m kv z nx k t e)(x:Nat):Stm (w.setCell ⟨g,4,none⟩ (.int .i64 x)) g v m kv x nx k t e:=qlvy h 4 _
theorem Stm.set5(h:Stm w g v m kv z nx k t e)(x:Value):Stm (w.setCell ⟨g,5,none⟩ x) g v m kv z x k t e:=qlvy h 5 _
theorem Stm.set6(h:Stm w g v m kv z nx k t e)(x:Nat):Stm (w.setCell ⟨g,6,none⟩ (.int .i64 x)) g v m kv z nx x t e:=qlvy h 6 _
theorem Stm.set7(h:Stm w g v m kv z nx k t e)(x:Nat):Stm (w.setCell ⟨g,7,none⟩ (.int .i64 x)) g v m kv z nx k x e:=qlvy h 7 _
theorem Stm.set8(h:Stm w g v m kv z nx k t e)(x:Nat):Stm (w.setCell ⟨g,8,none⟩ (.int .i64 x)) g v m kv z nx k t x:=qlvy h 8 _
theorem q5wq:∃j,prog.info? 61=some j:=Option.isSome_iff_exists.1 (by kernel_rfl)
theorem qta7(hc:Stm w g v m kv z nx k t e):Calls prog 24 #[.pointer (some ⟨g,0,none⟩)] w fun e w'=>e=.returned (.bool true)/\w=w':=by
 obtain⟨j,hj⟩:=q5wq;have heq:=fun W:World=>run_eql_ptr_same (P:=prog) W ⟨g,0,none⟩ underlying42 hj;have h0:=hc.c0;clear hj hc
 go_in
 go_wp2;go_ret;exact⟨rfl,rfl⟩
theorem qzg4(hc:Stm w g v m kv z nx k t e):Calls prog 15 #[.pointer (some ⟨g,0,none⟩)] w fun e' w'=>e'=.returned (.int .i64 e)/\w=w':=by
 have h:=hc.c8;have V:=hid (qta7 hc);clear hc
 go_in
 go_wp2_with fail;refine V.out.mono ?_;rintro e' w' ⟨rfl,rfl⟩;go_wp2;go_ret;exact⟨rfl,rfl⟩
theorem qxbb(hc:Stm w g v m kv z nx k t e):Calls prog 16 #[.pointer (some ⟨g,0,none⟩)] w fun e' w'=>e'=.returned (.int .i64 k)/\w=w':=by
 have h:=hc.c6;have V:=hid (qta7 hc);clear hc
 go_in
 go_wp2_with fail;refine V.out.mono ?_;rintro e' w' ⟨rfl,rfl⟩;go_wp2;go_ret;exact⟨rfl,rfl⟩
theorem qozv{A:Option Addr}{n c:Nat}(hc:Stm w g v m (.slice A n c) z nx k t e):Calls prog 17 #[.pointer (some ⟨g,0,none⟩)] w fun e' w'=>e'=.returned (.int .i64 n)/\w=w':=by
 have h:=hc.c3;have V:=hid (qta7 hc);clear hc
 go_in
 go_wp2_with fail;refine V.out.mono ?_;rintro e' w' ⟨rfl,rfl⟩;go_wp2;go_ret;exact⟨rfl,rfl⟩
theorem q0gg(w:World)(a:Addr)(f:Nat)(x:Array Value)(m:Mode):(store a (.func (.func f) x #[]) m).run prog w=stored prog w a (.func (.func f) x #[]) m:=run_store _ w a _ m rfl
theorem qn14(hc:Stm w g v m kv z nx k t e)(f:Nat):Calls prog 33 #[.pointer (some ⟨g,0,none⟩),.int .i64 f] w fun e' w'=>e'=.returned (.tuple #[])/\Stm w' g v m (.slice none 0 0) z nx k t f/\w.grownBy w' (some g):=by
 have S1:=hid (hc.set8 f);have f8:=hc.fr 8;have c8:=hc.c8;have f3:=hc.fr 3;have c3:=hc.c3;clear hc
 go_in
 go_wp2_with fail
 go_end0
 exact⟨rfl,S1.out.set3 _,qo6d (q99v _ _ _ _) (q99v _ _ _ _)⟩
end
section
variable{w w':World}{g m z k t e:Nat}{v:Int}{nx:Value}{K:List UInt8}
theorem q2pp{A:Option Addr}{n c:Nat}(hc:Stm w g v m (.slice A n c) z nx k t e)(hz:z<=n)(hn:n<=1048576)(hk:k<=70368744177664)(ht:t<=70368744177664) :
 Calls prog 32 #[.pointer (some ⟨g,0,none⟩)] w fun e' w'=>e'=.returned (.tuple #[])/\Stm w' g v m (sliced A z n c 1) 0 (nxV g 0) (k+z) (t+1) e/\w.grownBy w' (some g):=by
 have h3:=hc.c3;have h4:=hc.c4;have h5:=hc.c5;have h6:=hc.c6;have h7:=hc.c7;have f3:=hc.fr 3;have f4:=hc.fr 4;have f5:=hc.fr 5;have f6:=hc.fr 6;have f7:=hc.fr 7;have hst:=q0gg;have HC:=hid hc;have hzi:(z:Int)<=(n:Int):=by omega
 have hni:(n:Int)<=1048576:=by omega
 have hki:(k:Int)<=70368744177664:=by omega
 have hti:(t:Int)<=70368744177664:=by omega
 clear hc hz hn hk ht
 go_in
 go_wp2_with fail
 go_region
 have S1:Stm (w.setCell ⟨g,3,none⟩ (sliced A z n c 1)) g v m (sliced A z n c 1) z nx k t e:=HC.out.set3 _;have G1:=q99v w g 3 (sliced A z n c 1);unfold sliced at S1 G1;rw[Nat.mul_one] at S1 G1;generalize hx:(if c=z then A else A.map fun x=>x.add z)=B at *;have hB:sliced A z n c 1=.slice B (n-z) (c-z):=by unfold sliced;rw[Nat.mul_one,hx]
 have HB:=hid hB;have G1:=hid G1;have S1:Stm (w.setCell ⟨g,3,none⟩ (.slice B (n-z) (c-z))).drew g v m (.slice B (n-z) (c-z)) z nx k t e:=S1;clear h3 h4 h5 h6 h7 f3 f4 f5 f6 f7 hB hx;generalize hW:(w.setCell ⟨g,3,none⟩ (.slice B (n-z) (c-z))).drew=W1 at *;have G2:w.grownBy W1 (some g):=by rw[<-hW];exact qo6d G1.out (qgju (n:=1) (World.grownBy.refl _ _))
 have G2:=hid G2;have h3:=S1.c3;have h4:=S1.c4;have h5:=S1.c5;have h6:=S1.c6;have h7:=S1.c7;have f4:=S1.fr 4;have f5:=S1.fr 5;have f6:=S1.fr 6;have f7:=S1.fr 7;have S1:=hid S1;clear hW;go_wp2_with fail
 go_region
 have S2:Stm (W1.setCell ⟨g,6,none⟩ (.int .i64 (k+z:Nat))).drew g v m (.slice B (n-z) (c-z)) z nx (k+z) t e:=S1.out.set6 (k+z);have G3:W1.grownBy (W1.setCell ⟨g,6,none⟩ (.int .i64 (k+z:Nat))).drew (some g):=qo6d (q99v _ _ _ _) (qgju (n:=1) (World.grownBy.refl _ _));rw[show((k+z:Nat):Int)=(k:Int)+(z:Int) by omega] at S2 G3;clear h3 h4 h5 h6 h7 f4 f5 f6 f7 S1;generalize (W1.setCell ⟨g,6,none⟩ (.int .i64 ((k:Int)+(z:Int)))).drew=W2 at *;have G4:=hid (qo6d G2.out G3);clear G2 G3;have h4:=S2.c4;have h5:=S2.c5;have h7:=S2.c7;have f4:=S2.fr 4;have f5:=S2.fr 5;have f7:=S2.fr 7;have S2:=hid S2;go_wp2_with fail
 go_end0
 refine⟨rfl,?_,?_⟩
 ·rw[HB.out]
  have:=((S2.out.set7 (t+1)).set4 0).set5 (nxV g 0)
  rwa [show((t+1:Nat):Int)=(t:Int)+1 by omega] at this
 ·exact qo6d G4.out (qo6d (qo6d (q99v _ _ _ _) (q99v _ _ _ _)) (q99v _ _ _ _))
structure StK(w W:World)(g:Nat)(o:Option Nat):Prop where
 os:W.os=w.os
 tape:W.tape=w.tape
 output:W.output=w.output
 size:w.heap.size<=W.heap.size
 block:∀i,i<w.heap.size->i≠g->o≠some i->W.heap[i]?=w.heap[i]?
theorem StK.refl(w:World)(g:Nat)(o:Option Nat):StK w w g o:=⟨rfl,rfl,rfl,Nat.le_refl _,fun _ _ _ _=>rfl⟩
theorem StK.of1{o:Option Nat}(h:w.grownBy w' (some g)):StK w w' g o:=⟨h.os,h.tape,h.output,h.size,fun i hi hg _=>h.block i hi (fun e=>hg (Option.some.inj e))⟩
theorem StK.of2{o:Option Nat}(h:w.grownBy w' o):StK w w' g o:=⟨h.os,h.tape,h.output,h.size,fun i hi _ ho=>h.block i hi (fun e=>ho e.symm)⟩
theorem StK.draws{o:Option Nat}{W:World}(h:StK w W g o)(n:Nat):StK w (W.drewN n) g o:=⟨h.os,h.tape,h.output,h.size,h.block⟩
def NewB(w:World)(o o':Option Nat):Prop:=o'=o\/o'=none\/∃i,o'=some i/\w.heap.size<=i
theorem StK.trans{a b c:World}{o o':Option Nat}(h:StK a b g o)(k:StK b c g o')(n:NewB a o o'):StK a c g o:=
 ⟨k.os.trans h.os,k.tape.trans h.tape,k.output.trans h.output,Nat.le_trans h.size k.size,fun i hi hg ho=>(k.block i (Nat.lt_of_lt_of_le hi h.size) hg (by
  rcases n with rfl|rfl|⟨j,rfl,hj⟩
  ·exact ho
  ·simp
  ·intro e;have:=Option.some.inj e;omega)).trans (h.block i hi hg ho)⟩
theorem NewB.trans{a b:World}{o o' o2:Option Nat}(h:NewB a o o')(k:NewB b o' o2)(hs:a.heap.size<=b.heap.size):NewB a o o2:=by
 rcases k with rfl|rfl|⟨j,rfl,hj⟩
 ·exact h
 ·exact .inr (.inl rfl)
 ·exact .inr (.inr ⟨j,rfl,Nat.le_trans hs hj⟩)
theorem NewB.ne{o o':Option Nat}(h:NewB w o o')(hg:g<w.heap.size)(ho:o≠some g):o'≠some g:=by
 rcases h with rfl|rfl|⟨j,rfl,hj⟩
 ·exact ho
 ·simp
 ·intro e;have:=Option.some.inj e;omega
theorem qoil(A:Option Addr)(n c:Nat):(Value.slice A n c).ownBlock=(Value.slice A 0 0).ownBlock:=by cases A<;>rfl
theorem qt7o{kv:Value}(hc:Stm w g v m kv z nx k t e)(hb:Buf w kv K)(hne:kv.ownBlock≠some g)(hkl:∀b,kv.ownBlock=some b->b<w.heap.size)(hn:K.length<=1048576) :
 Calls prog 34 #[.pointer (some ⟨g,0,none⟩)] w fun e' w'=>e'=.returned (.tuple #[])/\∃kv',Stm w' g v m kv' z nx k t e/\Buf w' kv' K/\NewB w kv.ownBlock kv'.ownBlock/\(∀b,kv'.ownBlock=some b->b<w'.heap.size)/\StK w w' g kv.ownBlock:=by
 have h3:=hc.c3;have f3:=hc.fr 3;obtain⟨A,c,rfl,hlc,hbuf⟩:=id hb;by_cases h0:K=[]
 ·subst h0;have S1:=hid (hc.set3 (.slice none 0 0));clear hc hb hne hkl hn hbuf hlc
  go_in
  go_wp2_with fail;refine bodyPost_ret (results_none rfl _ _ _) rfl ?_;exact⟨rfl,_,S1.out,Buf.empty _,.inr (.inl rfl),fun b hb=>(nomatch hb),StK.of1 (q99v _ _ _ _)⟩
 ·obtain⟨kv',W',hrun,hb',hg',hnb⟩:=Buf.append (W:=w.drew) (kv := .slice A 0 0) (K:=[]) ⟨A,0,rfl,Nat.le_refl _,.inl rfl⟩ (fun W hW=>hb.src W hW) h0 (by rw[List.length_nil];omega);rw[List.nil_append] at hb';have ho:=qoil A K.length c;rw[<-ho] at hg' hnb;have hc':Stm W' g v m (.slice A K.length c) z nx k t e:=hc.of_block (hg'.block g hc.lt (fun e=>hne e.symm));have k3:=hc'.c3;have j3:=hc'.fr 3;obtain⟨A',c',rfl,-⟩:=id hb';have hn2:NewB w (Value.slice A K.length c).ownBlock (Value.slice A' K.length c').ownBlock:=hnb.elim .inl fun h => .inr (.inr ⟨_,h.1,Nat.le_refl _⟩);have hw':w.heap.size<=W'.heap.size:=hg'.size;have FIN:∃kv',Stm (W'.setCell ⟨g,3,none⟩ (.slice A' K.length c')) g v m kv' z nx k t e/\Buf (W'.setCell ⟨g,3,none⟩ (.slice A' K.length c')) kv' K/\NewB w (Value.slice A K.length c).ownBlock kv'.ownBlock/\(∀b,kv'.ownBlock=some b->b<(W'.setCell ⟨g,3,none⟩ (.slice A' K.length c')).heap.size)/\StK w (W'.setCell ⟨g,3,none⟩ (.slice A' K.length c')) g (Value.slice A K.length c).ownBlock:=by
   have gk:=q99v W' g 3 (.slice A' K.length c');refine⟨_,hc'.set3 _,hb'.moved fun b hb2 hl=>gk.block b hl (fun e=>?_),hn2,fun b hb2=>?_,?_⟩
   ·exact hn2.ne hc.lt hne (by rw[hb2,e])
   ·refine Nat.lt_of_lt_of_le ?_ gk.size;rcases hnb with e|⟨e,e2⟩
    ·exact Nat.lt_of_lt_of_le (hkl b (by rw[<-e,hb2])) hw'
    ·have:=Option.some.inj (e.symm.trans hb2)
     rw[e2,<-this];exact Nat.lt_succ_self _
   ·exact(StK.of2 (qgju (n:=1) hg')).trans (StK.of1 gk) (.inl rfl)
  have hk0:((K.length:Int)==0)=false:=by rw[beq_eq_false_iff_ne];exact fun hh=>h0 (List.length_eq_zero_iff.1 (by omega))
  have FIN:=hid FIN;clear hc hb hne hkl hn hbuf hlc h0 hb' hg' hnb hc' hn2 hw' ho
  go_in
  go_wp2_with fail
  go_region_law (refine q6zi (by rfl) _ _ _ _ (by rfl) (by rfl) (by rfl) hrun ?_)
  all_goals
   go_wp2_with fail
   go_end0
   exact⟨rfl,FIN.out⟩
end
end Go.Proofs.YtefmhbioggcfaaaGreatDoor
