/- The contracts of varint's reader. No condition. -/
import Derived.StillTailTactics
import Derived.Test.YtombgnfedafkjaaGreatDoorK16
set_option maxHeartbeats 2000000
set_option maxRecDepth 100000
namespace Go.Proofs.YtombgnfedafkjaaGreatDoor
open Lib(hid)
open Proofs.Tryz
open Go.RowKit
def qxoj(b v n st:Nat):Array Value:=#[.pointer (some ⟨b,0,none⟩),.int .i64 v,.int .i64 n,.int .i64 st]
def Rd(w:World)(b v n st:Nat):Prop:=w.heap[b]?=some (.cells (qxoj b v n st) 108 (0,0))
section
variable{w w':World}{b v n st:Nat}
theorem Rd.lt(h:Rd w b v n st):b<w.heap.size:=lt_of_block h
theorem Rd.cell(h:Rd w b v n st)(j:Nat):w.cell? ⟨b,j,none⟩=(qxoj b v n st)[j]? := cell_of_row w b j _ _ (0,0) h
theorem Rd.c0(h:Rd w b v n st):w.cell? ⟨b,0,none⟩=some (.pointer (some ⟨b,0,none⟩)):=h.cell 0
theorem Rd.c1(h:Rd w b v n st):w.cell? ⟨b,1,none⟩=some (.int .i64 v):=h.cell 1
theorem Rd.c2(h:Rd w b v n st):w.cell? ⟨b,2,none⟩=some (.int .i64 n):=h.cell 2
theorem Rd.c3(h:Rd w b v n st):w.cell? ⟨b,3,none⟩=some (.int .i64 st):=h.cell 3
theorem Rd.fr(h:Rd w b v n st)(j:Nat):w.frozen? ⟨b,j,none⟩=false:=by unfold Rd at h;simp[World.frozen?,h]
theorem Rd.draws(h:Rd w b v n st)(k:Nat):Rd (w.drewN k) b v n st:=h
theorem Rd.drew(h:Rd w b v n st):Rd w.drew b v n st:=h
theorem Rd.of_block(h:Rd w b v n st)(hb:w'.heap[b]?=w.heap[b]?):Rd w' b v n st:=hb.trans h
theorem Rd.val(h:Rd w b v n st)(u:Nat):Rd (w.setCell ⟨b,1,none⟩ (.int .i64 u)) b u n st:=qlvy h 1 _
theorem Rd.siz(h:Rd w b v n st)(u:Nat):Rd (w.setCell ⟨b,2,none⟩ (.int .i64 u)) b v u st:=qlvy h 2 _
theorem Rd.sta(h:Rd w b v n st)(u:Nat):Rd (w.setCell ⟨b,3,none⟩ (.int .i64 u)) b v n u:=qlvy h 3 _
end
theorem qp2k:∃j,prog.info? 108=some j:=Option.isSome_iff_exists.1 (by kernel_rfl)
theorem quhv{w:World}{b v n st:Nat}(hc:Rd w b v n st) :
 Calls prog 81 #[.pointer (some ⟨b,0,none⟩)] w fun e w'=>e=.returned (.bool true)/\w=w':=by
 obtain⟨j,hj⟩:=qp2k;have heq:=fun W:World=>run_eql_ptr_same (P:=prog) W ⟨b,0,none⟩ underlying102 hj;have h0:=hc.c0;clear hj;go_in;go_wp2;go_ret;exact⟨rfl,rfl⟩
theorem qz5z(w:World) :
 Calls prog 64 #[] w fun e w'=>e=.returned (.pointer (some ⟨w.heap.size,0,none⟩))/\Rd w' w.heap.size 0 0 0/\Below w.heap.size w w':=by
 go_in;go_wp2;go_ret;exact⟨rfl,heap_alloc_new w _,(Below.refl _ _).alloc (Nat.le_refl _) _⟩
theorem qh0o(v n:Nat)(x:UInt8)(hv:v<128^n)(hn:n<4):bits .or .i64 (v:Int) (IntKind.i64.wrap ((x.toNat:Int)%128*2^(7*(n:Int)).toNat))=((grow v n x:Nat):Int):=by
 have e1:(7*(n:Int)).toNat=7*n:=by omega
 have e128:(128:Nat)^n=2^(7*n):=by rw[Nat.pow_mul]
 have hp:(2:Nat)^(7*n)<=2^21:=Nat.pow_le_pow_right (by decide) (by omega);have hx:x.toNat%128<=127:=by omega
 have hm:x.toNat%128*2^(7*n)<=127*2^21:=Nat.mul_le_mul hx hp;have e2:(x.toNat:Int)%128*2^(7*n)=((x.toNat%128*2^(7*n):Nat):Int):=by simp
 unfold grow;rw[e128] at hv ⊢;rw[e1,e2,IntWalk.i64_in _ (by omega)];rw[(bits_nat .i64 28 (by decide) (fun m h0 h1=>IntWalk.i64_in _ (by omega)) v (x.toNat%128*2^(7*n)) (by omega) (by omega)).2]
 congr 1
 rw[Nat.or_comm,Nat.mul_comm,<-Nat.two_pow_add_eq_or_of_lt hv (x.toNat%128)];omega
theorem qh0d{w:World}{b v n:Nat}(x:UInt8)(hc:Rd w b v n 0)(hv:v<128^n)(hn:n<4)(hx:nxt x (n+1)=0) :
 Calls prog 65 #[.pointer (some ⟨b,0,none⟩),.int .u8 x.toNat] w fun e w'=>e=.returned (.tuple #[.bool false,.int .i64 0])/\Rd w' b (grow v n x) (n+1) 0/\w.grownBy w' (some b):=by
 have h1:=hc.c1;have h2:=hc.c2;have h3:=hc.c3;have f1:=hc.fr 1;have f2:=hc.fr 2;have f3:=hc.fr 3;have ha:=qbg0 x;have e1:IntKind.i64.wrap ((x.toNat:Int)%128)=(x.toNat:Int)%128:=IntWalk.i64_in _ (by omega);have e2:IntKind.i64.wrap (7*(n:Int))=7*(n:Int):=IntWalk.i64_in _ (by omega);have e3:(0:Int)<=7*(n:Int):=by omega
 have e4:=qh0o v n x hv hn;have NX:=hid (show ∀W,Calls prog 82 #[.int .u8 x.toNat,.int .i64 ((n:Int)+1)] W fun e w'=>e=.returned (.int .i64 0)/\W=w' from fun W=>by have h:=qnz1 x (n+1) W;rw[hx] at h;exact h)
 clear hx;generalize grow v n x=u at e4;go_in;go_wp2_with (go_at_call 81;refine(quhv hc).mono ?_;rintro e' w' ⟨rfl,rfl⟩)
 go_still_tail 16,(by kernel_rfl)
 change wpList _ _ _ _ _ w.drew;have hd:Rd w.drew b v n 0:=hc.drew;have hg:w.grownBy w.drew (some b):=⟨rfl,rfl,rfl,Nat.le_refl _,fun _ _ _=>rfl⟩
 generalize w.drew=W at hd hg;clear h1 h2 h3 f1 f2 f3;have h1:=hd.c1;have h2:=hd.c2;have h3:=hd.c3;have f1:=hd.fr 1;have f2:=hd.fr 2;have f3:=hd.fr 3;go_wp2_with (go_at_call 82;refine(NX.out _).mono ?_;rintro e' w' ⟨rfl,rfl⟩)
 go_ret2
 exact⟨rfl,((hd.val u).siz (n+1)).sta 0,qo6d hg (qo6d (qo6d (q99v _ _ _ _) (q99v _ _ _ _)) (q99v _ _ _ _))⟩
theorem qhre{w:World}{b v n:Nat}(x:UInt8)(hc:Rd w b v n 0)(hv:v<128^n)(hn:n<4)(hx:nxt x (n+1)=1) :
 Calls prog 65 #[.pointer (some ⟨b,0,none⟩),.int .u8 x.toNat] w fun e w'=>e=.returned (.tuple #[.bool true,.int .i64 0])/\Rd w' b (grow v n x) (n+1) 1/\w.grownBy w' (some b):=by
 have h1:=hc.c1;have h2:=hc.c2;have h3:=hc.c3;have f1:=hc.fr 1;have f2:=hc.fr 2;have f3:=hc.fr 3;have ha:=qbg0 x;have e1:IntKind.i64.wrap ((x.toNat:Int)%128)=(x.toNat:Int)%128:=IntWalk.i64_in _ (by omega);have e2:IntKind.i64.wrap (7*(n:Int))=7*(n:Int):=IntWalk.i64_in _ (by omega);have e3:(0:Int)<=7*(n:Int):=by omega
 have e4:=qh0o v n x hv hn;have NX:=hid (show ∀W,Calls prog 82 #[.int .u8 x.toNat,.int .i64 ((n:Int)+1)] W fun e w'=>e=.returned (.int .i64 1)/\W=w' from fun W=>by have h:=qnz1 x (n+1) W;rw[hx] at h;exact h)
 clear hx;generalize grow v n x=u at e4;go_in;go_wp2_with (go_at_call 81;refine(quhv hc).mono ?_;rintro e' w' ⟨rfl,rfl⟩)
 go_still_tail 16,(by kernel_rfl)
 change wpList _ _ _ _ _ w.drew;have hd:Rd w.drew b v n 0:=hc.drew;have hg:w.grownBy w.drew (some b):=⟨rfl,rfl,rfl,Nat.le_refl _,fun _ _ _=>rfl⟩
 generalize w.drew=W at hd hg;clear h1 h2 h3 f1 f2 f3;have h1:=hd.c1;have h2:=hd.c2;have h3:=hd.c3;have f1:=hd.fr 1;have f2:=hd.fr 2;have f3:=hd.fr 3;go_wp2_with (go_at_call 82;refine(NX.out _).mono ?_;rintro e' w' ⟨rfl,rfl⟩)
 go_ret2
 exact⟨rfl,((hd.val u).siz (n+1)).sta 1,qo6d hg (qo6d (qo6d (q99v _ _ _ _) (q99v _ _ _ _)) (q99v _ _ _ _))⟩
theorem qdxq{w:World}{b v n:Nat}(x:UInt8)(hc:Rd w b v n 0)(hv:v<128^n)(hn:n<4)(hx:nxt x (n+1)=2) :
 Calls prog 65 #[.pointer (some ⟨b,0,none⟩),.int .u8 x.toNat] w fun e w'=>e=.returned (.tuple #[.bool false,.int .i64 5])/\Rd w' b (grow v n x) (n+1) 2/\w.grownBy w' (some b):=by
 have h1:=hc.c1;have h2:=hc.c2;have h3:=hc.c3;have f1:=hc.fr 1;have f2:=hc.fr 2;have f3:=hc.fr 3;have ha:=qbg0 x;have e1:IntKind.i64.wrap ((x.toNat:Int)%128)=(x.toNat:Int)%128:=IntWalk.i64_in _ (by omega);have e2:IntKind.i64.wrap (7*(n:Int))=7*(n:Int):=IntWalk.i64_in _ (by omega);have e3:(0:Int)<=7*(n:Int):=by omega
 have e4:=qh0o v n x hv hn;have NX:=hid (show ∀W,Calls prog 82 #[.int .u8 x.toNat,.int .i64 ((n:Int)+1)] W fun e w'=>e=.returned (.int .i64 2)/\W=w' from fun W=>by have h:=qnz1 x (n+1) W;rw[hx] at h;exact h)
 clear hx;generalize grow v n x=u at e4;go_in;go_wp2_with (go_at_call 81;refine(quhv hc).mono ?_;rintro e' w' ⟨rfl,rfl⟩)
 go_still_tail 16,(by kernel_rfl)
 change wpList _ _ _ _ _ w.drew;have hd:Rd w.drew b v n 0:=hc.drew;have hg:w.grownBy w.drew (some b):=⟨rfl,rfl,rfl,Nat.le_refl _,fun _ _ _=>rfl⟩
 generalize w.drew=W at hd hg;clear h1 h2 h3 f1 f2 f3;have h1:=hd.c1;have h2:=hd.c2;have h3:=hd.c3;have f1:=hd.fr 1;have f2:=hd.fr 2;have f3:=hd.fr 3;go_wp2_with (go_at_call 82;refine(NX.out _).mono ?_;rintro e' w' ⟨rfl,rfl⟩)
 go_ret2
 exact⟨rfl,((hd.val u).siz (n+1)).sta 2,qo6d hg (qo6d (qo6d (q99v _ _ _ _) (q99v _ _ _ _)) (q99v _ _ _ _))⟩
theorem qe0g(s:ByteArray)(k:Nat)(h:k<s.size):s.data.toList.drop k=s[k]::s.data.toList.drop (k+1):=by rw[List.drop_eq_getElem_cons (by simpa using h)];rfl
theorem qhwc(s:ByteArray):s.data.toList.drop s.size=[]:=List.drop_of_length_le (by simp)
def q51h(l:List UInt8):Ending := .returned (.tuple #[.int .i64 (rdV l),.int .i64 (rdN l),.int .i64 (rdE l)])
theorem qxud{l:List UInt8}{v n st:Nat}{a b c:Int}(h:run 0 0 l=(v,n,st))(ha:((if st=1 then v else 0:Nat):Int)=a)(hb:((if st=1 then n else 0:Nat):Int)=b)
 (hc:((if st=0 then 3 else if st=1 then 0 else 5:Nat):Int)=c):Ending.returned (.tuple #[.int .i64 a,.int .i64 b,.int .i64 c])=q51h l:=by
 obtain⟨h1,h2,h3⟩:=rd_of h;rw[<-ha,<-hb,<-hc,<-h1,<-h2,<-h3];rfl
def qxfh(l:List UInt8)(w:World)(e:Ending)(w':World):Prop:=e=q51h l/\Below w.heap.size w w'
def q905(w:World)(l:List UInt8)(k:Nat)(wr:World):Prop:=∃v,k<4/\v<128^k/\Rd wr w.heap.size v k 0/\Below w.heap.size w wr/\run 0 0 l=run v k (l.drop k)
theorem q58y{w wr w1:World}(hb:Below w.heap.size w wr)(hg:wr.grownBy w1 (some w.heap.size)):Below w.heap.size w w1:=
 hb.grown hg hb.size (fun k hk=>by cases hk;exact Nat.le_refl _)
theorem q6w6(s:ByteArray)(w:World)(_hm:s.size<=9223372036854775807) :
 Calls prog 39 #[.string s] w (qxfh s.data.toList w):=by
 go_in;go_wp2_with fail;refine(qz5z _).mono ?_;rintro e w1 ⟨rfl,hr,hb⟩;have H:=hid (show q905 w s.data.toList 0 w1 from⟨0,by decide,by decide,hr,hb,rfl⟩);clear hr hb;go_wp2_with fail
 go_loopw [12] (fun i wr=>∃k:Nat,k<=s.size/\i=.int .i64 k/\q905 w s.data.toList k wr) (fun i _=>s.size-(intOf i).toNat)
 case atStart=>exact⟨0,Nat.zero_le _,rfl,H.out⟩
 case round=>
  obtain⟨k,hk,rfl,v,hk4,hv,hr,hb,hrun⟩:=hrel;clear H;by_cases hlt:k<s.size
  ·have hd:=qe0g s k hlt;have RUN:=hid hrun;have D:=hid hd;clear hrun hd;rcases qlf0 s[k] (k+1) with hx|hx|hx
   ·have NX:=hid hx;clear hx;go_wp2_with fail;refine(qh0d s[k] hr hv hk4 NX.out).mono ?_;rintro e w2 ⟨rfl,hr2,hg⟩;have hb2:=q58y hb hg;go_wp2_with fail
    go_roundw
    case rel=>have h4:=(qv8z.1 NX.out).2;refine⟨k+1,by omega,by go_num,_,by omega,qpfr _ hv,hr2,hb2,?_⟩;rw[RUN.out,D.out,qomx _ NX.out]
    case measure=>simp[intOf];omega
   ·have NX:=hid hx;clear hx;go_wp2_with fail;refine(qhre s[k] hr hv hk4 NX.out).mono ?_;rintro e w2 ⟨rfl,hr2,hg⟩;have hb2:=q58y hb hg;have RR:=hid (qxud (l:=s.data.toList) (v:=grow v k s[k]) (n:=k+1) (st:=1) (by rw[RUN.out,D.out,q408 _ (by rw[NX.out];decide),NX.out]) rfl rfl rfl);have h1:=hr2.c1;have h2:=hr2.c2;go_wp2_with fail;go_quiet (fail);go_wp2
    go_ret3
    exact⟨RR.out,qnpu hb2 _⟩
   ·have NX:=hid hx;clear hx;go_wp2_with fail;refine(qdxq s[k] hr hv hk4 NX.out).mono ?_;rintro e w2 ⟨rfl,hr2,hg⟩;have hb2:=q58y hb hg;have RR:=hid (qxud (l:=s.data.toList) (v:=grow v k s[k]) (n:=k+1) (st:=2) (by rw[RUN.out,D.out,q408 _ (by rw[NX.out];decide),NX.out]) rfl rfl rfl);go_wp2
    go_ret3
    exact⟨RR.out,hb2⟩
  ·obtain rfl:k=s.size:=by omega
   have RR:=hid (qxud (l:=s.data.toList) (v:=v) (n:=s.size) (st:=0) (by rw[hrun,qhwc];rfl) rfl rfl rfl);clear hrun;go_wp2
   go_ret3
   exact⟨RR.out,hb⟩
structure UsS(w:World)(p:Pk)(a:Ad)(x:Pk)(b:Ad)(W:World):Prop where
 low:Below w.heap.size w W
 box:W.heap[w.heap.size]?=some (.cells (pkC p a) 32 (0,0))
 res:W.heap[w.heap.size+1]?=some (.cells pkZ 32 (0,0))
 new:W.heap[w.heap.size+1+1]?=some (.cells (pkC x b) 32 (0,0))
section
variable{w W W':World}{p x:Pk}{a b:Ad}
theorem UsS.cell(h:UsS w p a x b W)(j:Nat):W.cell? ⟨w.heap.size,j,none⟩=(pkC p a)[j]? := cell_of_row _ _ j _ _ _ h.box
theorem UsS.ncell(h:UsS w p a x b W)(j:Nat):W.cell? ⟨w.heap.size+1+1,j,none⟩=(pkC x b)[j]? := cell_of_row _ _ j _ _ _ h.new
theorem UsS.fr(h:UsS w p a x b W)(j:Nat):W.frozen? ⟨w.heap.size+1+1,j,none⟩=false:=frozen_of_row _ _ _ _ _ h.new
theorem UsS.put(h:UsS w p a x b W)(j:Nat)(u:Value){x':Pk}{b':Ad}(he:(pkC x b).setIfInBounds j u=pkC x' b'):UsS w p a x' b' (W.setCell ⟨w.heap.size+1+1,j,none⟩ u):=
 ⟨h.low.setCell (by show _<=w.heap.size+1+1;omega) u,(heap_setCell_other W ⟨w.heap.size+1+1,j,none⟩ _ u (by show w.heap.size≠w.heap.size+1+1;omega)).trans h.box,(heap_setCell_other W ⟨w.heap.size+1+1,j,none⟩ _ u (by show w.heap.size+1≠w.heap.size+1+1;omega)).trans h.res,
  by have:=qlvy h.new j u;rw[he] at this;exact this⟩
theorem UsS.call(h:UsS w p a x b W)(hb:Below W.heap.size W W'):UsS w p a x b W':=
 ⟨qxh2 h.low hb,(hb.block _ (lt_of_block h.box)).trans h.box,(hb.block _ (lt_of_block h.res)).trans h.res,(hb.block _ (lt_of_block h.new)).trans h.new⟩
theorem UsS.drew(h:UsS w p a x b W):UsS w p a x b W.drew:=⟨h.low.drew,h.box,h.res,h.new⟩
end
def q3zb(p:Pk):Array Value:=#[.int .i64 p.kind,.int .i64 p.qos,.int .i64 p.id,.int .i64 p.keep,.int .i64 p.code,.int .i64 p.wQos]
theorem q93c:(prog.info? 189).map (·.size)=some 6:=by kernel_rfl
theorem q8oq(p:Pk):(q3zb p).all (·.oneCell')=true:=by simp[q3zb,Value.oneCell']
theorem qi7b(p:Pk)(a:Ad)(w:World):Calls prog 175 #[pkV p a] w fun e w'=>e=.returned (.agg (q3zb p))/\Below w.heap.size w w':=by
 have HB:=hid (fun o o'=>qxh2 (qybm (w:=w) o) (qybm o'));have HN:=hid (fun o o'=>heap_alloc2_new w o o');have c0:(pkC p a)[0]?=some (.int .i64 p.kind):=rfl;have c3:(pkC p a)[3]?=some (.int .i64 p.qos):=rfl;have c4:(pkC p a)[4]?=some (.int .i64 p.id):=rfl;have c8:(pkC p a)[8]?=some (.int .i64 p.keep):=rfl;have c21:(pkC p a)[21]?=some (.int .i64 p.code):=rfl;have c17:(pkC p a)[17]?=some (.int .i64 p.wQos):=rfl;have hone:=q8oq p;have hsz:(q3zb p).size=6:=rfl;have hdef:q3zb p=#[.int .i64 p.kind,.int .i64 p.qos,.int .i64 p.id,.int .i64 p.keep,.int .i64 p.code,.int .i64 p.wQos]:=rfl;unfold pkV;generalize pkC p a=C at *;generalize q3zb p=D at *;generalize p.kind=v0 at *;generalize p.qos=v3 at *;generalize p.id=v4 at *;generalize p.keep=v8 at *;generalize p.code=v21 at *;generalize p.wQos=v17 at *;have H1:=hid hone;have H2:=hid hsz;have H3:=hid hdef;clear hone hsz hdef;go_in;go_wp2_with (first
  |(refine wpList_buildTo rfl 189 _ rfl (some 16) rfl D (by rw[H3.out];kernel_rfl) ?_)
  |(refine wpList_store_row rfl _ _ _ rfl (w.heap.size+1) D rfl rfl 189 _ (HN.out _ _) ?b1 ?b2 ?b3 ?_))
 case b1=>rw[H2.out];exact q93c
 case b2=>rw[H2.out];rfl
 case b3=>exact H1.out
 refine q7wi (cs:=D) rfl rfl rfl underlying189 rfl (by rw[H2.out];exact q93c) (setRow_heap _ _ _ _ _ _ (HN.out _ _)) ?_;exact⟨rfl,q8xz (HB.out _ _) (by omega) _⟩
theorem qnle(x0 y0 x1 y1 x2 y2 x3 y3 x4 y4 x5 y5:Int)(w:World):(Op.equalIn 10000 189 (.agg #[.int .i64 x0,.int .i64 x1,.int .i64 x2,.int .i64 x3,.int .i64 x4,.int .i64 x5]) (.agg #[.int .i64 y0,.int .i64 y1,.int .i64 y2,.int .i64 y3,.int .i64 y4,.int .i64 y5])).run prog w=.ok ((x0==y0)&&(x1==y1)&&(x2==y2)&&(x3==y3)&&(x4==y4)&&(x5==y5)) w:=by have u3:=underlying3;have a3:=Tryz.isAgg3;have z3:=Tryz.sizeOf3;rw[show(10000:Nat)=9999+1 from rfl,Op.equalIn];simp only[Sem.run_bind,run_underlying underlying189,Result.andThen_ok];simp only[Std.Legacy.Range.forIn_eq_forIn_range',Std.Legacy.Range.size,Nat.sub_zero,Nat.add_sub_cancel,Nat.div_one,List.range'_succ,List.range'_zero,List.forIn_cons,List.forIn_nil];go_simp;by_cases h0:x0=y0<;>by_cases h1:x1=y1<;>by_cases h2:x2=y2<;>by_cases h3:x3=y3<;>by_cases h4:x4=y4<;>by_cases h5:x5=y5<;>simp[h0,h1,h2,h3,h4,h5]
theorem qh1o(p q:Pk)(w:World):(binOp .eql 189 (.agg (q3zb p)) (.agg (q3zb q))).run prog w=.ok (.bool (decide (p.nums=q.nums))) w:=by
 rw[run_eql_struct];unfold q3zb;rw[qnle];show Result.ok (Value.bool _) w=_
 congr 2
 rw[Bool.eq_iff_iff];simp[Pk.nums,and_assoc]
def qjjk(p:Pk):Array Value:=#[.bool p.dup,.bool p.retain,.bool p.clean,.bool p.hasUser,.bool p.hasPass,.bool p.hasWill,.bool p.session,.bool p.wRetain]
theorem qa72:(prog.info? 191).map (·.size)=some 8:=by kernel_rfl
theorem qai1(p:Pk):(qjjk p).all (·.oneCell')=true:=by simp[qjjk,Value.oneCell']
theorem qu0d(p:Pk)(a:Ad)(w:World):Calls prog 176 #[pkV p a] w fun e w'=>e=.returned (.agg (qjjk p))/\Below w.heap.size w w':=by
 have HB:=hid (fun o o'=>qxh2 (qybm (w:=w) o) (qybm o'));have HN:=hid (fun o o'=>heap_alloc2_new w o o');have c1:(pkC p a)[1]?=some (.bool p.dup):=rfl;have c2:(pkC p a)[2]?=some (.bool p.retain):=rfl;have c7:(pkC p a)[7]?=some (.bool p.clean):=rfl;have c10:(pkC p a)[10]?=some (.bool p.hasUser):=rfl;have c12:(pkC p a)[12]?=some (.bool p.hasPass):=rfl;have c14:(pkC p a)[14]?=some (.bool p.hasWill):=rfl;have c20:(pkC p a)[20]?=some (.bool p.session):=rfl;have c18:(pkC p a)[18]?=some (.bool p.wRetain):=rfl;have hone:=qai1 p;have hsz:(qjjk p).size=8:=rfl;have hdef:qjjk p=#[.bool p.dup,.bool p.retain,.bool p.clean,.bool p.hasUser,.bool p.hasPass,.bool p.hasWill,.bool p.session,.bool p.wRetain]:=rfl;unfold pkV;generalize pkC p a=C at *;generalize qjjk p=D at *;generalize p.dup=v1 at *;generalize p.retain=v2 at *;generalize p.clean=v7 at *;generalize p.hasUser=v10 at *;generalize p.hasPass=v12 at *;generalize p.hasWill=v14 at *;generalize p.session=v20 at *;generalize p.wRetain=v18 at *;have H1:=hid hone;have H2:=hid hsz;have H3:=hid hdef;clear hone hsz hdef;go_in;go_wp2_with (first
  |(refine wpList_buildTo rfl 191 _ rfl (some 20) rfl D (by rw[H3.out];kernel_rfl) ?_)
  |(refine wpList_store_row rfl _ _ _ rfl (w.heap.size+1) D rfl rfl 191 _ (HN.out _ _) ?b1 ?b2 ?b3 ?_))
 case b1=>rw[H2.out];exact qa72
 case b2=>rw[H2.out];rfl
 case b3=>exact H1.out
 refine q7wi (cs:=D) rfl rfl rfl underlying191 rfl (by rw[H2.out];exact qa72) (setRow_heap _ _ _ _ _ _ (HN.out _ _)) ?_;exact⟨rfl,q8xz (HB.out _ _) (by omega) _⟩
theorem qu29(x0 y0 x1 y1 x2 y2 x3 y3 x4 y4 x5 y5 x6 y6 x7 y7:Bool)(w:World):(Op.equalIn 10000 191 (.agg #[.bool x0,.bool x1,.bool x2,.bool x3,.bool x4,.bool x5,.bool x6,.bool x7]) (.agg #[.bool y0,.bool y1,.bool y2,.bool y3,.bool y4,.bool y5,.bool y6,.bool y7])).run prog w=.ok ((x0==y0)&&(x1==y1)&&(x2==y2)&&(x3==y3)&&(x4==y4)&&(x5==y5)&&(x6==y6)&&(x7==y7)) w:=by have u3:=underlying4;have a3:=Tryz.isAgg4;have z3:=Tryz.sizeOf4;rw[show(10000:Nat)=9999+1 from rfl,Op.equalIn];simp only[Sem.run_bind,run_underlying underlying191,Result.andThen_ok];simp only[Std.Legacy.Range.forIn_eq_forIn_range',Std.Legacy.Range.size,Nat.sub_zero,Nat.add_sub_cancel,Nat.div_one,List.range'_succ,List.range'_zero,List.forIn_cons,List.forIn_nil];go_simp;by_cases h0:x0=y0<;>by_cases h1:x1=y1<;>by_cases h2:x2=y2<;>by_cases h3:x3=y3<;>by_cases h4:x4=y4<;>by_cases h5:x5=y5<;>by_cases h6:x6=y6<;>by_cases h7:x7=y7<;>simp[h0,h1,h2,h3,h4,h5,h6,h7]
theorem quaf(p q:Pk)(w:World):(binOp .eql 191 (.agg (qjjk p)) (.agg (qjjk q))).run prog w=.ok (.bool (decide (p.marks=q.marks))) w:=by
 rw[run_eql_struct];unfold qjjk;rw[qu29];show Result.ok (Value.bool _) w=_
 congr 2
 rw[Bool.eq_iff_iff];simp[Pk.marks,and_assoc]
def q5cx(p:Pk):Array Value:=#[.string (bs p.topic),.string (bs p.payload),.string (bs p.client),.string (bs p.user),.string (bs p.pass),.string (bs p.wTopic),.string (bs p.wPayload)]
theorem qebr:(prog.info? 193).map (·.size)=some 7:=by kernel_rfl
theorem qzoi(p:Pk):(q5cx p).all (·.oneCell')=true:=by simp[q5cx,Value.oneCell']
theorem quge(p:Pk)(a:Ad)(w:World):Calls prog 177 #[pkV p a] w fun e w'=>e=.returned (.agg (q5cx p))/\Below w.heap.size w w':=by
 have HB:=hid (fun o o'=>qxh2 (qybm (w:=w) o) (qybm o'));have HN:=hid (fun o o'=>heap_alloc2_new w o o');have c5:(pkC p a)[5]?=some (.string (bs p.topic)):=rfl;have c6:(pkC p a)[6]?=some (.string (bs p.payload)):=rfl;have c9:(pkC p a)[9]?=some (.string (bs p.client)):=rfl;have c11:(pkC p a)[11]?=some (.string (bs p.user)):=rfl;have c13:(pkC p a)[13]?=some (.string (bs p.pass)):=rfl;have c15:(pkC p a)[15]?=some (.string (bs p.wTopic)):=rfl;have c16:(pkC p a)[16]?=some (.string (bs p.wPayload)):=rfl;have hone:=qzoi p;have hsz:(q5cx p).size=7:=rfl;have hdef:q5cx p=#[.string (bs p.topic),.string (bs p.payload),.string (bs p.client),.string (bs p.user),.string (bs p.pass),.string (bs p.wTopic),.string (bs p.wPayload)]:=rfl;unfold pkV;generalize pkC p a=C at *;generalize q5cx p=D at *;generalize bs p.topic=v5 at *;generalize bs p.payload=v6 at *;generalize bs p.client=v9 at *;generalize bs p.user=v11 at *;generalize bs p.pass=v13 at *;generalize bs p.wTopic=v15 at *;generalize bs p.wPayload=v16 at *;have H1:=hid hone;have H2:=hid hsz;have H3:=hid hdef;clear hone hsz hdef;go_in;go_wp2_with (first
  |(refine wpList_buildTo rfl 193 _ rfl (some 19) rfl D (by rw[H3.out];kernel_rfl) ?_)
  |(refine wpList_store_row rfl _ _ _ rfl (w.heap.size+1) D rfl rfl 193 _ (HN.out _ _) ?b1 ?b2 ?b3 ?_))
 case b1=>rw[H2.out];exact qebr
 case b2=>rw[H2.out];rfl
 case b3=>exact H1.out
 refine q7wi (cs:=D) rfl rfl rfl underlying193 rfl (by rw[H2.out];exact qebr) (setRow_heap _ _ _ _ _ _ (HN.out _ _)) ?_;exact⟨rfl,q8xz (HB.out _ _) (by omega) _⟩
theorem qase(x0 y0 x1 y1 x2 y2 x3 y3 x4 y4 x5 y5 x6 y6:ByteArray)(w:World):(Op.equalIn 10000 193 (.agg #[.string x0,.string x1,.string x2,.string x3,.string x4,.string x5,.string x6]) (.agg #[.string y0,.string y1,.string y2,.string y3,.string y4,.string y5,.string y6])).run prog w=.ok ((x0.toList==y0.toList)&&(x1.toList==y1.toList)&&(x2.toList==y2.toList)&&(x3.toList==y3.toList)&&(x4.toList==y4.toList)&&(x5.toList==y5.toList)&&(x6.toList==y6.toList)) w:=by have u3:=underlying9;have a3:=Tryz.isAgg9;have z3:=Tryz.sizeOf9;rw[show(10000:Nat)=9999+1 from rfl,Op.equalIn];simp only[Sem.run_bind,run_underlying underlying193,Result.andThen_ok];simp only[Std.Legacy.Range.forIn_eq_forIn_range',Std.Legacy.Range.size,Nat.sub_zero,Nat.add_sub_cancel,Nat.div_one,List.range'_succ,List.range'_zero,List.forIn_cons,List.forIn_nil];go_simp;by_cases h0:x0.toList=y0.toList<;>by_cases h1:x1.toList=y1.toList<;>by_cases h2:x2.toList=y2.toList<;>by_cases h3:x3.toList=y3.toList<;>by_cases h4:x4.toList=y4.toList<;>by_cases h5:x5.toList=y5.toList<;>by_cases h6:x6.toList=y6.toList<;>simp[h0,h1,h2,h3,h4,h5,h6]
theorem q6p1(p q:Pk)(w:World):(binOp .eql 193 (.agg (q5cx p)) (.agg (q5cx q))).run prog w=.ok (.bool (decide (p.texts=q.texts))) w:=by
 rw[run_eql_struct];unfold q5cx;rw[qase];show Result.ok (Value.bool _) w=_
 congr 2
 rw[Bool.eq_iff_iff];simp[Pk.texts,q0c6,and_assoc]
theorem qbkq(p q:Pr)(w:World) :
 Calls prog 183 #[qbhk p,qbhk q] w fun e w'=>e=.returned (.bool (decide (p=q)))/\Below w.heap.size w w':=by
 have HB:=hid (fun o o'=>qxh2 (qybm (w:=w) o) (qybm o'));unfold qbhk;obtain⟨D,hD⟩:∃D,decide (p=q)=D:=⟨_,rfl⟩
 rw[hD];have hno:p≠q->D=false:=fun h=>by rw[<-hD];exact decide_eq_false h
 have HNO:=hid hno;have HD:=hid hD;clear hno hD;rcases qzlf p q with h|h|⟨h1,h2⟩|⟨h1,h2,h3⟩|⟨h1,h2,h3,h4⟩
 ·have hD:D=true:=by rw[<-HD.out];exact decide_eq_true h
  subst h hD;clear HD HNO;generalize p.id=x0;generalize ((p.n:Nat):Int)=x1;generalize bs p.text=x2;generalize bs p.value=x3;go_in;go_wp2;go_ret;exact⟨rfl,HB.out _ _⟩
 ·have hD:=HNO.out (fun e=>by rw[e] at h;simp at h);clear HD HNO;subst hD;generalize p.id=x0 at *;generalize ((p.n:Nat):Int)=x1 at *;generalize bs p.text=x2 at *;generalize bs p.value=x3 at *;generalize q.id=y0 at *;generalize ((q.n:Nat):Int)=y1 at *;generalize bs q.text=y2 at *;generalize bs q.value=y3 at *;go_in;go_wp2;go_ret;exact⟨rfl,HB.out _ _⟩
 ·have hD:=HNO.out (fun e=>by rw[e] at h2;simp at h2);clear HD HNO;subst hD;rw[h1];clear h1;generalize p.id=x0 at *;generalize ((p.n:Nat):Int)=x1 at *;generalize bs p.text=x2 at *;generalize bs p.value=x3 at *;generalize q.id=y0 at *;generalize ((q.n:Nat):Int)=y1 at *;generalize bs q.text=y2 at *;generalize bs q.value=y3 at *;go_in;go_wp2;go_ret;exact⟨rfl,HB.out _ _⟩
 ·have hD:=HNO.out (fun e=>by rw[e] at h3;simp at h3);clear HD HNO;subst hD;rw[h1];rw[h2];clear h1 h2;generalize p.id=x0 at *;generalize ((p.n:Nat):Int)=x1 at *;generalize bs p.text=x2 at *;generalize bs p.value=x3 at *;generalize q.id=y0 at *;generalize ((q.n:Nat):Int)=y1 at *;generalize bs q.text=y2 at *;generalize bs q.value=y3 at *;go_in;go_wp2;go_ret;exact⟨rfl,HB.out _ _⟩
 ·have hD:=HNO.out (fun e=>by rw[e] at h4;simp at h4);clear HD HNO;subst hD;rw[h1];rw[h2];rw[h3];clear h1 h2 h3;generalize p.id=x0 at *;generalize ((p.n:Nat):Int)=x1 at *;generalize bs p.text=x2 at *;generalize bs p.value=x3 at *;generalize q.id=y0 at *;generalize ((q.n:Nat):Int)=y1 at *;generalize bs q.text=y2 at *;generalize bs q.value=y3 at *;go_in;go_wp2;go_ret;exact⟨rfl,HB.out _ _⟩
theorem qqwl(p q:Fi)(w:World) :
 Calls prog 181 #[fiV p,fiV q] w fun e w'=>e=.returned (.bool (decide (p=q)))/\Below w.heap.size w w':=by
 have HB:=hid (fun o o'=>qxh2 (qybm (w:=w) o) (qybm o'));unfold fiV;obtain⟨D,hD⟩:∃D,decide (p=q)=D:=⟨_,rfl⟩
 rw[hD];have hno:p≠q->D=false:=fun h=>by rw[<-hD];exact decide_eq_false h
 have HNO:=hid hno;have HD:=hid hD;clear hno hD;rcases qpuj p q with h|h|⟨h1,h2⟩|⟨h1,h2,h3⟩|⟨h1,h2,h3,h4⟩|⟨h1,h2,h3,h4,h5⟩
 ·have hD:D=true:=by rw[<-HD.out];exact decide_eq_true h
  subst h hD;clear HD HNO;generalize bs p.topic=x0;generalize p.qos=x1;generalize p.noLocal=x2;generalize p.asPub=x3;generalize p.handling=x4;go_in;go_wp2;go_ret;exact⟨rfl,HB.out _ _⟩
 ·have hD:=HNO.out (fun e=>by rw[e] at h;simp at h);clear HD HNO;subst hD;generalize bs p.topic=x0 at *;generalize p.qos=x1 at *;generalize p.noLocal=x2 at *;generalize p.asPub=x3 at *;generalize p.handling=x4 at *;generalize bs q.topic=y0 at *;generalize q.qos=y1 at *;generalize q.noLocal=y2 at *;generalize q.asPub=y3 at *;generalize q.handling=y4 at *;go_in;go_wp2;go_ret;exact⟨rfl,HB.out _ _⟩
 ·have hD:=HNO.out (fun e=>by rw[e] at h2;simp at h2);clear HD HNO;subst hD;rw[h1];clear h1;generalize bs p.topic=x0 at *;generalize p.qos=x1 at *;generalize p.noLocal=x2 at *;generalize p.asPub=x3 at *;generalize p.handling=x4 at *;generalize bs q.topic=y0 at *;generalize q.qos=y1 at *;generalize q.noLocal=y2 at *;generalize q.asPub=y3 at *;generalize q.handling=y4 at *;go_in;go_wp2;go_ret;exact⟨rfl,HB.out _ _⟩
 ·have hD:=HNO.out (fun e=>by rw[e] at h3;simp at h3);clear HD HNO;subst hD;rw[h1];rw[h2];clear h1 h2;generalize bs p.topic=x0 at *;generalize p.qos=x1 at *;generalize p.noLocal=x2 at *;generalize p.asPub=x3 at *;generalize p.handling=x4 at *;generalize bs q.topic=y0 at *;generalize q.qos=y1 at *;generalize q.noLocal=y2 at *;generalize q.asPub=y3 at *;generalize q.handling=y4 at *;go_in;go_wp2;go_ret;exact⟨rfl,HB.out _ _⟩
 ·have hD:=HNO.out (fun e=>by rw[e] at h4;simp at h4);clear HD HNO;subst hD;rw[h1];rw[h2];rw[h3];clear h1 h2 h3;generalize bs p.topic=x0 at *;generalize p.qos=x1 at *;generalize p.noLocal=x2 at *;generalize p.asPub=x3 at *;generalize p.handling=x4 at *;generalize bs q.topic=y0 at *;generalize q.qos=y1 at *;generalize q.noLocal=y2 at *;generalize q.asPub=y3 at *;generalize q.handling=y4 at *;go_in;go_wp2;go_ret;exact⟨rfl,HB.out _ _⟩
 ·have hD:=HNO.out (fun e=>by rw[e] at h5;simp at h5);clear HD HNO;subst hD;rw[h1];rw[h2];rw[h3];rw[h4];clear h1 h2 h3 h4;generalize bs p.topic=x0 at *;generalize p.qos=x1 at *;generalize p.noLocal=x2 at *;generalize p.asPub=x3 at *;generalize p.handling=x4 at *;generalize bs q.topic=y0 at *;generalize q.qos=y1 at *;generalize q.noLocal=y2 at *;generalize q.asPub=y3 at *;generalize q.handling=y4 at *;go_in;go_wp2;go_ret;exact⟨rfl,HB.out _ _⟩
theorem q588(p q:Int)(w:World) :
 Calls prog 179 #[.int .i64 p,.int .i64 q] w fun e w'=>e=.returned (.bool (decide (p=q)))/\Below w.heap.size w w':=by
 have HR:=hid (Below.refl w.heap.size w);have e:(p==q)=decide (p=q):=by rw[Bool.eq_iff_iff];simp
 rw[<-e];clear e;go_in;go_wp2;go_ret;exact⟨rfl,HR.out⟩
theorem qk57(A B:Option Addr)(na nb c d:Nat)(l m:List Pr)(w:World)(hA:PL w A l)(hB:PL w B m)(hla:l.length=na)(hlb:m.length=nb)(hN:na<=70000)(hM:nb<=70000) :
 Calls prog 182 #[.slice A na c,.slice B nb d,.func (.func 183) #[] #[]] w fun e w'=>e=.returned (.bool (decide (l=m)))/\Below w.heap.size w w':=by
 by_cases hn:na=nb
 ·subst hn;obtain⟨D,hD⟩:∃D,decide (l=m)=D:=⟨_,rfl⟩
  rw[hD];have HD:=hid hD;have HA:=hid hA;have HB:=hid hB;have HLA:=hid hla;have HLB:=hid hlb;have B0:=hid (Below.refl w.heap.size w);have q0:(na:Int)<=70000:=by omega
  clear hA hB hla hlb hN hM hD;go_in;go_wp2_with fail
  go_loopg [17] na (fun gk i wr=>∃k:Nat,k<=na/\gk=na-k/\i=.int .i64 (k:Int)/\Below w.heap.size w wr/\∀j p q,j<k->l[j]?=some p->m[j]?=some q->p=q)
  case atStart=>exact⟨0,Nat.zero_le _,rfl,rfl,B0.out,fun j p q h=>by omega⟩
  case round=>
   obtain⟨k,hk,rfl,rfl,hb,hS⟩:=hrel;have HS:=hid hS;have B1:=hid hb;by_cases hlt:k<na
   ·have hkl:k<l.length:=by rw[HLA.out];exact hlt
    have hkm:k<m.length:=by rw[HLB.out];exact hlt
    obtain⟨p,hp⟩:∃p,l[k]?=some p:=⟨_,List.getElem?_eq_getElem hkl⟩
    obtain⟨q,hq⟩:∃q,m[k]?=some q:=⟨_,List.getElem?_eq_getElem hkm⟩
    have HA2:=hid (HA.out.below hb);have HB2:=hid (HB.out.below hb);obtain⟨ga,ia,rfl,la,a0,a1,a2,a3⟩:=HA2.out.at hp;obtain⟨gb,ib,rfl,lb,b0,b1,b2,b3⟩:=HB2.out.at hq;have HP:=hid hp;have HQ:=hid hq;have HL:=hid hlt;have g1:(k:Int)<(na:Int):=by omega
    have g2:=hb.size;have hyes:p=q\/D=false:=by
     by_cases h:p=q
     ·exact .inl h
     ·refine .inr ?_;rw[<-HD.out];exact decide_eq_false fun e=>h (by subst e;exact Option.some.inj (HP.out.symm.trans HQ.out))
    have HY:=hid hyes;have SM:=hid (qbkq p q);obtain⟨E,hE⟩:∃E,decide (p=q)=E:=⟨_,rfl⟩
    rw[hE] at SM;have HE:=hid hE;clear hS hkl hkm hp hq hlt hk hyes hb hE;unfold qbhk at SM;go_wp2_with fail;refine(SM.out _).mono ?_;rintro e w3 ⟨rfl,hb⟩;have B2:=hid (qxh2 (qxh2 (qxh2 B1.out (qybm _)) (qybm _)) hb);clear hb;cases E with
    |true=>
     go_wp2_with fail
     go_roundg (na-(k+1))
     case measure=>have:=HL.out;omega
     case rel=>
      have hpq:p=q:=of_decide_eq_true HE.out;refine⟨k+1,by have:=HL.out;omega,rfl,by go_num,B2.out,fun j u v hj hu hv=>?_⟩;by_cases hjk:j=k
      ·subst hjk;exact((Option.some.inj (hu.symm.trans HP.out)).trans hpq).trans (Option.some.inj (HQ.out.symm.trans hv))
      ·exact HS.out j u v (by omega) hu hv
    |false=>have hD:D=false:=(HY.out).resolve_left (of_decide_eq_false HE.out);subst hD;go_wp2;go_ret;exact⟨rfl,B2.out⟩
   ·obtain rfl:k=na:=by omega
    have hD:D=true:=by rw[<-HD.out];exact decide_eq_true (qs8g HLA.out HLB.out hS)
    subst hD;clear hS hlt hk hb;go_wp2;go_ret;exact⟨rfl,B1.out⟩
 ·have hD:decide (l=m)=false:=decide_eq_false fun e=>hn (by rw[<-hla,<-hlb,e]);have q0:((na:Int) != (nb:Int))=true:=by rw[bne_iff_ne];omega
  have B0:=hid (Below.refl w.heap.size w);rw[hD];clear hA hB hla hlb hN hM hD hn;go_in;go_wp2;go_ret;exact⟨rfl,B0.out⟩
theorem qm9z(A B:Option Addr)(na nb c d:Nat)(l m:List Fi)(w:World)(hA:CL w A (fcs l))(hB:CL w B (fcs m))(hla:l.length=na)(hlb:m.length=nb)(hN:na<=70000)(hM:nb<=70000) :
 Calls prog 180 #[.slice A na c,.slice B nb d,.func (.func 181) #[] #[]] w fun e w'=>e=.returned (.bool (decide (l=m)))/\Below w.heap.size w w':=by
 by_cases hn:na=nb
 ·subst hn;obtain⟨D,hD⟩:∃D,decide (l=m)=D:=⟨_,rfl⟩
  rw[hD];have HD:=hid hD;have HA:=hid hA;have HB:=hid hB;have HLA:=hid hla;have HLB:=hid hlb;have B0:=hid (Below.refl w.heap.size w);have q0:(na:Int)<=70000:=by omega
  clear hA hB hla hlb hN hM hD;go_in;go_wp2_with fail
  go_loopg [17] na (fun gk i wr=>∃k:Nat,k<=na/\gk=na-k/\i=.int .i64 (k:Int)/\Below w.heap.size w wr/\∀j p q,j<k->l[j]?=some p->m[j]?=some q->p=q)
  case atStart=>exact⟨0,Nat.zero_le _,rfl,rfl,B0.out,fun j p q h=>by omega⟩
  case round=>
   obtain⟨k,hk,rfl,rfl,hb,hS⟩:=hrel;have HS:=hid hS;have B1:=hid hb;by_cases hlt:k<na
   ·have hkl:k<l.length:=by rw[HLA.out];exact hlt
    have hkm:k<m.length:=by rw[HLB.out];exact hlt
    obtain⟨p,hp⟩:∃p,l[k]?=some p:=⟨_,List.getElem?_eq_getElem hkl⟩
    obtain⟨q,hq⟩:∃q,m[k]?=some q:=⟨_,List.getElem?_eq_getElem hkm⟩
    have HA2:=hid (HA.out.below hb);have HB2:=hid (HB.out.below hb);obtain⟨ga,ia,rfl,la,a0,a1,a2,a3,a4⟩:=HA2.out.fi hp;obtain⟨gb,ib,rfl,lb,b0,b1,b2,b3,b4⟩:=HB2.out.fi hq;have HP:=hid hp;have HQ:=hid hq;have HL:=hid hlt;have g1:(k:Int)<(na:Int):=by omega
    have g2:=hb.size;have hyes:p=q\/D=false:=by
     by_cases h:p=q
     ·exact .inl h
     ·refine .inr ?_;rw[<-HD.out];exact decide_eq_false fun e=>h (by subst e;exact Option.some.inj (HP.out.symm.trans HQ.out))
    have HY:=hid hyes;have SM:=hid (qqwl p q);obtain⟨E,hE⟩:∃E,decide (p=q)=E:=⟨_,rfl⟩
    rw[hE] at SM;have HE:=hid hE;clear hS hkl hkm hp hq hlt hk hyes hb hE;unfold fiV at SM;go_wp2_with fail;refine(SM.out _).mono ?_;rintro e w3 ⟨rfl,hb⟩;have B2:=hid (qxh2 (qxh2 (qxh2 B1.out (qybm _)) (qybm _)) hb);clear hb;cases E with
    |true=>
     go_wp2_with fail
     go_roundg (na-(k+1))
     case measure=>have:=HL.out;omega
     case rel=>
      have hpq:p=q:=of_decide_eq_true HE.out;refine⟨k+1,by have:=HL.out;omega,rfl,by go_num,B2.out,fun j u v hj hu hv=>?_⟩;by_cases hjk:j=k
      ·subst hjk;exact((Option.some.inj (hu.symm.trans HP.out)).trans hpq).trans (Option.some.inj (HQ.out.symm.trans hv))
      ·exact HS.out j u v (by omega) hu hv
    |false=>have hD:D=false:=(HY.out).resolve_left (of_decide_eq_false HE.out);subst hD;go_wp2;go_ret;exact⟨rfl,B2.out⟩
   ·obtain rfl:k=na:=by omega
    have hD:D=true:=by rw[<-HD.out];exact decide_eq_true (qs8g HLA.out HLB.out hS)
    subst hD;clear hS hlt hk hb;go_wp2;go_ret;exact⟨rfl,B1.out⟩
 ·have hD:decide (l=m)=false:=decide_eq_false fun e=>hn (by rw[<-hla,<-hlb,e]);have q0:((na:Int) != (nb:Int))=true:=by rw[bne_iff_ne];omega
  have B0:=hid (Below.refl w.heap.size w);rw[hD];clear hA hB hla hlb hN hM hD hn;go_in;go_wp2;go_ret;exact⟨rfl,B0.out⟩
theorem q5se(A B:Option Addr)(na nb c d:Nat)(l m:List Int)(w:World)(hA:CL w A (ics l))(hB:CL w B (ics m))(hla:l.length=na)(hlb:m.length=nb)(hN:na<=70000)(hM:nb<=70000) :
 Calls prog 178 #[.slice A na c,.slice B nb d,.func (.func 179) #[] #[]] w fun e w'=>e=.returned (.bool (decide (l=m)))/\Below w.heap.size w w':=by
 by_cases hn:na=nb
 ·subst hn;obtain⟨D,hD⟩:∃D,decide (l=m)=D:=⟨_,rfl⟩
  rw[hD];have HD:=hid hD;have HA:=hid hA;have HB:=hid hB;have HLA:=hid hla;have HLB:=hid hlb;have B0:=hid (Below.refl w.heap.size w);have q0:(na:Int)<=70000:=by omega
  clear hA hB hla hlb hN hM hD;go_in;go_wp2_with fail
  go_loopg [17] na (fun gk i wr=>∃k:Nat,k<=na/\gk=na-k/\i=.int .i64 (k:Int)/\Below w.heap.size w wr/\∀j p q,j<k->l[j]?=some p->m[j]?=some q->p=q)
  case atStart=>exact⟨0,Nat.zero_le _,rfl,rfl,B0.out,fun j p q h=>by omega⟩
  case round=>
   obtain⟨k,hk,rfl,rfl,hb,hS⟩:=hrel;have HS:=hid hS;have B1:=hid hb;by_cases hlt:k<na
   ·have hkl:k<l.length:=by rw[HLA.out];exact hlt
    have hkm:k<m.length:=by rw[HLB.out];exact hlt
    obtain⟨p,hp⟩:∃p,l[k]?=some p:=⟨_,List.getElem?_eq_getElem hkl⟩
    obtain⟨q,hq⟩:∃q,m[k]?=some q:=⟨_,List.getElem?_eq_getElem hkm⟩
    have HA2:=hid (HA.out.below hb);have HB2:=hid (HB.out.below hb);obtain⟨ga,ia,rfl,la,a0⟩:=HA2.out.int hp;obtain⟨gb,ib,rfl,lb,b0⟩:=HB2.out.int hq;have HP:=hid hp;have HQ:=hid hq;have HL:=hid hlt;have g1:(k:Int)<(na:Int):=by omega
    have g2:=hb.size;have hyes:p=q\/D=false:=by
     by_cases h:p=q
     ·exact .inl h
     ·refine .inr ?_;rw[<-HD.out];exact decide_eq_false fun e=>h (by subst e;exact Option.some.inj (HP.out.symm.trans HQ.out))
    have HY:=hid hyes;have SM:=hid (q588 p q);obtain⟨E,hE⟩:∃E,decide (p=q)=E:=⟨_,rfl⟩
    rw[hE] at SM;have HE:=hid hE;clear hS hkl hkm hp hq hlt hk hyes hb hE;go_wp2_with fail;refine(SM.out _).mono ?_;rintro e w3 ⟨rfl,hb⟩;have B2:=hid (qxh2 B1.out hb);clear hb;cases E with
    |true=>
     go_wp2_with fail
     go_roundg (na-(k+1))
     case measure=>have:=HL.out;omega
     case rel=>
      have hpq:p=q:=of_decide_eq_true HE.out;refine⟨k+1,by have:=HL.out;omega,rfl,by go_num,B2.out,fun j u v hj hu hv=>?_⟩;by_cases hjk:j=k
      ·subst hjk;exact((Option.some.inj (hu.symm.trans HP.out)).trans hpq).trans (Option.some.inj (HQ.out.symm.trans hv))
      ·exact HS.out j u v (by omega) hu hv
    |false=>have hD:D=false:=(HY.out).resolve_left (of_decide_eq_false HE.out);subst hD;go_wp2;go_ret;exact⟨rfl,B2.out⟩
   ·obtain rfl:k=na:=by omega
    have hD:D=true:=by rw[<-HD.out];exact decide_eq_true (qs8g HLA.out HLB.out hS)
    subst hD;clear hS hlt hk hb;go_wp2;go_ret;exact⟨rfl,B1.out⟩
 ·have hD:decide (l=m)=false:=decide_eq_false fun e=>hn (by rw[<-hla,<-hlb,e]);have q0:((na:Int) != (nb:Int))=true:=by rw[bne_iff_ne];omega
  have B0:=hid (Below.refl w.heap.size w);rw[hD];clear hA hB hla hlb hN hM hD hn;go_in;go_wp2;go_ret;exact⟨rfl,B0.out⟩
end Go.Proofs.YtombgnfedafkjaaGreatDoor
