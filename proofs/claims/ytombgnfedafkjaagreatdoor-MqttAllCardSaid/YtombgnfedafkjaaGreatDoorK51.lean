/- The contract of mqtt.All. Condition: the bytes are no more than memory holds; each body of subscriptions is of few filters, or short. -/
import Derived.Test.YtombgnfedafkjaaGreatDoorK50
set_option maxRecDepth 100000
set_option maxHeartbeats 4000000
namespace Go.Proofs.YtombgnfedafkjaaGreatDoor
open Lib(hid)
open Proofs.Tryz
open Go.RowKit
def q10u(p:Pk)(a:Ad)(g:Nat):Prop:=∃i,p.wProps≠[]/\a.w=some ⟨g,i,none⟩\/p.codes≠[]/\a.cs=some ⟨g,i,none⟩\/p.filters≠[]/\a.fs=some ⟨g,i,none⟩\/p.props≠[]/\a.ps=some ⟨g,i,none⟩
theorem FrA.lists{w:World}{p:Pk}{a:Ad}(h:FrA w p a){g:Nat}(hg:q10u p a g):w.heap.size<=g:=by
 obtain⟨i,h1|h1|h1|h1⟩:=hg
 ·exact h g i (.inl h1)
 ·exact h g i (.inr (.inl h1))
 ·exact h g i (.inr (.inr (.inl h1)))
 ·exact h g i (.inr (.inr (.inr h1.2)))
theorem PkAt.lists_lt{W:World}{p:Pk}{a:Ad}(h:PkAt W p a){g:Nat}(hg:q10u p a g):g<W.heap.size:=by
 obtain⟨i,⟨h1,h2⟩|⟨h1,h2⟩|⟨h1,h2⟩|⟨h1,h2⟩⟩:=hg
 ·obtain⟨g',i',e,hl,-⟩:=h.w h1;rw[h2] at e;cases e;exact hl
 ·obtain⟨g',i',e,hl,-⟩:=h.cs (fun e=>h1 (by simpa [ics] using e));rw[h2] at e;cases e;exact hl
 ·obtain⟨g',i',e,hl,-⟩:=h.fs (fun e=>h1 (by
   cases hf:p.filters with
   |nil=>rfl
   |cons f l=>rw[hf] at e;exact absurd e (by simp[fcs,quk6])));rw[h2] at e;cases e;exact hl
 ·obtain⟨g',i',e,hl,-⟩:=h.ps h1;rw[h2] at e;cases e;exact hl
theorem PkAt.moved{W W':World}{p:Pk}{a:Ad}(h:PkAt W p a)(hz:W.heap.size<=W'.heap.size)(hb:∀g,q10u p a g->W'.heap[g]?=W.heap[g]?):PkAt W' p a:=by
 refine⟨fun hn=>h.w.kept hz (fun g i e _=>hb g ⟨i,.inl ⟨hn,e⟩⟩) hn,fun hn=>h.cs.kept hz (fun g i e _=>hb g ⟨i,.inr (.inl ⟨?_,e⟩)⟩) hn,fun hn=>h.fs.kept hz (fun g i e _=>hb g ⟨i,.inr (.inr (.inl ⟨?_,e⟩))⟩) hn,fun hn=>h.ps.kept hz (fun g i e _=>hb g ⟨i,.inr (.inr (.inr ⟨hn,e⟩))⟩) hn⟩
 ·intro e;rw[e] at hn;exact hn rfl
 ·intro e;rw[e] at hn;exact hn rfl
def nilV:Value := .slice none 0 0
structure AaS(w:World)(x:Value)(G:List Pa)(W:World):Prop where
 al:AlS w x nilV G [] W
 pk:∀q∈G,PkAt W q.1 q.2/\FitM q.1/\∀g,q10u q.1 q.2 g->x.ownBlock≠some g
section
variable{w W W':World}{x x':Value}{G:List Pa}{q:Pa}
theorem AaS.made(w:World):AaS w nilV [] w:=⟨AlS.made w,fun _ hq=>(nomatch hq)⟩
theorem AaS.call(h:AaS w x G W)(hb:Below W.heap.size W W'):AaS w x G W':=⟨h.al.call hb,fun q hq=>⟨(h.pk q hq).1.below hb,(h.pk q hq).2⟩⟩
theorem AaS.app(h:AaS w x G W)(hq:PkAt W q.1 q.2)(hf:FitM q.1)(hx:∀g,q10u q.1 q.2 g->x.ownBlock≠some g)(ho:W'.ownsRow w.heap.size 32 25 x' (G.length+1) (pkCs G++(pkC q.1 q.2).toList))(hg:W.grownBy W' x.ownBlock)(hn:x'.ownBlock=x.ownBlock\/x'.ownBlock=some W.heap.size):AaS w x' (G++[q]) W':=by
 refine⟨h.al.app8 ho hg hn,fun r hr=>?_⟩;have hr2:PkAt W r.1 r.2/\FitM r.1/\∀g,q10u r.1 r.2 g->x.ownBlock≠some g:=by
  rcases List.mem_append.1 hr with hr|hr
  ·exact h.pk r hr
  ·obtain rfl:r=q:=by simpa using hr
   exact⟨hq,hf,hx⟩
 obtain⟨h1,h2,h3⟩:=hr2;refine⟨h1.moved hg.size (fun g hl=>hg.block g (h1.lists_lt hl) (fun e=>h3 g hl e.symm)),h2,fun g hl=>?_⟩;rcases hn with e|e
 ·rw[e];exact h3 g hl
 ·rw[e];intro e2
  have:=h1.lists_lt hl
  have:=Option.some.inj e2
  omega
theorem AaS.ret{R:List Pk×Nat×Nat}{k e:Nat}(h:AaS w x G W)(hR:R=(G.map (·.1),k,e)):qqkn w R (.returned (.tuple #[x,.int .i64 (k:Nat),.int .i64 (e:Nat)])) W:=by obtain⟨A,c,hx,hc,hcl,-⟩:=CL.owned h.al.o8 (q6wm G);rw[hR,hx];exact⟨A,c,G,rfl,rfl,hc,⟨hcl,fun q hq=>(h.pk q hq).1⟩,fun q hq=>(h.pk q hq).2.1,h.al.low⟩
end
theorem q2xe{v:Int}{l:List UInt8}{G:List Pk}{k n:Nat}{A:List Pk×Nat×Nat}(hA:A=(G++(allM v (n+1) (l.drop k)).1,k+(allM v (n+1) (l.drop k)).2.1,(allM v (n+1) (l.drop k)).2.2)) :
 A=if (qyib v (l.drop k)).2.2=3 then(G,k,0) else if (qyib v (l.drop k)).2.2≠0 then(G,k,(qyib v (l.drop k)).2.2)
  else((G++[(qyib v (l.drop k)).1])++(allM v n (l.drop (k+(qyib v (l.drop k)).2.1))).1,(k+(qyib v (l.drop k)).2.1)+(allM v n (l.drop (k+(qyib v (l.drop k)).2.1))).2.1,(allM v n (l.drop (k+(qyib v (l.drop k)).2.1))).2.2):=by
 have e:allM v (n+1) (l.drop k)=if (qyib v (l.drop k)).2.2=3 then([],0,0) else if (qyib v (l.drop k)).2.2≠0 then([],0,(qyib v (l.drop k)).2.2) else((qyib v (l.drop k)).1::(allM v n ((l.drop k).drop (qyib v (l.drop k)).2.1)).1,(qyib v (l.drop k)).2.1+(allM v n ((l.drop k).drop (qyib v (l.drop k)).2.1)).2.1,(allM v n ((l.drop k).drop (qyib v (l.drop k)).2.1)).2.2):=rfl;rw[hA,e];split
 ·simp
 split
 ·simp
 ·simp[List.drop_drop,Nat.add_assoc]
theorem qj1s{v:Int}{l:List UInt8}(h:(qyib v l).2.2=0):1<=(qyib v l).2.1/\(qyib v l).2.1<=l.length:=by
 obtain⟨-,h2,h3⟩:=qegg h;refine⟨?_,h2⟩
 have:1<=(rawM v (qyib v l).1).length:=by rw[qbl2];unfold rawH;rw[List.length_cons];omega
 rw[h3,List.length_take] at this;omega
def AllK(v:Int)(l:List UInt8)(w:World)(R:List Pk×Nat×Nat)(k:Nat)(x y:Value)(W:World):Prop:=
 ∃(G:List Pa) (n:Nat),y=.int .i64 (k:Int)/\k<=l.length/\l.length<k+n/\G.length<=k/\FewA v n (l.drop k)/\R=(G.map (·.1)++(allM v n (l.drop k)).1,k+(allM v n (l.drop k)).2.1,(allM v n (l.drop k)).2.2)/\AaS w x G W
theorem q3kd(v:Int)(s:ByteArray)(w:World)(hm:s.size<=400000000000)(few:FewA v (s.size+1) s.data.toList) :
 Calls prog 12 #[.int .i64 v,.string s] w (qqkn w (allM v (s.size+1) s.data.toList)):=by
 have hl:s.data.toList.length=s.size:=(q4ad s).symm;have HZ:=hid qbwp;have hzv:=qrai;have hne:¬pkZ=#[]:=by intro h;have:=qbwp;rw[h] at this;cases this
 obtain⟨R,hR⟩:∃R,allM v (s.size+1) s.data.toList=R:=⟨_,rfl⟩
 have S0:=hid (show AllK v s.data.toList w R 0 nilV (.int .i64 ((0:Nat):Int)) w from⟨[],s.size+1,rfl,Nat.zero_le _,by omega,Nat.le_refl _,few,by simp[hR],AaS.made w⟩);rw[hR];have HM:=hid hm;have HL:=hid hl;obtain⟨i0,hi,hz0,hz1,hz2⟩:=info_parts qbcq;clear hR few hm hl;go_in;go_wp2_with fail
 go_loopg [4,5] s.size (fun gk s4 s5 wr=>∃(k:Nat) (x y:Value),gk=s.size-k/\x=s4/\y=s5/\AllK v s.data.toList w R k x y wr)
 case atStart=>exact⟨0,_,_,rfl,rfl,rfl,S0.out⟩
 case round=>
  obtain⟨k,x,y,rfl,rfl,rfl,G,n,rfl,hk,hkn,hgk,few,hR,hS⟩:=hrel;rw[HL.out] at hk hkn;obtain⟨n,rfl⟩:∃m,n=m+1:=⟨n-1,by omega⟩
  obtain⟨fm,fa⟩:=few;have hst:=q2xe hR;have hsome:=qj1s (v:=v) (l:=s.data.toList.drop k);rw[List.length_drop,HL.out] at hsome;have ht:(s.extract k s.size).data.toList=s.data.toList.drop k:=by
   have:=q31q s k (s.size-k)
   rw[show k+(s.size-k)=s.size by omega] at this;rw[this,qkd1,List.take_of_length_le];rw[List.length_drop,HL.out];omega
  have hts:(s.extract k s.size).size<=140737488351232:=by rw[ByteArray.size_extract];have:=HM.out;omega
  have h3:(k:Int)<=(s.size:Int):=by omega
  obtain⟨t,hcut⟩:∃t,s.extract k s.size=t:=⟨_,rfl⟩
  rw[hcut] at ht hts;have RD:=fun W=>quap v t W hts (by rw[ht];exact fm);rw[ht] at RD;obtain⟨⟨P,m,e⟩,hr⟩:∃z,qyib v (s.data.toList.drop k)=z:=⟨_,rfl⟩
  rw[hr] at RD hst hsome fa;simp only at hst hsome fa;have HST:=hid hst;have S1:=hid hS;have HSO:=hid hsome;have FA:=hid fa;have HK:=hid (And.intro hk (And.intro hkn hgk));replace RD:=hid RD;unfold q32s at RD;clear hR hk hkn hgk fm fa hst hS hsome ht hts hr S0;go_wp2_with fail;refine(RD.out _).mono ?_;rintro e0 W1 ⟨a,rfl,pa,ca,ft,hb,-,fr⟩;have hx:∀g,q10u P a g->x.ownBlock≠some g:=fun g hg e=>by have h1:=fr.lists hg;have h2:=(S1.out.al.o8.lt g e).2;omega
  have hbx:Below W1.heap.size W1 ((W1.alloc (.cells pkZ 32)).setRow W1.heap.size (pkC P a)):=q8xz (qybm _) (Nat.le_refl _) _;have S2:=hid ((S1.out.call hb).call hbx);have PA:=hid (And.intro (pa.below hbx) (And.intro ft hx));have hD1:=qwmp P a;have hD2:=qmz0 P a;have hrow:=setRow_heap _ _ _ (pkC P a) _ _ (heap_alloc_new W1 (.cells pkZ 32));obtain⟨D,hD⟩:∃D,pkC P a=D:=⟨_,rfl⟩
  rw[hD] at hD1 hD2 hrow S2 PA ⊢;have HD:=hid hD;have HD1:=hid hD1;have HD2:=hid hD2;have HR:=hid hrow;clear pa ca ft hb fr hx hbx hD1 hD2 hD hrow S1 RD;have hst:=HST.out;by_cases h3:e=3
  ·subst h3;rw[if_pos rfl] at hst;have RT:=hid (S2.out.ret hst);clear hst HST S2 PA HSO FA;go_wp2_with (refine wpList_store_row rfl _ _ _ rfl W1.heap.size D rfl rfl 32 _ (heap_alloc_new W1 _) (by rw[HD1.out];exact q5nr) (by rw[HZ.out,HD1.out]) HD2.out ?_)
   go_ret3
   exact RT.out
  by_cases h0:e=0
  ·subst h0;rw[if_neg (by decide),if_neg (by simp)] at hst;obtain⟨m1,m2⟩:=HSO.out rfl;have HMM:=hid (And.intro m1 m2);have HST:=hid hst;have hw:wrap64 ((k:Int)+(m:Int))=((k+m:Nat):Int):=by unfold wrap64;have:=HM.out;omega
   have HW:=hid hw;clear hst hw m1 m2;obtain⟨W2,hW2⟩:∃W2,(W1.alloc (.cells pkZ 32)).setRow W1.heap.size D=W2:=⟨_,rfl⟩
   rw[hW2] at S2 PA HR;have SA:=hid (S2.out.call (qybm (.cells D 32)));have PA2:=hid (PA.out.1.below (qybm (.cells D 32)));have CB:=hid (fun(j:Nat) (u:Value) (hj:D.toList[j]?=some u)=>(show(W2.alloc (.cells D 32)).cell? ((⟨W2.heap.size,0,none⟩:Addr).add j)=some u by rw[Addr.add_lit,Nat.zero_add];exact(cell_of_row _ _ j _ _ _ (heap_alloc_new W2 _)).trans (by simpa using hj)))
   go_upto_region 2 with (refine wpList_store_row rfl _ _ _ rfl W1.heap.size D rfl rfl 32 _ (heap_alloc_new W1 _) (by rw[HD1.out];exact q5nr) (by rw[HZ.out,HD1.out]) HD2.out ?_)
   clear hW2;go_wp2_with (first
    |(refine wpList_load_row rfl _ _ rfl W1.heap.size rfl 32 D (0,0) _ HR.out underlying32 rfl (by rw[HD1.out];exact q5nr) ?_)
    |(refine wpList_buildSlice rfl 37 32 1 _ rfl D i0 (.agg pkZ) underlying37 hi hz0 (by rw[hz1];decide) (by rw[hz1];decide) (by rw[hz1,<-HD.out];kernel_rfl) ?_)
    |(at_builtin;refine wpList_append_own_at _ rfl _ _ 37 rfl w.heap.size 32 i0 (.agg pkZ) 25 312 underlying37 hi hz0 hz1 hz2 rfl (by decide) _ _ _ rfl SA.out.al.o8 ⟨W2.heap.size,0,none⟩ 1 1 D.toList rfl ?c0 CB.out ?c1 ?c2 ?c3 SA.out.al.size ?_))
   case c0=>rw[Array.length_toList,HD1.out]
   case c1=>exact fun u hu=>(Array.all_eq_true'.1 HD2.out) u (by simpa using hu)
   case c2=>have:=HK.out;have:=HM.out;simp only[maxLen];omega
   case c3=>have:=HK.out;have:=HM.out;omega
   intro x' W3 ho hg _ hor;rw[<-HD.out] at ho;have S4:=hid (SA.out.app (q:=(P,a)) PA2.out PA.out.2.1 PA.out.2.2 ho hg (by rw[World.size_alloc];exact hor));clear ho hg hor SA CB;go_wp2_with fail
   go_roundg (s.size-(k+m))
   case measure=>have:=HMM.out;omega
   case rel=>
    refine⟨k+m,x',_,rfl,rfl,rfl,G++[(P,a)],n,?_,?_,?_,?_,?_,?_,S4.out⟩
    ·rw[<-HW.out]
    ·rw[HL.out];have:=HMM.out;have:=HK.out;omega
    ·rw[HL.out];have:=HMM.out;have:=HK.out;omega
    ·rw[List.length_append,List.length_singleton];have:=HMM.out;have:=HK.out;omega
    ·have:=FA.out trivial;rwa [List.drop_drop] at this
    ·rw[HST.out,List.map_append];rfl
  ·rw[if_neg h3,if_pos h0] at hst;have RT:=hid (S2.out.ret hst);have e1:((e:Int)==0)=false:=by simp;omega
   have e2:((e:Int)==3)=false:=by simp;omega
   clear hst HST S2 PA HSO FA h3 h0;go_wp2_with (refine wpList_store_row rfl _ _ _ rfl W1.heap.size D rfl rfl 32 _ (heap_alloc_new W1 _) (by rw[HD1.out];exact q5nr) (by rw[HZ.out,HD1.out]) HD2.out ?_)
   go_ret3
   exact RT.out
theorem qjqt{Q:Exit->Act->World->Prop}{S:Option Nat->World->Prop}{W:World}{B f g:Nat}{v k q:Int}{X:ByteArray}{C E:Array Value}{x1 x2 x4 x5 x6 x7 x8 x9 x10 x11 x12 x13 x14 x15 x16 x17 x18 x19 x20 x21 x22 x23 x24 x25 x26 x27 x28 x29 x30 x31 x32 x33 x34 x35 x36 x37 x38 x39 x40 x41 x42 x43 x44 x45 x46 x47:Value}
 (hS:S none W.drew) (hk:1<=k/\k<=15) (hl:q1n3 noW qtav k=wayV f g) (rf:Runs f) (hC:C.size=25) (hE:prog.built 79 [(0,.int .i64 v),(1,.agg C)]=some E)
 (K0:∀x w,S x w->w.cell? ⟨B,0,none⟩=some (.int .i64 k)) (KB:∀x w,S x w->w.heap[B]?=some (.cells C 32 (0,0))) (KW:∀b w,S (some b) w->qvkg w b)
 (H0:∀x w,S x w->Calls prog 24 #[] w fun e w'=>∃b,e=.returned (.map (some b))/\S (some b) w')
 (H1:∀x w,S x w->Calls prog f #[.agg E] w fun e w'=>e=.returned (.tuple #[(.string X),(.int .i64 q)])/\S x w')
 (fin:∀x w,S x w->Q .normal ⟨#[(.int .i64 v),x1,x2,(.pointer (some ⟨B,0,none⟩)),x4,(.string X),(.int .i64 q),x7,x8,x9,x10,x11,x12,x13,x14,x15,x16,(.tuple #[(.string X),(.int .i64 q)]),(.map (some (x.getD 0))),(.pointer (some ⟨B,0,none⟩)),(.int .i64 k),(wayV f g),(fnV f),(.int .i64 v),(.agg C),(.agg E),(.tuple #[(.string X),(.int .i64 q)]),(.string X),(.int .i64 q),x29,x30,x31,x32,x33,x34,x35,x36,x37,x38,x39,x40,x41,x42,x43,x44,x45,x46,x47],[]⟩ w) :
 (Code.region 4 (qfhu.opsAt 4 Tryz.f22.body) true).wp prog Q ⟨#[(.int .i64 v),x1,x2,(.pointer (some ⟨B,0,none⟩)),x4,x5,x6,x7,x8,x9,x10,x11,x12,x13,x14,x15,x16,x17,x18,x19,x20,x21,x22,x23,x24,x25,x26,x27,x28,x29,x30,x31,x32,x33,x34,x35,x36,x37,x38,x39,x40,x41,x42,x43,x44,x45,x46,x47],[]⟩ W:=by
 refine q2y4.wp (x:=none) (S:=S) (made:=fun i x=>i=0->x.isSome=true) (war:=[]) (ds:=[18,19,20,21,22,23,24,25,26,17,27,28,5,6]) (A:=[(.int .i64 v),x1,x2,(.pointer (some ⟨B,0,none⟩)),x4,x5,x6,x7,x8,x9,x10,x11,x12,x13,x14,x15,x16,x17,x18,x19,x20,x21,x22,x23,x24,x25,x26,x27,x28,x29,x30,x31,x32,x33,x34,x35,x36,x37,x38,x39,x40,x41,x42,x43,x44,x45,x46,x47]) (B:=fun x=>[(.int .i64 v),x1,x2,(.pointer (some ⟨B,0,none⟩)),x4,(.string X),(.int .i64 q),x7,x8,x9,x10,x11,x12,x13,x14,x15,x16,(.tuple #[(.string X),(.int .i64 q)]),(.map (some (x.getD 0))),(.pointer (some ⟨B,0,none⟩)),(.int .i64 k),(wayV f g),(fnV f),(.int .i64 v),(.agg C),(.agg E),(.tuple #[(.string X),(.int .i64 q)]),(.string X),(.int .i64 q),x29,x30,x31,x32,x33,x34,x35,x36,x37,x38,x39,x40,x41,x42,x43,x44,x45,x46,x47]) (D:=[]) (by kernel_rfl) (by kernel_rfl) (by kernel_rfl) ?_ hS ?_ (fun x w hm hS=>fin x w hS)
 ·exact fun x=>(by repeat (first|exact trivial|refine⟨.inr rfl,?_⟩|refine⟨.inl rfl,?_⟩))
 refine q2y4.All.step rfl (fun x w hm hS => .inl ⟨rfl,.call _ _ (qpjl.enter0 func24 rfl) ((H0 x w hS).mono fun e w' ⟨b,he,h1⟩=>⟨_,some b,he,(fun d hd=>by cases hd;rfl),h1,(fun _=>rfl),(fun i _ _=>rfl),[18],by kernel_rfl,(by repeat (first|exact trivial|refine⟨.inr rfl,?_⟩|refine⟨.inl rfl,?_⟩))⟩)⟩) ?_;refine q2y4.All.step rfl (q2y4.Does.pure (val:=fun x=>(.pointer (some ⟨B,0,none⟩))) rfl (fun x h=>absurd h (by decide)) (fun x w hm hS=>⟨rfl,rfl,qd7q rfl⟩)) ?_;refine q2y4.All.step rfl (q2y4.Does.pure (val:=fun x=>(.int .i64 k)) rfl (fun x h=>absurd h (by decide)) (fun x w hm hS=>⟨rfl,rfl,qkcv rfl (K0 x w hS)⟩)) ?_;refine q2y4.All.step rfl (q2y4.Does.pure (val:=fun x=>(wayV f g)) rfl (fun x h=>absurd h (by decide)) (fun x w hm hS=>⟨rfl,rfl,(by obtain⟨b,rfl⟩:=Option.isSome_iff_exists.1 (hm 0 (by decide+kernel) (by decide) rfl);exact q0c2 rfl rfl (KW b w hS) hk.1 hk.2 hl)⟩)) ?_
 refine q2y4.All.step rfl (q2y4.Does.pure (val:=fun x=>(fnV f)) rfl (fun x h=>absurd h (by decide)) (fun x w hm hS=>⟨rfl,rfl,q058 rfl⟩)) ?_;refine q2y4.All.step rfl (q2y4.Does.pure (val:=fun x=>(.int .i64 v)) rfl (fun x h=>absurd h (by decide)) (fun x w hm hS=>⟨rfl,rfl,rfl⟩)) ?_;refine q2y4.All.step rfl (q2y4.Does.pure (val:=fun x=>(.agg C)) rfl (fun x h=>absurd h (by decide)) (fun x w hm hS=>⟨rfl,rfl,qjuh rfl hC (KB x w hS)⟩)) ?_;refine q2y4.All.step rfl (q2y4.Does.pure (val:=fun x=>(.agg E)) rfl (fun x h=>absurd h (by decide)) (fun x w hm hS=>⟨rfl,rfl,qcrw rfl rfl hE⟩)) ?_;refine q2y4.All.step rfl (q2y4.Does.call (val:=fun x=>(.tuple #[(.string X),(.int .i64 q)])) rfl (fun x h=>absurd h (by decide)) (fun x w hm hS=>⟨rfl,rfl,qwfj rf rfl rfl,H1 x w hS⟩)) ?_;refine q2y4.All.step rfl (q2y4.Does.pure (val:=fun x=>(.tuple #[(.string X),(.int .i64 q)])) rfl (fun x h=>absurd h (by decide)) (fun x w hm hS=>⟨rfl,rfl,rfl⟩)) ?_;refine q2y4.All.step rfl (q2y4.Does.pure (val:=fun x=>(.string X)) rfl (fun x h=>absurd h (by decide)) (fun x w hm hS=>⟨rfl,rfl,rfl⟩)) ?_;refine q2y4.All.step rfl (q2y4.Does.pure (val:=fun x=>(.int .i64 q)) rfl (fun x h=>absurd h (by decide)) (fun x w hm hS=>⟨rfl,rfl,rfl⟩)) ?_;refine q2y4.All.step rfl (q2y4.Does.pure (val:=fun x=>(.string X)) rfl (fun x h=>absurd h (by decide)) (fun x w hm hS=>⟨rfl,rfl,rfl⟩)) ?_;refine q2y4.All.step rfl (q2y4.Does.pure (val:=fun x=>(.int .i64 q)) rfl (fun x h=>absurd h (by decide)) (fun x w hm hS=>⟨rfl,rfl,rfl⟩)) ?_;exact q2y4.All.fin rfl
def q8xn(v:Int)(p:Pk):List UInt8×List UInt8×Nat:=if q8s2 v p≠0 then([],[],q8s2 v p) else(rawH (q9sw v p),qx3b v p,0)
theorem qjm3{v:Int}{p:Pk}(h:(qjyu v p.kind p.dup p.retain p.qos).2≠0):q8s2 v p=(qjyu v p.kind p.dup p.retain p.qos).2:=by
 unfold qjyu at h ⊢;unfold q8s2;by_cases h1:verH v=false
 ·rw[if_pos h1,if_pos h1]
 rw[if_neg h1,if_neg h1] at *;by_cases h2:qbe2 v p.kind=false
 ·rw[if_pos h2,if_pos h2]
 rw[if_neg h2,if_neg h2] at *;by_cases h3:p.kind=6\/p.kind=8\/p.kind=10
 ·rw[if_pos h3] at h;exact absurd rfl h
 rw[if_neg h3] at h ⊢;by_cases h4:p.kind=3
 ·rw[if_pos h4] at h ⊢;by_cases h5:q0xk p.dup p.qos=true
  ·rw[if_pos h5] at h;exact absurd rfl h
  ·rw[if_neg h5];have e:qc11 v p=7:=by
    unfold qc11;rw[if_neg (by omega),if_pos h4];unfold q6ed;rw[if_neg (by simpa using h4)];have e:qjyu v 3 p.dup p.retain p.qos=(0,7):=by unfold qjyu;rw[h4] at h2 h3;rw[if_neg h1,if_neg h2,if_neg h3,if_pos rfl,if_neg h5]
    rw[e];rfl
   rw[e];rfl
 ·rw[if_neg h4] at h;exact absurd rfl h
theorem qwnh{v:Int}{p:Pk}(h:(qjyu v p.kind p.dup p.retain p.qos).2=0):verH v=true/\qbe2 v p.kind=true/\q8s2 v p=if qc11 v p≠0 then qc11 v p else if 268435455<(qx3b v p).length then 4 else 0:=by obtain⟨h1,h2,-⟩:=qhp2 h;refine⟨h1,h2,?_⟩;unfold q8s2;rw[if_neg (by simp[h1]),if_neg (by simp[h2])]
theorem qdc2(v:Int)(p:Pk)(a:Ad)(w:World)(hp:PkAt w p a)(sp:q21o p)(ok:PkOk p)(cm:CapM p a) :
 Calls prog 22 #[.int .i64 v,.agg (pkC p a)] w fun e w'=>e=.returned (.tuple #[.string (bs (q8xn v p).1),.string (bs (q8xn v p).2.1),.int .i64 ((q8xn v p).2.2:Nat)])/\Below w.heap.size w w':=by
 have S0:=hid (BxS.made w p a);have C1:=hid (qwmp p a);have FL:=fun W=>q2el v (c:=pkC p a) (k:=p.kind) (q:=p.qos) (d:=p.dup) (r:=p.retain) W (qwmp p a) rfl rfl rfl rfl;unfold qu2r at FL;have k0:∀W,BxS w p a W->W.cell? ⟨w.heap.size,0,none⟩=some (.int .i64 p.kind):=fun W h=>h.cell 0;have K0:=hid k0;clear k0;have PF:=qjm3 (v:=v) (p:=p);have PK:=qwnh (v:=v) (p:=p);have HM:=fun h=>qri3.2 (qri3.1 (qlyn (v:=v) (p:=p) h));unfold q9sw at HM;obtain⟨⟨fl,y⟩,hF⟩:∃z,qjyu v p.kind p.dup p.retain p.qos=z:=⟨_,rfl⟩
 have HP:q8xn v p=if q8s2 v p≠0 then([],[],q8s2 v p) else(rawH ⟨p.kind,fl,((qx3b v p).length:Nat)⟩,qx3b v p,0):=by unfold q8xn q9sw;rw[hF]
 rw[hF] at FL PF PK HM;simp only at FL PF PK HM;rw[HP];clear HP hF;replace FL:=hid FL;by_cases hy:y=0
 ·subst hy;obtain⟨hv,hk,hM⟩:=PK rfl;have hkr:=q39c hk;obtain⟨f,g,HW⟩:=qguk hkr.1 hkr.2;have WR:=fun W (h:BxS w p a W)=>HW.wr v p a W rfl (hp.below h.low) sp ok cm;unfold qqdr at WR;have hX:qwgk v p=(if qc11 v p≠0 then [] else qx3b v p,qc11 v p):=by unfold qwgk;by_cases h:qc11 v p=0<;>simp[h]
  rw[hX] at WR;simp only at WR;have HBY:=fun W=>q43z v ⟨p.kind,fl,((qx3b v p).length:Nat)⟩ W;unfold qwqq qnxm hdV at HBY;obtain⟨X,hXX⟩:∃X,bs (if qc11 v p≠0 then [] else qx3b v p)=X:=⟨_,rfl⟩
  rw[hXX] at WR;have WR:=fun(x:Option Nat) W (h:BxS w p a W/\∀b,x=some b->qvkg W b)=>(WR W h.1).mono fun e w' hh=>(⟨hh.1,h.1.call hh.2,fun b e=>(h.2 b e).below hh.2⟩:_/\BxS w p a w'/\∀b,x=some b->qvkg w' b)
  have KD:=fun(x:Option Nat) W (h:BxS w p a W/\∀b,x=some b->qvkg W b)=>(qdie W).mono fun e w' ⟨b,he,hw,hb⟩=>(⟨b,he,h.1.call hb,fun c e=>by cases e;exact hw⟩:∃b,e=Ending.returned (.map (some b))/\BxS w p a w'/\∀c,some b=some c->qvkg w' c)
  have WRH:=hid WR;have KDH:=hid KD;have HWH:=hid HW;have HKR:=hid hkr;have HXX:=hid hXX;have HMH:=hid HM;have HMM:=hid hM;replace HBY:=hid HBY;clear WR KD HW hkr hXX HM hM PF PK hp sp ok cm hX hv hk;generalize hq:qc11 v p=q at *;generalize qx3b v p=L at *;generalize q8s2 v p=E at *;clear hq;obtain⟨T,hT⟩:∃T:List UInt8×List UInt8×Nat,(if E≠0 then([],[],E) else(rawH ⟨p.kind,fl,(L.length:Nat)⟩,L,0))=T:=⟨_,rfl⟩
  rw[hT];replace hT:=hid hT;go_in;go_wp2_with (refine wpList_load_row rfl _ _ rfl w.heap.size rfl 32 _ (0,0) _ S0.out.box underlying32 rfl (by rw[C1.out];exact q5nr) ?_);refine(FL.out _).mono ?_;rintro e W ⟨rfl,hb⟩;have S1:=hid (S0.out.call hb);clear hb S0
  go_upto_region 4 with fail
  refine qjqt (S:=fun x W=>BxS w p a W/\∀b,x=some b->qvkg W b) (B:=w.heap.size) (f:=f) (g:=g) (k:=p.kind) (q:=q) (X:=X) (C:=pkC p a) (E:=wrC v p a) ⟨S1.out.draw,fun b e=>by cases e⟩ HKR.out HWH.out.look HWH.out.rf C1.out (qet0 v p a) (fun x W h=>K0.out W h.1) (fun x W h=>h.1.box) (fun b W h=>h.2 b rfl) KDH.out WRH.out ?_;rintro x W2 ⟨hS,-⟩;have S2:=hid hS;clear hS S1 WRH KDH HWH HKR FL;generalize wrC v p a=D at *;generalize pkC p a=C at *;dsimp only;by_cases hq:q=0
  ·subst hq;have hx:=HXX.out;rw[if_neg (by simp)] at hx;have hz:X.size=L.length:=by rw[<-hx,q5zk]
   have hE:=HMM.out;rw[if_neg (by simp)] at hE;have K2:=K0.out _ S2.out;by_cases hlen:268435455<L.length
   ·rw[if_pos hlen] at hE;subst hE;have hT2:=hT.out;rw[if_pos (by decide)] at hT2;subst hT2;have g1:decide ((268435455:Int)<(X.size:Int))=true:=decide_eq_true (by omega);have LO:=hid S2.out.low;clear hx hz hlen HXX HMH HMM HBY S2 K2;go_wp2
    go_ret3
    exact⟨rfl,LO.out⟩
   ·rw[if_neg hlen] at hE;subst hE;have hT2:=hT.out;rw[if_neg (by simp)] at hT2;have hc:=HMH.out rfl;have g1:decide ((268435455:Int)<(X.size:Int))=false:=decide_eq_false (by omega);have HB:=HBY.out;rw[if_pos hc,hc,<-hz] at HB;obtain⟨Y,hY⟩:∃Y,bs (rawH ⟨p.kind,fl,(X.size:Int)⟩)=Y:=⟨_,rfl⟩
    rw[hY] at HB;have e1:bs T.1=Y:=by rw[<-hT2,<-hY,hz]
    have e2:bs T.2.1=X:=by rw[<-hT2,<-hx]
    have e3:T.2.2=0:=by rw[<-hT2]
    have HT:=hid (And.intro e1 (And.intro e2 e3));clear hY e1 e2 e3 hT2 hT;replace HB:=hid HB;have LO:=hid S2.out.low;clear hx hz hlen HXX HMH HMM HBY S2 hc;go_wp2_with fail;refine(HB.out _).mono ?_;rintro e W3 ⟨rfl,hb⟩;have L3:=hid (qxh2 LO.out hb);clear hb;go_wp2
    go_ret3
    rw[HT.out.1,HT.out.2.1,HT.out.2.2];exact⟨rfl,L3.out⟩
  ·have hE:=HMM.out;rw[if_pos hq] at hE;subst hE;have hT2:=hT.out;rw[if_pos hq] at hT2;subst hT2;have q1:((E:Int)==0)=false:=by simp;omega
   have q2:((E:Int) != 0)=true:=by simp;omega
   have LO:=hid S2.out.low;clear hq HXX HMH HMM HBY S2;go_wp2
   go_ret3
   exact⟨rfl,LO.out⟩
 ·rw[PF hy,if_pos hy];have y1:((y:Int)==0)=false:=by simp;omega
  have y2:((y:Int) != 0)=true:=by simp;omega
  clear PF PK HM hy hp sp ok cm K0;go_in;go_wp2_with (refine wpList_load_row rfl _ _ rfl w.heap.size rfl 32 _ (0,0) _ S0.out.box underlying32 rfl (by rw[C1.out];exact q5nr) ?_);refine(FL.out _).mono ?_;rintro e W ⟨rfl,hb⟩;have LO:=hid (S0.out.call hb).low;clear hb;go_wp2
  go_ret3
  exact⟨rfl,LO.out⟩
theorem qbxa{v:Int}{p:Pk}:(q8xn v p).2.2=q8s2 v p:=by unfold q8xn;by_cases h:q8s2 v p=0<;>simp[h]
theorem qbp2{v:Int}{p:Pk}:(q8xn v p).1++(q8xn v p).2.1=(qk4b v p).1/\q8s2 v p=(qk4b v p).2:=by unfold q8xn qk4b rawM;by_cases h:q8s2 v p=0<;>simp[h]
theorem qlh2(v:Int)(p:Pk):(q8xn v p).1.length+(q8xn v p).2.1.length<=268435460:=by
 have h1:=(qbp2 (v:=v) (p:=p)).1;rw[<-List.length_append,h1];unfold qk4b;by_cases h:q8s2 v p=0
 ·rw[if_neg (by simpa using h)];exact qu4s h
 ·rw[if_pos h];exact Nat.zero_le _
theorem qlum(v:Int)(p:Pk)(a:Ad)(w:World)(hp:PkAt w p a)(sp:q21o p)(ok:PkOk p)(cm:CapM p a) :
 Calls prog 9 #[.int .i64 v,.agg (pkC p a)] w fun e w'=>e=.returned (.tuple #[.string (bs (qk4b v p).1),.int .i64 ((qk4b v p).2:Nat)])/\Below w.heap.size w w':=by
 have S0:=hid (BxS.made w p a);have C1:=hid (qwmp p a);have PA:=hid (qdc2 v p a _ (hp.below S0.out.low) sp ok cm);obtain⟨h1,h2⟩:=qbp2 (v:=v) (p:=p);have hz:=qlh2 v p;rw[<-h1,<-h2,<-qbxa];clear hp sp ok cm h1 h2;generalize q8xn v p=R at *;have hj:bs R.1++bs R.2.1=bs (R.1++R.2.1):=qyv7 _ _;have hs:¬9223372036854775807<(bs R.1).size+(bs R.2.1).size:=by rw[q5zk,q5zk];have:=hz;omega
 generalize bs R.1=X at *;generalize bs R.2.1=Y at *;generalize bs (R.1++R.2.1)=Z at *;clear hz;go_in;go_wp2_with (refine wpList_load_row rfl _ _ rfl w.heap.size rfl 32 _ (0,0) _ S0.out.box underlying32 rfl (by rw[C1.out];exact q5nr) ?_);refine(PA.out).mono ?_;rintro e W ⟨rfl,hb⟩;have LO:=hid (S0.out.call hb).low;clear hb;go_wp2
 go_ret2
 exact⟨rfl,LO.out⟩
end Go.Proofs.YtombgnfedafkjaaGreatDoor
namespace Go.Proofs.YtombgnfedafkjaaGreatDoor
open Lib(hid)
open Proofs.Tryz
end Go.Proofs.YtombgnfedafkjaaGreatDoor
namespace Go.Proofs.YtombgnfedafkjaaGreatDoor
open Lib(hid)
open Proofs.Tryz
open Go.RowKit
def ping:Pk:={Pk.zero with kind:=12}
theorem qlkh(w:World):Calls prog 8 #[] w fun e w'=>e=.returned (.bool true)/\Below w.heap.size w w':=by
 have RD:=q62d 4 ⟨#[192,0]⟩ w (by decide) (qp1j (by decide));rw[show(⟨#[192,0]⟩:ByteArray).data.toList=[192,0] from rfl,qx3n] at RD;have SM:=hid (fun a W (h:PkAt W ping a)=>qbsf ping a adZ W h (qx9v _ W ⟨rfl,rfl,rfl,rfl⟩) (by decide) (by decide) (by decide) (by decide));obtain⟨E,hE⟩:∃E,pkC ping adZ=E:=⟨_,rfl⟩
 unfold pkV at SM;rw[hE] at SM;have HE:=hid hE;have HZ:=hid qbwp;have hzv:=qrai;have hne:¬pkZ=#[]:=by intro h;have:=qbwp;rw[h] at this;cases this
 replace RD:=hid RD;clear hE;go_in;go_wp2_with fail;refine(RD.out).mono ?_;rintro e W ⟨a,rfl,at6,-,-,hb,-⟩;have hbx:Below W.heap.size W ((W.alloc (.cells pkZ 32)).setRow W.heap.size (pkC ping a)):=q8xz (qybm _) (Nat.le_refl _) _;have L7:=hid (qxh2 hb hbx);have AT7:=hid (show PkAt _ ping a from at6.below hbx);have R7:=hid (setRow_heap _ _ _ (pkC ping a) _ _ (heap_alloc_new W (.cells pkZ 32)));have HD1:=hid (qwmp ping a);have HD2:=hid (qmz0 ping a);clear hb at6 hbx;obtain⟨D,hD⟩:∃D,pkC ping a=D:=⟨_,rfl⟩
 have SMa:=SM.out a;rw[hD] at SMa L7 AT7 R7 HD1 HD2;rw[show pkC {Pk.zero with kind:=12} a=D from hD];have SMH:=hid SMa;clear hD SMa SM
 go_upto_region 2 with (refine wpList_store_row rfl _ _ _ rfl W.heap.size D rfl rfl 32 _ (heap_alloc_new W _) (by rw[HD1.out];exact q5nr) (by rw[HZ.out,HD1.out]) HD2.out ?_)
 generalize (W.alloc (.cells pkZ 32)).setRow W.heap.size D=W7 at *;generalize W.heap.size=b1 at *;clear hzv hne;go_wp2_with (first
  |(refine q2a5 rfl _ _ rfl b1 rfl 32 _ (0,0) _ R7.out underlying32 rfl (by rw[HD1.out];exact q5nr) ?_)
  |(refine qff2 rfl 32 _ rfl (some _) rfl E (by rw[<-HE.out];kernel_rfl) ?_))
 refine(SMH.out _ AT7.out).mono ?_;rintro e W8 ⟨rfl,hb⟩;have L8:=hid (qxh2 L7.out hb);clear hb;go_wp2;go_ret;exact⟨rfl,L8.out⟩
theorem qed1(v:Int)(p:Pk):qk4b v p=(if q8s2 v p=0 then rawM v p else [],q8s2 v p):=by unfold qk4b;by_cases h:q8s2 v p=0<;>simp[h]
theorem q7xj(s:ByteArray)(n:Nat):s.extract 0 n=bs (s.data.toList.take n):=by
 have:=q31q s 0 n
 rwa [Nat.zero_add,List.drop_zero] at this
def qr8t(x y z:ByteArray):Prop:=x++y=z/\¬9223372036854775807<x.size+y.size
end Go.Proofs.YtombgnfedafkjaaGreatDoor
