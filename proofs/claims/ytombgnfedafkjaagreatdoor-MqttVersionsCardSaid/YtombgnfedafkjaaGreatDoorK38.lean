/- The contract of subscribe.reader.filters. Condition: at most 70,000 filters; the bytes are no more than an int says. -/
import Derived.Test.YtombgnfedafkjaaGreatDoorK37
set_option maxRecDepth 100000
set_option maxHeartbeats 4000000
namespace Go.Proofs.YtombgnfedafkjaaGreatDoor
open Lib(hid)
open Proofs.Tryz
open Go.RowKit
structure LsS(w:World)(cb:Nat)(v kind:Int)(s:ByteArray)(t:TypeId)(k n:Nat)(xs:List Value)(val:Value)(y:Cs)(W:World):Prop where
 lt:cb<w.heap.size
 g:w.grownBy W (some cb)
 bx:W.heap[w.heap.size]?=some (.cells #[.pointer (some ⟨cb,0,none⟩),.int .i64 v,.int .i64 kind] 147 (0,0))
 cs:CsAt W cb s y
 own:W.ownsRow (w.heap.size+1) t k val n xs
section
variable{w W W':World}{cb:Nat}{s:ByteArray}{x y z:Cs}{v kind:Int}{t:TypeId}{k n:Nat}{xs:List Value}{val:Value}
theorem LsS.made(h:CsAt w cb s x):LsS w cb v kind s t k 0 [] (.slice none 0 0) x (w.alloc (.cells #[.pointer (some ⟨cb,0,none⟩),.int .i64 v,.int .i64 kind] 147)):=
 ⟨h.lt,World.grownBy_alloc _ _ _,qq7p _ _ _ _,h.alloc _,World.ownsRow_nil _ _ _ _⟩
theorem LsS.call(h:LsS w cb v kind s t k n xs val y W)(hc:CsAt W' cb s z)(hg:W.grownBy W' (some cb)):LsS w cb v kind s t k n xs val z W':=
 ⟨h.lt,qo6d h.g hg,(hg.block _ (lt_of_block h.bx) (fun e=>by have:=Option.some.inj e;have:=h.lt;omega)).trans h.bx,hc,h.own.kept hg (.inr fun e=>by have:=(h.own.lt _ e).1;have:=h.lt;omega)⟩
theorem LsS.draws(h:LsS w cb v kind s t k n xs val y W)(j:Nat):LsS w cb v kind s t k n xs val y (W.drewN j):=
 h.call (h.cs.draws j) (q9cp (qnpu (Below.refl _ _) j) _)
theorem LsS.cell(h:LsS w cb v kind s t k n xs val y W)(j:Nat):W.cell? ⟨w.heap.size,j,none⟩=(#[Value.pointer (some ⟨cb,0,none⟩),.int .i64 v,.int .i64 kind]:Array Value)[j]? := cell_of_row _ _ j _ _ _ h.bx
theorem LsS.more(h:LsS w cb v kind s t k n xs val y W)(o:Obj){m:Nat}{ys:List Value}{val':Value}(hown:W'.ownsRow (w.heap.size+1) t k val' m ys)(hg:(W.alloc o).grownBy W' val.ownBlock):LsS w cb v kind s t k m ys val' y W':=by
 have hb:∀j,val.ownBlock=some j->w.heap.size+1<=j:=fun j e=>(h.own.lt j e).1;have lb:=lt_of_block h.bx;refine⟨h.lt,⟨hg.os.trans h.g.os,hg.tape.trans h.g.tape,hg.output.trans h.g.output,?_,fun j hj hne=>?_⟩,?_,?_,hown⟩
 ·have h1:=hg.size;have h2:=h.g.size;simp at h1;omega
 ·rw[hg.block j (by have:=h.g.size;simp;omega) (fun e=>by have:=hb j e.symm;omega),heap_alloc_old _ _ (by have:=h.g.size;omega)];exact h.g.block j hj hne
 ·rw[hg.block _ (by simp;omega) (fun e=>by have:=hb _ e.symm;omega),heap_alloc_old _ _ lb];exact h.bx
 ·refine h.cs.of_block ?_
  have:=h.lt
  rw[hg.block cb (by simp;omega) (fun e=>by have:=hb _ e.symm;omega),heap_alloc_old _ _ (by omega)]
end
def qfy2(y:Cs):Nat:=if y.e≠0 then 0 else y.r.length+1
section
variable{w W W':World}{cb:Nat}{s:ByteArray}{x y z:Cs}{v kind:Int}
theorem qrro(hk:kind=8\/kind=10)(hm:s.size<=9223372036854775807)(hN:(Cs.filtsW v kind x).1.length<=70000)(h:CsAt w cb s x) :
 Calls prog 159 #[rdS cb v kind] w fun e w'=>(∃A c,e=.returned (.slice A (if (Cs.filtsW v kind x).2.e=0 then(Cs.filtsW v kind x).1 else []).length c)/\CL w' A (fcs (if (Cs.filtsW v kind x).2.e=0 then(Cs.filtsW v kind x).1 else []))/\∀g i,A=some ⟨g,i,none⟩->w.heap.size<g)/\CsAt w' cb s (Cs.filtsW v kind x).2/\w.grownBy w' (some cb):=by
 obtain⟨i0,hi,hz0,hz1,hz2⟩:=info_parts q4j3;have S0:=hid (LsS.made (v:=v) (kind:=kind) (t:=67) (k:=5) h);have FI:=hid (fun y W (h:CsAt W cb s y)=>qruy (v:=v) hk hm h);have ER:=hid (fun y W (h:CsAt W cb s y)=>q3gp h);have LF:=hid (fun y W (h:CsAt W cb s y)=>qjtm hm h);have HK:=hid hk;obtain⟨⟨L,Y⟩,hLY⟩:∃z,Cs.filtsW v kind x=z:=⟨_,rfl⟩
 rw[hLY] at hN ⊢;simp only at hN ⊢;have HN:=hid hN;have HLY:=hid hLY;have K0:∀n xs val y W,LsS w cb v kind s 67 5 n xs val y W->W.cell? ⟨w.heap.size,0,none⟩=some (.pointer (some ⟨cb,0,none⟩)):=fun n xs val y W h=>h.cell 0;have K1:∀n xs val y W,LsS w cb v kind s 67 5 n xs val y W->W.cell? ⟨w.heap.size,1,none⟩=some (.int .i64 v):=fun n xs val y W h=>h.cell 1;have K2:∀n xs val y W,LsS w cb v kind s 67 5 n xs val y W->W.cell? ⟨w.heap.size,2,none⟩=some (.int .i64 kind):=fun n xs val y W h=>h.cell 2;replace K0:=hid K0;replace K1:=hid K1;replace K2:=hid K2;unfold rdS at *;clear h hk hN hLY;go_in;go_wp2_with fail
 go_step3
 go_wp2_with fail
 go_step3
 go_wp2_with fail
 go_loopg [3] (qfy2 x) (fun gk s3 wx=>∃(l:List Fi) (y:Cs),gk=qfy2 y/\l++(Cs.filtsW v kind y).1=L/\(Cs.filtsW v kind y).2=Y/\LsS w cb v kind s 67 5 l.length (fcs l) s3 y wx)
 case atStart=>exact⟨[],x,rfl,by rw[HLY.out];rfl,by rw[HLY.out],S0.out⟩
 case round=>
  obtain⟨l,y,rfl,hL,hY,hS⟩:=hrel;have SK:=hid hS;have c0:=K0.out _ _ _ _ _ hS;by_cases he:y.e=0
  ·have ERy:=fun W (h:CsAt W cb s y)=>ER.out y W h;rw[he] at ERy;replace ERy:=hid ERy;have LFy:=fun W (h:CsAt W cb s y)=>LF.out y W h;by_cases hr:y.r=[]
   ·rw[qztl (.inr hr)] at hL hY;have hL:l=L:=by simpa using hL
    have hY:y=Y:=hY;subst hL hY;rw[hr] at LFy;replace LFy:=hid LFy;have HE:=hid he;clear hS hr he;go_wp2_with fail;refine(ERy.out _ SK.out.cs).mono ?_;rintro e W2 ⟨rfl,rfl⟩;go_wp2_with fail;refine(LFy.out _ SK.out.cs).mono ?_;rintro e W3 ⟨rfl,j,rfl⟩;have S3:=hid (SK.out.draws j);go_wp2_with fail;rw[Exit.noGoto_ret];go_ret;obtain⟨A,c,hv,_,hC,hA⟩:=CL.owned S3.out.own S3.out.own.1;exact⟨⟨A,c,by rw[if_pos HE.out];exact congrArg Ending.returned hv,by rw[if_pos HE.out];exact hC,fun g i e=>hA g i e⟩,S3.out.cs,S3.out.g⟩
   ·rw[qwla HK.out he hr] at hL hY;have q1:(((y.r.length:Nat):Int)==0)=false:=by
     have:=List.length_pos_iff.2 hr
     simp;omega
    have FIy:=FI.out y;have hM:qfy2 (y.filt v kind).2<qfy2 y:=by
     have e0:qfy2 y=y.r.length+1:=by unfold qfy2;rw[if_neg (by simpa using he)]
     rw[e0];unfold qfy2;by_cases hz:(y.filt v kind).2.e=0
     ·rw[if_neg (by simpa using hz)]
      have:=qvwn HK.out hz
      omega
     ·rw[if_pos hz];omega
    obtain⟨⟨f,y2⟩,hf⟩:∃z,y.filt v kind=z:=⟨_,rfl⟩
    rw[hf] at hL hY FIy hM;simp only at hL hY FIy hM;have hL2:(l++[f])++(Cs.filtsW v kind y2).1=L:=by rw[<-hL];simp
    have hlen:l.length+1<=70000:=by have h1:=HN.out;rw[<-hL2] at h1;simp only[List.length_append,List.length_cons,List.length_nil] at h1;omega
    have HLL:=hid (And.intro hL2 (And.intro hY (And.intro hM hlen)));have hfc:fcs l++[.string (bs f.topic),.int .i64 f.qos,.bool f.noLocal,.bool f.asPub,.int .i64 f.handling]=fcs (l++[f]):=by unfold fcs;rw[List.flatMap_append];rfl
    have HFC:=hid hfc;unfold fiC at FIy;generalize y.r.length=n at *;replace FIy:=hid FIy;replace LFy:=hid LFy;generalize bs f.topic=x0 at *;generalize f.qos=x1 at *;generalize f.noLocal=x2 at *;generalize f.asPub=x3 at *;generalize f.handling=x4 at *;clear hS hr he hL hY hf hM hL2 hlen hfc;go_wp2_with fail;refine(ERy.out _ SK.out.cs).mono ?_;rintro e W2 ⟨rfl,rfl⟩;go_wp2_with fail;refine(LFy.out _ SK.out.cs).mono ?_;rintro e W3 ⟨rfl,j,rfl⟩;have S3:=hid (SK.out.draws j);generalize wr.drewN j=W3 at *;have c1:=K1.out _ _ _ _ _ S3.out;have c2:=K2.out _ _ _ _ _ S3.out;clear c0;have c0:=K0.out _ _ _ _ _ S3.out;go_wp2_with fail;refine(FIy.out _ S3.out.cs).mono ?_;rintro e W4 ⟨rfl,hc,hg⟩;have S4:=hid (S3.out.call hc hg);have hown:=S4.out.own;clear hc hg c0 c1 c2;go_wp2_with (at_builtin;refine wpList_append_own _ rfl _ _ 30 rfl (w.heap.size+1) 67 i0 (.agg #[.string .empty,.int .i64 0,.bool false,.bool false,.int .i64 0]) 5 40 underlying30 hi hz0 hz1 hz2 rfl (by decide) _ _ _ rfl (hown.alloc _) ⟨W4.heap.size,0,none⟩ 1 1 [.string x0,.int .i64 x1,.bool x2,.bool x3,.int .i64 x4] rfl rfl ?c1 ?c2 ?c3 ?c4 ?c5 ?_)
    case c1=>intro j u hj;match j,hj with
     |0,hj=>simp at hj;subst hj;exact World.cell?_alloc_at _ _ _ _ rfl
     |1,hj=>simp at hj;subst hj;exact World.cell?_alloc_at _ _ _ _ rfl
     |2,hj=>simp at hj;subst hj;exact World.cell?_alloc_at _ _ _ _ rfl
     |3,hj=>simp at hj;subst hj;exact World.cell?_alloc_at _ _ _ _ rfl
     |4,hj=>simp at hj;subst hj;exact World.cell?_alloc_at _ _ _ _ rfl
    case c2=>intro u hu;simp at hu;rcases hu with rfl|rfl|rfl|rfl|rfl<;>rfl
    case c3=>have:=HLL.out.2.2.2;unfold maxLen;omega
    case c4=>have:=HLL.out.2.2.2;omega
    case c5=>have:=lt_of_block S4.out.bx;simp only[World.size_alloc];omega
    intro v' w9 hown' hgrow _;rw[HFC.out] at hown';have S9:=hid (S4.out.more _ hown' hgrow);clear hown' hgrow hown;go_wp2_with fail
    go_roundg (qfy2 y2)
    case measure=>exact HLL.out.2.2.1
    case rel=>exact⟨l++[f],y2,rfl,HLL.out.1,HLL.out.2.1,by rw[List.length_append];exact S9.out⟩
  ·rw[qztl (.inl he)] at hL hY;have hY:y=Y:=hY;subst hY;have ERy:=hid (fun W (h:CsAt W cb s y)=>ER.out y W h);have g1:((y.e:Int)==0)=false:=by simp;omega
   have g2:((y.e:Int) != 0)=true:=by simp;omega
   have HE:=hid he;clear hS he;go_wp2_with fail;refine(ERy.out _ SK.out.cs).mono ?_;rintro e W2 ⟨rfl,rfl⟩;go_wp2_with fail;rw[Exit.noGoto_ret];go_ret;exact⟨⟨none,0,by rw[if_neg HE.out];rfl,by rw[if_neg HE.out];exact fun h=>absurd rfl h,fun g i e=>by cases e⟩,SK.out.cs,SK.out.g⟩
end
theorem q5h3:(prog.info? 3).map (fun i=>(i.zero,i.size,i.bytes))=some (some (.int .i64 0),1,8):=by kernel_rfl
def q4rq(l:List UInt8):List Int:=l.map fun b=>((b.toNat:Nat):Int)
theorem q9a3(x:Cs):x.codes=(q4rq (x.take x.r.length).1,(x.take x.r.length).2):=by
 unfold Cs.codes Cs.take q4rq;by_cases he:x.e=0
 ·simp[he]
 ·simp[he]
theorem q5if(x:Cs)(n:Nat):(x.take n).1.length<=n:=by
 unfold Cs.take;split
 ·exact Nat.zero_le _
 ·split
  ·exact Nat.zero_le _
  ·simp;omega
section
variable{w W W':World}{cb:Nat}{s:ByteArray}{x y z:Cs}{v kind:Int}
theorem qi6w(hm:s.size<=9223372036854775807)(hN:x.codes.1.length<=70000)(h:CsAt w cb s x) :
 Calls prog 160 #[rdS cb v kind] w fun e w'=>(∃A c,e=.returned (.slice A x.codes.1.length c)/\CL w' A (ics x.codes.1)/\∀g i,A=some ⟨g,i,none⟩->w.heap.size<g)/\CsAt w' cb s x.codes.2/\w.grownBy w' (some cb):=by
 obtain⟨i0,hi,hz0,hz1,hz2⟩:=info_parts q5h3;have S0:=hid (LsS.made (v:=v) (kind:=kind) (t:=3) (k:=1) h);have LF:=fun W (h:CsAt W cb s x)=>qjtm hm h;have TK:=fun W (h:CsAt W cb s x)=>qgtr x.r.length hm h;rw[q9a3] at hN ⊢;obtain⟨⟨T,Y⟩,hT⟩:∃z,x.take x.r.length=z:=⟨_,rfl⟩
 rw[hT] at TK hN ⊢;simp only at TK hN ⊢;generalize x.r.length=n at *;have hTs:(bs T).size=T.length:=q5zk T;have hTl:T.length<=70000:=by simpa [q4rq] using hN
 have hTk:∀(k:Nat) (hk:k<(bs T).size),T[k]?=some (bs T)[k]:=fun k hk=>by
  rw[List.getElem?_eq_getElem (show k<T.length by omega)]
  rfl
 replace LF:=hid LF;replace TK:=hid TK;have K0:∀n xs val y W,LsS w cb v kind s 3 1 n xs val y W->W.cell? ⟨w.heap.size,0,none⟩=some (.pointer (some ⟨cb,0,none⟩)):=fun n xs val y W h=>h.cell 0;have HT:=hid (And.intro hTs (And.intro hTl hTk));unfold rdS at *;clear h hT hN;have q0:((bs T).size:Int)<=70000:=by omega
 clear hTs hTl hTk;generalize bs T=t at *;go_in
 go_upto_region 2 with fail
 refine qf2v (S:=fun k W=>LsS w cb v kind s 3 1 0 [] (.slice none 0 0) (if k=2 then Y else x) W) (n:=(n:Nat)) (t:=t) (S0.out.draws 1) (fun k W h=>K0 _ _ _ _ _ h)
  (fun W h=>(LF.out W h.cs).mono fun e W' ⟨he,j,hj⟩=>⟨he,hj▸h.draws j⟩)
  (fun W h=>(TK.out W h.cs).mono fun e W' ⟨he,hc,hg⟩=>⟨he,h.call hc hg⟩) ?_
 intro W hS;have S1:=hid (show LsS w cb v kind s 3 1 0 [] (.slice none 0 0) Y W from hS);clear hS;go_wp2_with fail
 go_loopg [14,3] t.size (fun gk s14 s3 wx=>∃k:Nat,k<=t.size/\gk=t.size-k/\s14=.int .i64 (k:Int)/\LsS w cb v kind s 3 1 k (ics (q4rq (T.take k))) s3 Y wx)
 case atStart=>exact⟨0,Nat.zero_le _,rfl,rfl,S1.out⟩
 case round=>
  obtain⟨k,hk,rfl,rfl,hS⟩:=hrel;have SK:=hid hS;by_cases hlt:k<t.size
  ·have hget:=HT.out.2.2 k hlt;obtain⟨r,hr⟩:∃r,t[k].toNat=r:=⟨_,rfl⟩
   have hlist:ics (q4rq (T.take k))++[.int .i64 (r:Int)]=ics (q4rq (T.take (k+1))):=by obtain⟨hk1,hx⟩:=List.getElem?_eq_some_iff.1 hget;rw[List.take_succ_eq_append_getElem hk1,hx,<-hr];unfold ics q4rq;simp
   have HLI:=hid hlist;have L:=hid hlt;have g1:(k:Int)<(t.size:Int):=by omega
   have hne:¬t=ByteArray.empty:=by intro e;rw[e] at hlt;exact absurd hlt (by simp)
   have hown:=hS.own;have hr8:(r:Int)<256:=by have:=t[k].toNat_lt;omega
   clear hget hlist hS;go_wp2_with (at_builtin;refine wpList_append_own _ rfl _ _ 29 rfl (w.heap.size+1) 3 i0 (.int .i64 0) 1 8 underlying29 hi hz0 hz1 hz2 rfl (by decide) _ _ _ rfl (hown.alloc _) ⟨wr.heap.size,0,none⟩ 1 1 [.int .i64 (r:Int)] rfl rfl ?c1 ?c2 ?c3 ?c4 ?c5 ?_)
   case c1=>intro j u hj;cases j<;>simp at hj;subst hj;exact World.cell?_alloc_at _ _ _ _ rfl
   case c2=>intro u hu;simp at hu;subst hu;rfl
   case c3=>have:=HT.out.1;have:=HT.out.2.1;have:=L.out;unfold maxLen;omega
   case c4=>have:=HT.out.1;have:=HT.out.2.1;have:=L.out;omega
   case c5=>have:=lt_of_block SK.out.bx;simp only[World.size_alloc];omega
   intro v' w9 hown' hgrow _;rw[HLI.out] at hown';have S9:=hid (SK.out.more _ hown' hgrow);clear hown' hgrow hown;go_wp2_with fail
   go_roundg (t.size-(k+1))
   case measure=>have:=L.out;omega
   case rel=>exact⟨k+1,L.out,rfl,by go_num,S9.out⟩
  ·obtain rfl:k=t.size:=by omega
   rw[List.take_of_length_le (by rw[HT.out.1];exact Nat.le_refl _)] at hS;have HS:=hid hS;clear hS hlt hk;go_wp2;go_ret;obtain⟨A,c,hv,_,hC,hA⟩:=CL.owned HS.out.own HS.out.own.1;refine⟨⟨A,c,?_,hC,fun g i e=>hA g i e⟩,HS.out.cs,HS.out.g⟩;have hl:(q4rq T).length=t.size:=by rw[HT.out.1];simp[q4rq]
   rw[hl];exact congrArg Ending.returned hv
end
structure SpS(w:World)(cb:Nat)(v kind:Int)(s:ByteArray)(b:Nat)(y:Cs)(P:Pk)(a:Ad)(W:World):Prop where
 lt:cb<w.heap.size
 g:w.grownBy W (some cb)
 bx:W.heap[w.heap.size]?=some (.cells #[.pointer (some ⟨cb,0,none⟩),.int .i64 v,.int .i64 kind] 147 (0,0))
 rs:W.heap[w.heap.size+1]?=some (.cells pkZ 32 (0,0))
 hb:w.heap.size+1<b
 pk:W.heap[b]?=some (.cells (pkC P a) 32 (0,0))
 cs:CsAt W cb s y
 ps:PL W a.ps P.props
 cl:CL W a.cs (ics P.codes)
 fl:CL W a.fs (fcs P.filters)
 ap:∀g i,a.ps=some ⟨g,i,none⟩\/a.cs=some ⟨g,i,none⟩\/a.fs=some ⟨g,i,none⟩->b<g
 pc:P.props.length<=a.pc
section
variable{w W W':World}{cb b:Nat}{s:ByteArray}{x y z:Cs}{v kind:Int}{P P':Pk}{a a':Ad}
theorem SpS.call(h:SpS w cb v kind s b y P a W)(hc:CsAt W' cb s z)(hg:W.grownBy W' (some cb)):SpS w cb v kind s b z P a W':=by
 have o:∀k,k<W.heap.size->k≠cb->W'.heap[k]?=W.heap[k]? := fun k hk hne=>hg.block k hk (fun e=>hne (Option.some.inj e));have lt:=h.lt;have hb:=h.hb;refine⟨lt,qo6d h.g hg,(o _ (lt_of_block h.bx) (by omega)).trans h.bx,(o _ (lt_of_block h.rs) (by omega)).trans h.rs,hb,(o _ (lt_of_block h.pk) (by omega)).trans h.pk,hc,?_,?_,?_,h.ap,h.pc⟩
 ·exact h.ps.grown hg (fun g i e=>by have:=h.ap g i (.inl e);omega)
 ·exact h.cl.kept hg.size (fun g i e hlt=>o g hlt (by have:=h.ap g i (.inr (.inl e));omega))
 ·exact h.fl.kept hg.size (fun g i e hlt=>o g hlt (by have:=h.ap g i (.inr (.inr e));omega))
theorem SpS.cell(h:SpS w cb v kind s b y P a W)(j:Nat):W.cell? ⟨w.heap.size,j,none⟩=(#[Value.pointer (some ⟨cb,0,none⟩),.int .i64 v,.int .i64 kind]:Array Value)[j]? := cell_of_row _ _ j _ _ _ h.bx
theorem SpS.pcell(h:SpS w cb v kind s b y P a W)(j:Nat):W.cell? ⟨b,j,none⟩=(pkC P a)[j]? := cell_of_row _ _ j _ _ _ h.pk
theorem SpS.fr(h:SpS w cb v kind s b y P a W)(j:Nat):W.frozen? ⟨b,j,none⟩=false:=frozen_of_row _ _ _ _ _ h.pk
theorem SpS.set(h:SpS w cb v kind s b y P a W)(j:Nat)(u:Value)(he:(pkC P a).setIfInBounds j u=pkC P' a')
 (ps:PL W a'.ps P'.props) (cl:CL W a'.cs (ics P'.codes)) (fl:CL W a'.fs (fcs P'.filters)) (ap:∀g i,a'.ps=some ⟨g,i,none⟩\/a'.cs=some ⟨g,i,none⟩\/a'.fs=some ⟨g,i,none⟩->b<g) (pc:P'.props.length<=a'.pc) :
 SpS w cb v kind s b y P' a' (W.setCell ⟨b,j,none⟩ u):=by
 have o:∀k,k≠b->(W.setCell ⟨b,j,none⟩ u).heap[k]?=W.heap[k]? := fun k hk=>heap_setCell_other W ⟨b,j,none⟩ k u hk;have sz:W.heap.size<=(W.setCell ⟨b,j,none⟩ u).heap.size:=by simp[World.setCell]
 have lt:=h.lt;have hb:=h.hb;refine⟨lt,⟨h.g.os,h.g.tape,h.g.output,Nat.le_trans h.g.size sz,fun k hk hne=>(o k (by omega)).trans (h.g.block k hk hne)⟩,(o _ (by omega)).trans h.bx,(o _ (by omega)).trans h.rs,hb,?_,h.cs.of_block (o _ (by omega)),?_,?_,?_,ap,pc⟩
 ·have:=qlvy h.pk j u;rw[he] at this;exact this
 ·exact ps.kept sz (fun g i e _=>o g (by have:=ap g i (.inl e);omega))
 ·exact cl.kept sz (fun g i e _=>o g (by have:=ap g i (.inr (.inl e));omega))
 ·exact fl.kept sz (fun g i e _=>o g (by have:=ap g i (.inr (.inr e));omega))
structure SwS(w:World)(cb:Nat)(v kind:Int)(s:ByteArray)(y z:Cs)(D:Array Value)(x:XG)(W:World):Prop where
 lt:cb<w.heap.size
 g:w.grownBy W (some cb)
 bx:W.heap[w.heap.size]?=some (.cells #[.pointer (some ⟨cb,0,none⟩),.int .i64 v,.int .i64 kind] 147 (0,0))
 rs:W.heap[w.heap.size+1]?=some (.cells pkZ 32 (0,0))
 cs:CsAt W cb s (if xn x then z else y)
 pk:∀b,xa x=some b->w.heap.size+1<b/\W.heap[b]?=some (.cells (if xs x then D else pkZ) 32 (0,0))
theorem SwS.cell{D:Array Value}{q:XG}(h:SwS w cb v kind s y z D q W)(j:Nat):W.cell? ⟨w.heap.size,j,none⟩=(#[Value.pointer (some ⟨cb,0,none⟩),.int .i64 v,.int .i64 kind]:Array Value)[j]? := cell_of_row _ _ j _ _ _ h.bx
theorem SwS.num{D:Array Value}{g:Option Nat}(h:SwS w cb v kind s y z D (false,g,false) W)(hc:CsAt W' cb s z)(hg:W.grownBy W' (some cb)):SwS w cb v kind s y z D (true,g,false) W':=by have o:∀k,k<W.heap.size->k≠cb->W'.heap[k]?=W.heap[k]? := fun k hk hne=>hg.block k hk (fun e=>hne (Option.some.inj e));have lt:=h.lt;refine⟨lt,qo6d h.g hg,(o _ (lt_of_block h.bx) (by omega)).trans h.bx,(o _ (lt_of_block h.rs) (by omega)).trans h.rs,hc,fun b hb=>?_⟩;obtain⟨h1,h2⟩:=h.pk b hb;exact⟨h1,(o b (lt_of_block h2) (by omega)).trans h2⟩
theorem SwS.put{D:Array Value}{b:Nat}(h:SwS w cb v kind s y z D (true,some b,false) W):SwS w cb v kind s y z D (true,some b,true) (W.setRow b D):=by obtain⟨h1,h2⟩:=h.pk b rfl;have lt:=h.lt;refine⟨lt,qacl h.g (by omega) _,(setRow_other _ _ _ _ (by omega)).trans h.bx,(setRow_other _ _ _ _ (by omega)).trans h.rs,h.cs.of_block (setRow_other _ _ _ _ (by omega)),fun c hc=>?_⟩;obtain rfl:b=c:=Option.some.inj hc;exact⟨h1,setRow_heap _ _ _ _ _ _ h2⟩
theorem q0qi(x:Cs):(x.num 2).1<65536:=by
 unfold Cs.num
 have:=qn9h (x.take 2).1
 have hl:=q5if x 2
 have:256^(x.take 2).1.length<=256^2:=Nat.pow_le_pow_right (by decide) hl
 omega
theorem qubv(hkd:qfws kind=true)(hk0:-9223372036854775808<=kind)(hk1:kind<=9223372036854775807)(hm:s.size<=9223372036854775807)(hf:((x.num 2).2.props v kind).2.r.length<=70000\/(qsfj kind=true/\(Cs.filtsW v kind ((x.num 2).2.props v kind).2).1.length<=70000))(h:CsAt w cb s x) :
 Calls prog 119 #[rdS cb v kind] w fun e w'=>(∃a,e=.returned (.agg (pkC (q4qr v kind x).1 a))/\PkAt w' (q4qr v kind x).1 a/\(q4qr v kind x).1.props.length<=a.pc/\a.w=none/\∀g i,a.ps=some ⟨g,i,none⟩\/a.cs=some ⟨g,i,none⟩\/a.fs=some ⟨g,i,none⟩->w.heap.size<g)/\CsAt w' cb s (q4qr v kind x).2/\w.grownBy w' (some cb):=by
 have hk4:8<=kind/\kind<=11:=by simpa [qfws] using hkd
 have NM:=fun W (h:CsAt W cb s x)=>q8yf 2 (by decide) hm h;have hz:=q0qi x;unfold q4qr;obtain⟨⟨z1,z2⟩,hzz⟩:∃z,x.num 2=z:=⟨_,rfl⟩
 rw[hzz] at NM hz hf ⊢;simp only at NM hz hf ⊢;have PR:=fun W (h:CsAt W cb s z2)=>qzvp (v:=v) hk0 hk1 hm h;obtain⟨⟨L,y3⟩,hp⟩:∃z,z2.props v kind=z:=⟨_,rfl⟩
 rw[hp] at PR hf ⊢;simp only at PR hf ⊢;have FS:=fun(hk:kind=8\/kind=10) (hn:(Cs.filtsW v kind y3).1.length<=70000) W (h:CsAt W cb s y3)=>qrro (v:=v) hk hm hn h;have CO:=fun(hn:y3.codes.1.length<=70000) W (h:CsAt W cb s y3)=>qi6w (v:=v) (kind:=kind) hm hn h;have hlen:(Cs.filtsW v kind y3).1.length<=y3.r.length:=q8jt _ _;have hcl:y3.codes.1.length<=y3.r.length:=by unfold Cs.codes;split;exact Nat.zero_le _;simp
 obtain⟨D,hD⟩:∃D,pkC {Pk.zero with kind:=kind,id:=(z1:Int)} adZ=D:=⟨_,rfl⟩
 have hD1:D.size=25:=by rw[<-hD];exact qwmp _ _
 have hD2:D.all (·.oneCell')=true:=by rw[<-hD];exact qmz0 _ _
 have W0:SwS w cb v kind s x z2 D (false,none,false) (((w.alloc (.cells #[.pointer (some ⟨cb,0,none⟩),.int .i64 v,.int .i64 kind] 147)).alloc (.cells pkZ 32)).drew):=
  ⟨h.lt,qo6d (qo6d (World.grownBy_alloc _ _ _) (World.grownBy_alloc _ _ _)) (q9cp (qnpu (Below.refl _ _) 1) _),heap_alloc2_old _ _ _,heap_alloc2_new _ _ _,((h.alloc _).alloc _).draws 1,fun b e=>by cases e⟩
 generalize hP:(if qsfj kind=true then _ else _)=PY;obtain⟨P,Y⟩:=PY;simp only;have HP:=hid hP;clear hP;have HD:=hid hD;have HD1:=hid hD1;have HD2:=hid hD2;have HW0:=hid W0;have hzv:=qrai;have hne:¬pkZ=#[]:=by intro h;have:=qbwp;rw[h] at this;cases this
 have HZ:=hid qbwp;replace NM:=hid NM;replace PR:=hid PR;unfold rdS at *;clear h hD hD1 hD2 W0 hzz hp;go_in
 go_upto_region 1 with fail
 clear hzv hne;refine q3p3 (S:=SwS w cb v kind s x z2 D) (i:=(z1:Int)) HW0.out HD1.out HD2.out HD.out (by omega) (by omega) (fun x W h=>h.cell 0) (fun x W h=>h.cell 2)
  (fun g W h=>(NM.out W h.cs).mono fun e W' ⟨he,hc,hg⟩=>⟨he,h.num hc hg⟩)
  (fun n W h=>⟨h.lt,qo6d h.g (World.grownBy_alloc _ _ _),(heap_alloc_old _ _ (lt_of_block h.bx)).trans h.bx,(heap_alloc_old _ _ (lt_of_block h.rs)).trans h.rs,h.cs.alloc _,fun b hb=>by obtain rfl:W.heap.size=b:=Option.some.inj hb;exact⟨lt_of_block h.rs,heap_alloc_new _ _⟩⟩)
  (fun g W h=>⟨(h.pk g rfl).2,h.put⟩) ?_
 intro b W h;have S1:=hid (show SpS w cb v kind s b z2 {Pk.zero with kind:=kind,id:=(z1:Int)} adZ W from
  ⟨h.lt,h.g,h.bx,h.rs,(h.pk b rfl).1,by rw[HD.out];exact(h.pk b rfl).2,h.cs,PL.nil,CL.nil,CL.nil,fun g i e=>(by rcases e with e|e|e<;>cases e),Nat.le_refl _⟩)
 have c0:W.cell? ⟨w.heap.size,0,none⟩=some (.pointer (some ⟨cb,0,none⟩)):=S1.out.cell 0;have c1:W.cell? ⟨w.heap.size,1,none⟩=some (.int .i64 v):=S1.out.cell 1;have c2:W.cell? ⟨w.heap.size,2,none⟩=some (.int .i64 kind):=S1.out.cell 2;have HZ4:=hid hk4;have HF:=hid (And.intro hf (And.intro hlen hcl));clear h HW0 hz NM hf hlen hcl hk4 hkd HD1 HD2;go_wp2_with fail;refine(PR.out _ S1.out.cs).mono ?_;rintro e W2 ⟨⟨A,c,rfl,hLc,hPL,hAd⟩,hc,hg⟩;have S2:=hid (S1.out.call hc hg);have n24:W2.cell? ⟨b,24,none⟩=some (.slice none 0 0):=S2.out.pcell 24;have f24:=S2.out.fr 24;have S3:=hid (S2.out.set 24 (.slice A L.length c) (P':={Pk.zero with kind:=kind,id:=(z1:Int),props:=L}) (a':={adZ with ps:=A,pc:=c}) rfl hPL CL.nil CL.nil (fun g i e=>by
  rcases e with e|e|e
  ·exact Nat.lt_trans (lt_of_block S1.out.pk) (hAd g i e)
  ·cases e
  ·cases e) hLc)
 clear c0 c1 c2 hc hg hPL hAd hLc PR;have AS:=hid (qczm kind);have c0:(W2.setCell ⟨b,24,none⟩ (.slice A L.length c)).cell? ⟨w.heap.size,0,none⟩=some (.pointer (some ⟨cb,0,none⟩)):=S3.out.cell 0;have c1:(W2.setCell ⟨b,24,none⟩ (.slice A L.length c)).cell? ⟨w.heap.size,1,none⟩=some (.int .i64 v):=S3.out.cell 1;have c2:(W2.setCell ⟨b,24,none⟩ (.slice A L.length c)).cell? ⟨w.heap.size,2,none⟩=some (.int .i64 kind):=S3.out.cell 2;go_wp2_with fail;refine(AS.out _).mono ?_;rintro e W4 ⟨rfl,rfl⟩;generalize W2.setCell ⟨b,24,none⟩ (.slice A L.length c)=W3 at *;clear S2 n24 f24 S1;have ask:=q9zy HZ4.out;cases ha:qsfj kind with
 |true=>
  rw[ha] at HF ask;have hk8:kind=8\/kind=10:=by
   rcases ask with ⟨_,h⟩|⟨h,_⟩
   ·exact h
   ·cases h
  have FS:=FS hk8 (by
   rcases HF.out.1 with h|⟨_,h⟩;·have:=HF.out.2.1;omega
   ·exact h)
  have hP:=HP.out;rw[ha,if_pos rfl] at hP;obtain⟨⟨M,y4⟩,hM⟩:∃z,Cs.filtsW v kind y3=z:=⟨_,rfl⟩
  rw[hM] at FS hP;simp only at FS hP;obtain⟨N,hN⟩:∃N,(if y4.e=0 then M else [])=N:=⟨_,rfl⟩
  rw[hN] at FS hP;simp only[Prod.mk.injEq] at hP;obtain⟨rfl,rfl⟩:=hP;clear HP;replace FS:=hid FS;clear ha ask hM hN HF CO hk8 AS;go_wp2_with fail;refine(FS.out _ S3.out.cs).mono ?_;rintro e W5 ⟨⟨A2,cc,rfl,hCL,hAd⟩,hc,hg⟩;have S5:=hid (S3.out.call hc hg);have n23:W5.cell? ⟨b,23,none⟩=some (.slice none 0 0):=S5.out.pcell 23;have f23:=S5.out.fr 23;have S6:=hid (S5.out.set 23 (.slice A2 N.length cc) (P':={Pk.zero with kind:=kind,id:=(z1:Int),props:=L,filters:=N}) (a':={adZ with ps:=A,pc:=c,fs:=A2,fc:=cc}) rfl S5.out.ps CL.nil hCL (fun g i e=>by
   rcases e with e|e|e
   ·exact S5.out.ap g i (.inl e)
   ·cases e
   ·exact Nat.lt_trans (lt_of_block S3.out.pk) (hAd g i e)) S5.out.pc)
  have G6:=S6.out.pk;have R6:=hid S6.out.rs;have hR1:=qwmp {Pk.zero with kind:=kind,id:=(z1:Int),props:=L,filters:=N} {adZ with ps:=A,pc:=c,fs:=A2,fc:=cc};have hR2:=qmz0 {Pk.zero with kind:=kind,id:=(z1:Int),props:=L,filters:=N} {adZ with ps:=A,pc:=c,fs:=A2,fc:=cc};obtain⟨R,hR⟩:∃R,pkC {Pk.zero with kind:=kind,id:=(z1:Int),props:=L,filters:=N} {adZ with ps:=A,pc:=c,fs:=A2,fc:=cc}=R:=⟨_,rfl⟩
  rw[hR] at G6 hR1 hR2;have HR:=hid hR;replace G6:=hid G6;have HR1:=hid hR1;have HR2:=hid hR2;clear hR1 hR2 hR hc hg hCL hAd c0 c1 c2 S3;go_wp2_with (first
   |(refine wpList_load_row rfl _ _ rfl b rfl 32 R (0,0) _ G6.out underlying32 rfl (by rw[HR1.out];exact q5nr) ?_)
   |(refine wpList_store_row rfl _ _ _ rfl (w.heap.size+1) R rfl rfl 32 _ R6.out (by rw[HR1.out];exact q5nr) (by rw[HZ.out,HR1.out]) HR2.out ?_))
  have LT:=S6.out.lt;have HB:=S6.out.hb;have q1:=fun g i (h:_\/_\/_)=>S6.out.ap g i h;refine q7wi (cs:=R) rfl rfl rfl underlying32 rfl (by rw[HR1.out];exact q5nr) (setRow_heap _ _ _ _ _ _ R6.out) ⟨⟨{adZ with ps:=A,pc:=c,fs:=A2,fc:=cc},by rw[HR.out],⟨fun e=>absurd rfl e,CL.nil,?_,?_⟩,S6.out.pc,rfl,fun g i h=>by have:=q1 g i h;omega⟩,?_,?_⟩
  ·exact S6.out.fl.kept (by simp[World.setRow]) (fun g i e _=>setRow_other _ _ _ _ (by have:=q1 g i (.inr (.inr e));omega))
  ·exact S6.out.ps.kept (by simp[World.setRow]) (fun g i e _=>setRow_other _ _ _ _ (by have:=q1 g i (.inl e);omega))
  ·exact S6.out.cs.of_block (setRow_other _ _ _ _ (by omega))
  ·exact qacl S6.out.g (by omega) _
 |false=>
  rw[ha] at HF;have CO:=CO (by
   rcases HF.out.1 with h|⟨h,_⟩;·have:=HF.out.2.2;omega
   ·cases h)
  have hP:=HP.out;rw[ha,if_neg (by decide)] at hP;obtain⟨⟨N,y4⟩,hM⟩:∃z,y3.codes=z:=⟨_,rfl⟩
  rw[hM] at CO hP;simp only at CO hP;simp only[Prod.mk.injEq] at hP;obtain⟨rfl,rfl⟩:=hP;clear HP;replace CO:=hid CO;clear ha ask hM HF FS AS;go_wp2_with fail;refine(CO.out _ S3.out.cs).mono ?_;rintro e W5 ⟨⟨A2,cc,rfl,hCL,hAd⟩,hc,hg⟩;have S5:=hid (S3.out.call hc hg);have n22:W5.cell? ⟨b,22,none⟩=some (.slice none 0 0):=S5.out.pcell 22;have f22:=S5.out.fr 22;have S6:=hid (S5.out.set 22 (.slice A2 N.length cc) (P':={Pk.zero with kind:=kind,id:=(z1:Int),props:=L,codes:=N}) (a':={adZ with ps:=A,pc:=c,cs:=A2,cc:=cc}) rfl S5.out.ps hCL CL.nil (fun g i e=>by
   rcases e with e|e|e
   ·exact S5.out.ap g i (.inl e)
   ·exact Nat.lt_trans (lt_of_block S3.out.pk) (hAd g i e)
   ·cases e) S5.out.pc)
  have G6:=S6.out.pk;have R6:=hid S6.out.rs;have hR1:=qwmp {Pk.zero with kind:=kind,id:=(z1:Int),props:=L,codes:=N} {adZ with ps:=A,pc:=c,cs:=A2,cc:=cc};have hR2:=qmz0 {Pk.zero with kind:=kind,id:=(z1:Int),props:=L,codes:=N} {adZ with ps:=A,pc:=c,cs:=A2,cc:=cc};obtain⟨R,hR⟩:∃R,pkC {Pk.zero with kind:=kind,id:=(z1:Int),props:=L,codes:=N} {adZ with ps:=A,pc:=c,cs:=A2,cc:=cc}=R:=⟨_,rfl⟩
  rw[hR] at G6 hR1 hR2;have HR:=hid hR;replace G6:=hid G6;have HR1:=hid hR1;have HR2:=hid hR2;clear hR1 hR2 hR hc hg hCL hAd c0 c1 c2 S3;go_wp2_with (first
   |(refine wpList_load_row rfl _ _ rfl b rfl 32 R (0,0) _ G6.out underlying32 rfl (by rw[HR1.out];exact q5nr) ?_)
   |(refine wpList_store_row rfl _ _ _ rfl (w.heap.size+1) R rfl rfl 32 _ R6.out (by rw[HR1.out];exact q5nr) (by rw[HZ.out,HR1.out]) HR2.out ?_))
  have LT:=S6.out.lt;have HB:=S6.out.hb;have q1:=fun g i (h:_\/_\/_)=>S6.out.ap g i h;refine q7wi (cs:=R) rfl rfl rfl underlying32 rfl (by rw[HR1.out];exact q5nr) (setRow_heap _ _ _ _ _ _ R6.out) ⟨⟨{adZ with ps:=A,pc:=c,cs:=A2,cc:=cc},by rw[HR.out],⟨fun e=>absurd rfl e,?_,CL.nil,?_⟩,S6.out.pc,rfl,fun g i h=>by have:=q1 g i h;omega⟩,?_,?_⟩
  ·exact S6.out.cl.kept (by simp[World.setRow]) (fun g i e _=>setRow_other _ _ _ _ (by have:=q1 g i (.inr (.inl e));omega))
  ·exact S6.out.ps.kept (by simp[World.setRow]) (fun g i e _=>setRow_other _ _ _ _ (by have:=q1 g i (.inl e);omega))
  ·exact S6.out.cs.of_block (setRow_other _ _ _ _ (by omega))
  ·exact qacl S6.out.g (by omega) _
end
end Go.Proofs.YtombgnfedafkjaaGreatDoor
namespace Go.Proofs.YtombgnfedafkjaaGreatDoor
open Lib(hid)
open Proofs.Tryz
theorem qoa7{kind:Int}{p:Pr}(h:qr4y kind p=0):PrOk p/\p.text.length<=65535/\p.value.length<=65535:=by
 obtain⟨hm,h4,h5⟩:=qo1o h;obtain⟨_,h1,h2,_⟩:=qttn h;obtain⟨r1,r2⟩:=qilb hm;obtain⟨f0,f7,f1,f2,f3,f4,_⟩:=qznl hm;have hn:p.n<4294967296:=by
  by_cases hs:qwgc p.id<=4
  ·have h6:=(h4 hs).2.2.2;have hs4:qwgc p.id=1\/qwgc p.id=2\/qwgc p.id=3\/qwgc p.id=4:=by omega
   rcases hs4 with e|e|e|e
   ·have:=f1 e;omega
   ·have:=f2 e;omega
   ·have:=f3 e;omega
   ·have:=f4 e;omega
  ·have:=(h5 (by omega)).1;omega
 exact⟨⟨by omega,by omega,hn,by omega,by omega⟩,h1,h2⟩
theorem qdz1(kind:Int)(s:List UInt8):(∀p∈(qflw kind s).1,PrOk p/\p.text.length<=65535/\p.value.length<=65535)/\(qflw kind s).1.length<=1000:=by
 by_cases h:(qflw kind s).2.2=0
 ·have hv:=(qugf (show qflw kind s=((qflw kind s).1,(qflw kind s).2.1,0) by rw[<-h])).1;obtain⟨h1,h2,_⟩:=(qgl5 _ _).1 hv;exact⟨fun p hp=>qoa7 (h2.1 p hp),h1⟩
 ·rw[qjfk h];exact⟨fun p hp=>(nomatch hp),Nat.zero_le _⟩
theorem q5pm(x:Cs)(v kind:Int):(∀p∈(x.props v kind).1,PrOk p/\p.text.length<=65535/\p.value.length<=65535)/\(x.props v kind).1.length<=1000:=by
 unfold Cs.props;split
 ·exact⟨fun p hp=>(nomatch hp),Nat.zero_le _⟩
 ·exact qdz1 _ _
end Go.Proofs.YtombgnfedafkjaaGreatDoor
namespace Go.Proofs.YtombgnfedafkjaaGreatDoor
open Lib(hid)
open Proofs.Tryz
open Go.RowKit
structure CsS(w:World)(cb:Nat)(s:ByteArray)(B:Nat)(y:Cs)(P:Pk)(a:Ad)(W:World):Prop where
 lt:cb<w.heap.size
 g:w.grownBy W (some cb)
 rs:W.heap[w.heap.size]?=some (.cells pkZ 32 (0,0))
 hB:w.heap.size<B
 pk:W.heap[B]?=some (.cells (pkC P a) 32 (0,0))
 cs:CsAt W cb s y
 ps:PL W a.ps P.props
 pc:P.props.length<=a.pc
 pf:∀g i,a.ps=some ⟨g,i,none⟩->B<g
section
variable{w W W':World}{cb:Nat}{s:ByteArray}{x y y':Cs}{B:Nat}{P P':Pk}{a a':Ad}
theorem CsS.ne(h:CsS w cb s B y P a W):B≠cb:=by have:=h.lt;have:=h.hB;omega
theorem CsS.call(h:CsS w cb s B y P a W)(hc:CsAt W' cb s y')(hg:W.grownBy W' (some cb)):CsS w cb s B y' P a W':=
 ⟨h.lt,qo6d h.g hg,(hg.block _ (lt_of_block h.rs) (fun e=>by have:=Option.some.inj e;have:=h.lt;omega)).trans h.rs,h.hB,(hg.block _ (lt_of_block h.pk) (fun e=>h.ne (Option.some.inj e))).trans h.pk,hc,h.ps.grown hg (fun g i e=>by have:=h.pf g i e;have:=h.lt;have:=h.hB;omega),h.pc,h.pf⟩
theorem CsS.below(h:CsS w cb s B y P a W)(hb:Below W.heap.size W W'):CsS w cb s B y P a W':=h.call (h.cs.below hb) (q9cp hb _)
theorem CsS.draws(h:CsS w cb s B y P a W)(n:Nat):CsS w cb s B y P a (W.drewN n):=h.below (qnpu (Below.refl _ _) n)
theorem CsS.cell(h:CsS w cb s B y P a W)(j:Nat):W.cell? ⟨B,j,none⟩=(pkC P a)[j]? := cell_of_row _ _ j _ _ _ h.pk
theorem CsS.fr(h:CsS w cb s B y P a W)(j:Nat):W.frozen? ⟨B,j,none⟩=false:=frozen_of_row _ _ _ _ _ h.pk
theorem CsS.set(h:CsS w cb s B y P a W)(j:Nat)(u:Value)(he:(pkC P a).setIfInBounds j u=pkC P' a')(ps:PL W a'.ps P'.props)(pc:P'.props.length<=a'.pc)(pf:∀g i,a'.ps=some ⟨g,i,none⟩->B<g):CsS w cb s B y P' a' (W.setCell ⟨B,j,none⟩ u):=by have hg:=q99v W B j u;have o:∀k,k≠B->(W.setCell ⟨B,j,none⟩ u).heap[k]?=W.heap[k]? := fun k hk=>heap_setCell_other W ⟨B,j,none⟩ k u hk;have hB:=h.hB;refine⟨h.lt,⟨hg.os.trans h.g.os,hg.tape.trans h.g.tape,hg.output.trans h.g.output,Nat.le_trans h.g.size hg.size,fun k hk hne=>(hg.block k (Nat.lt_of_lt_of_le hk h.g.size) (fun e=>by have:=Option.some.inj e;omega)).trans (h.g.block k hk hne)⟩,(o _ (by omega)).trans h.rs,h.hB,by have:=qlvy h.pk j u;rw[he] at this;exact this,h.cs.of_block (o _ (by have:=h.ne;omega)),ps.kept hg.size (fun g i e _=>o g (by have:=pf g i e;omega)),pc,pf⟩
theorem CsS.laid(lt:cb<w.heap.size)(g:w.grownBy W (some cb))(rs:W.heap[w.heap.size]?=some (.cells pkZ 32 (0,0)))(cs:CsAt W cb s y){D:Array Value}(hD:pkC P adZ=D)(hp:P.props=[]):CsS w cb s W.heap.size y P adZ ((W.alloc (.cells pkZ 32)).setRow W.heap.size D):=by have Z:=lt_of_block rs;have hb:Below W.heap.size W ((W.alloc (.cells pkZ 32)).setRow W.heap.size D):=q8xz (qybm _) (Nat.le_refl _) D;refine⟨lt,qo6d g (q9cp hb _),(hb.block _ Z).trans rs,Z,by rw[hD];exact setRow_heap _ _ _ D _ _ (heap_alloc_new W _),cs.below hb,?_,by rw[hp];exact Nat.zero_le _,fun g i e=>(by cases e)⟩;rw[hp];exact PL.nil
end
section
variable{w W W':World}{cb:Nat}{s:ByteArray}{y:Cs}{B i:Nat}{kind:Int}
theorem qg0m(x:Cs):(x.num 1).1<65536:=by
 unfold Cs.num
 have:=qn9h (x.take 1).1
 have hl:(x.take 1).1.length<=1:=by
  unfold Cs.take;split
  ·simp
  ·split
   ·simp
   ·simp;omega
 have:256^(x.take 1).1.length<=256^1:=Nat.pow_le_pow_right (by decide) hl
 omega
theorem qafx(hk0:-9223372036854775808<=kind)(hk1:kind<=9223372036854775807)(hm:s.size<=140737488351232)(h:CsS w cb s B y (pkB kind i 0 []) adZ W) :
 Calls prog 151 #[.pointer (some ⟨cb,0,none⟩),.pointer (some ⟨B,0,none⟩)] W fun e W'=>e=.returned (.int .i64 ((qolc kind y).1.2.2:Nat))/\∃a',CsS w cb s B (qolc kind y).2 (pkB kind i (qolc kind y).1.1 (qolc kind y).1.2.1) a' W':=by
 have hm9:s.size<=9223372036854775807:=by omega
 have LF:=fun(z:Cs) W (h:CsAt W cb s z)=>qjtm hm9 h;have H:=hid h;have L1:=LF y W h.cs;unfold qolc;by_cases hr:y.r=[]
 ·rw[if_pos hr];rw[hr] at L1;replace L1:=hid L1;clear LF h hr hm hm9;go_in;go_wp2_with fail;refine(L1.out).mono ?_;rintro e w2 ⟨rfl,n,rfl⟩;have H2:=hid (H.out.draws n);go_wp2;go_ret;exact⟨rfl,adZ,H2.out⟩
 ·rw[if_neg hr];have q1:(((y.r.length:Nat):Int)==0)=false:=by
   have:=List.length_pos_iff.2 hr
   simp;omega
  generalize y.r.length=n1 at *;have NM:=fun W (h:CsAt W cb s y)=>q8yf 1 (by decide) hm9 h;have hz:=qg0m y;obtain⟨z,hzz⟩:∃z,y.num 1=z:=⟨_,rfl⟩
  rw[hzz] at NM hz ⊢;obtain⟨z1,z2⟩:=z;simp only at NM hz ⊢;have hz0:(z1:Int)<65536:=by omega
  have L2:=fun W (h:CsAt W cb s z2)=>LF z2 W h;replace NM:=hid NM;replace L1:=hid L1;by_cases hr2:z2.r=[]
  ·rw[if_pos hr2];rw[hr2] at L2;replace L2:=hid L2;clear LF h hr hm hm9 hr2 hzz hz;go_in;go_wp2_with fail;refine(L1.out).mono ?_;rintro e w2 ⟨rfl,n,rfl⟩;have H2:=hid (H.out.draws n);clear L1;go_wp2_with fail;refine(NM.out _ H2.out.cs).mono ?_;rintro e w3 ⟨rfl,hc,hg⟩;have H3:=hid (H2.out.call hc hg);have n21:w3.cell? ⟨B,21,none⟩=some (.int .i64 0):=H3.out.cell 21;have f21:=H3.out.fr 21;have H4:=hid (H3.out.set 21 (.int .i64 (z1:Int)) (P':=pkB kind i z1 []) (a':=adZ) rfl H3.out.ps H3.out.pc H3.out.pf);clear hc hg H2;go_wp2_with fail;refine(L2.out _ H4.out.cs).mono ?_;rintro e w4 ⟨rfl,n,rfl⟩;have H5:=hid (H4.out.draws n);clear H4 H3 n21 f21;go_wp2;go_ret;exact⟨rfl,adZ,H5.out⟩
  ·rw[if_neg hr2];have q2:(((z2.r.length:Nat):Int)==0)=false:=by
    have:=List.length_pos_iff.2 hr2
    simp;omega
   generalize z2.r.length=n2 at *;obtain⟨L,k,F,hq⟩:∃L k F,qflw kind z2.r=(L,k,F):=⟨_,_,_,rfl⟩
   have RD:=fun W (h:CsAt W cb s z2)=>q188 kind (bs z2.r) L k F hk0 hk1 (by rw[q5zk];have:=h.len;omega) hq W;rw[hq];have RS:=fun W (h:CsAt W cb s z2)=>qzrp hm9 h;have TK:=fun W (h:CsAt W cb s z2)=>qgtr k hm9 h;have FL:=fun(x:Cs) W (h:CsAt W cb s x)=>qazj F h;simp only;generalize bs z2.r=T at *;obtain⟨y3,hy3⟩:∃y3,z2.take k=y3:=⟨_,rfl⟩
   rw[hy3] at TK ⊢;replace RD:=hid RD;replace RS:=hid RS;replace TK:=hid TK;replace FL:=hid FL;replace L2:=hid L2;clear LF h hr hm hm9 hr2 hzz hz hy3 hq;go_in;go_wp2_with fail;refine(L1.out).mono ?_;rintro e w2 ⟨rfl,n,rfl⟩;have H2:=hid (H.out.draws n);clear L1;go_wp2_with fail;refine(NM.out _ H2.out.cs).mono ?_;rintro e w3 ⟨rfl,hc,hg⟩;have H3:=hid (H2.out.call hc hg);have n21:w3.cell? ⟨B,21,none⟩=some (.int .i64 0):=H3.out.cell 21;have f21:=H3.out.fr 21;have H4:=hid (H3.out.set 21 (.int .i64 (z1:Int)) (P':=pkB kind i z1 []) (a':=adZ) rfl H3.out.ps H3.out.pc H3.out.pf);clear hc hg H2;go_wp2_with fail;refine(L2.out _ H4.out.cs).mono ?_;rintro e w4 ⟨rfl,n,rfl⟩;have H5:=hid (H4.out.draws n);clear H4 H3 n21 f21
   go_upto_region 6 with fail
   refine qv1p (S:=fun x V=>CsS w cb s B z2 (pkB kind i z1 []) adZ V/\∀A c,x=some (A,c)->PL V A L/\L.length<=c/\∀g i,A=some ⟨g,i,none⟩->B<g) (n:=L.length) (k:=(k:Int)) (f:=(F:Int)) (t:=T) ⟨H5.out.draws 1,fun A c e=>by cases e⟩ (fun x V hS=>hS.1.cell 0)
    (fun x V hS=>(RS.out V hS.1.cs).mono fun e W' ⟨he,n,hn⟩=>⟨he,hn▸hS.1.draws n,fun A c e=>by obtain⟨p1,p2,p3⟩:=hS.2 A c e;exact⟨hn▸p1.below (qnpu (Below.refl _ _) n),p2,p3⟩⟩)
    (fun x V hS=>(RD.out V hS.1.cs).mono fun e W' ⟨hb,A,c,he,hc,hP,_,_,hA⟩=>⟨A,c,he,hS.1.below hb,fun A' c' e=>by cases e;exact⟨hP,hc,fun g i e=>Nat.lt_of_lt_of_le (lt_of_block hS.1.pk) (hA g i e)⟩⟩) ?_
   intro x V hx hS;obtain⟨⟨A,c⟩,rfl⟩:=Option.isSome_iff_exists.1 hx;obtain⟨p1,p2,p3⟩:=hS.2 A c rfl;have H6:=hid hS.1;have P6:=hid p1;have Q6:=hid (And.intro p2 p3);have CB:=hid H6.out.ne;have BB:=hid (show cb<B by have:=H6.out.lt;have:=H6.out.hB;omega);clear hx hS p1 p2 p3 H5;go_wp2_with fail;refine(TK.out _ H6.out.cs).mono ?_;rintro e w7 ⟨rfl,hc,hg⟩;have H7:=hid (H6.out.call hc hg);have P7:=hid (P6.out.grown hg (fun g i e=>by have:=Q6.out.2 g i e;have:=BB.out;omega));clear hc hg;go_wp2_with fail;refine(FL.out _ _ H7.out.cs).mono ?_;rintro e w8 ⟨rfl,hc,hg⟩;have H8:=hid (H7.out.call hc hg);have P8:=hid (P7.out.grown hg (fun g i e=>by have:=Q6.out.2 g i e;have:=BB.out;omega));have n24:w8.cell? ⟨B,24,none⟩=some (.slice none 0 0):=H8.out.cell 24;have f24:=H8.out.fr 24;have H9:=hid (H8.out.set 24 (.slice A L.length c) (P':=pkB kind i z1 L) (a':={adZ with ps:=A,pc:=c}) rfl P8.out Q6.out.1 Q6.out.2);clear hc hg;go_wp2;go_ret;exact⟨rfl,_,H9.out⟩
end
section
variable{w W W':World}{cb:Nat}{s:ByteArray}{y:Cs}{kind:Int}
theorem q6xm(x:Cs):(x.num 2).1<65536:=by
 unfold Cs.num
 have:=qn9h (x.take 2).1
 have hl:(x.take 2).1.length<=2:=by
  unfold Cs.take;split
  ·simp
  ·split
   ·simp
   ·simp;omega
 have:256^(x.take 2).1.length<=256^2:=Nat.pow_le_pow_right (by decide) hl
 omega
theorem CsS.at_{B:Nat}{i c:Nat}{l:List Pr}{a:Ad}(h:CsS w cb s B y (pkB kind i c l) a W):PkAt W (pkB kind i c l) a:=
 ⟨fun e=>absurd rfl e,fun e=>absurd rfl e,fun e=>absurd rfl e,h.ps⟩
theorem q17y(v:Int)(y:Cs):(midB v kind y).1.2.2<=2:=by
 unfold midB qolc;split
 ·split
  ·exact Nat.zero_le _
  ·split
   ·exact Nat.le_succ _
   ·exact Nat.le_refl _
 ·exact Nat.zero_le _
def q2i6(w:World)(cb:Nat)(R:Pk×Nat)(e:Ending)(W:World):Prop:=
 ∃a:Ad,e=.returned (.tuple #[.agg (pkC R.1 a),.int .i64 (R.2:Nat)])/\PL W a.ps R.1.props/\R.1.props.length<=a.pc/\(∀g i,a.ps=some ⟨g,i,none⟩->w.heap.size<=g)/\w.grownBy W (some cb)
theorem q8pc(v:Int)(hk0:-9223372036854775808<=kind)(hk1:kind<=9223372036854775807)(hm:s.size<=140737488351232)(h:CsAt w cb s y) :
 Calls prog 112 #[.int .i64 v,.int .i64 kind,.pointer (some ⟨cb,0,none⟩)] w (q2i6 w cb ((qts0 v kind y).1,(qts0 v kind y).2.e)):=by
 have hm9:s.size<=9223372036854775807:=by omega
 have lt:=h.lt;have h0:=h.alloc (.cells pkZ 32);have NM:=q8yf 2 (by decide) hm9 h0;have hz:=q6xm y;unfold qts0;obtain⟨z,hzz⟩:∃z,y.num 2=z:=⟨_,rfl⟩
 rw[hzz] at NM hz ⊢;obtain⟨z1,z2⟩:=z;simp only at NM hz ⊢;have hz0:(z1:Int)<65536:=by omega
 have hw:IntKind.i64.wrap (z1:Int)=(z1:Int):=by rw[IntKind.wrap_i64];omega
 have TL:=fun B W (h:CsS w cb s B z2 (pkB kind z1 0 []) adZ W)=>qafx hk0 hk1 hm h;have hlen:=q17y (kind:=kind) v z2;have ER:=fun W (h:CsAt W cb s z2)=>q3gp h;obtain⟨bb,hbb⟩:∃b,((v==5)&&((z2.e:Int)==0))=b:=⟨_,rfl⟩
 have hmid:midB v kind z2=if bb then qolc kind z2 else((0,[],0),z2):=by unfold midB;rw[<-hbb];by_cases h5:v=5<;>by_cases he:z2.e=0<;>simp[h5,he]
 have TL2:bb=true->∀B W,CsS w cb s B z2 (pkB kind z1 0 []) adZ W->Calls prog 151 #[.pointer (some ⟨cb,0,none⟩),.pointer (some ⟨B,0,none⟩)] W fun e W'=>e=.returned (.int .i64 ((midB v kind z2).1.2.2:Nat))/\∃a',CsS w cb s B (midB v kind z2).2 (pkB kind z1 (midB v kind z2).1.1 (midB v kind z2).1.2.1) a' W':=fun hb B W h=>by rw[hmid,if_pos hb];exact TL B W h
 have TL3:bb=false->midB v kind z2=((0,[],0),z2):=fun hb=>by rw[hmid,if_neg (by rw[hb];decide)]
 clear TL hmid;obtain⟨t,ht⟩:∃t,midB v kind z2=t:=⟨_,rfl⟩
 rw[ht] at hlen TL2 TL3 ⊢;obtain⟨⟨c,l,n⟩,y3⟩:=t;simp only at hlen TL2 ⊢;have hn:n=0\/n=1\/n=2:=by omega
 have LF:=fun W (h:CsAt W cb s y3)=>qjtm hm9 h;obtain⟨dd,hdd⟩:∃d,(decide ((0:Int)<((y3.r.length:Nat):Int)) || decide ((necA (pkB kind z1 c l):Int)<(n:Int)))=d:=⟨_,rfl⟩
 have FL:=fun W (h:CsAt W cb s y3)=>qazj 5 h;have hdY:(if y3.r≠[]\/necA (pkB kind z1 c l)<n then y3.fail 5 else y3)=if dd then y3.fail 5 else y3:=by
  rw[<-hdd];have e:(y3.r≠[]\/necA (pkB kind z1 c l)<n)↔(decide ((0:Int)<((y3.r.length:Nat):Int)) || decide ((necA (pkB kind z1 c l):Int)<(n:Int)))=true:=by rw[Bool.or_eq_true,decide_eq_true_eq,decide_eq_true_eq];rw[<-List.length_pos_iff];omega
  simp only[e]
 rw[hdY];obtain⟨Y,hY⟩:∃Y,(if dd then y3.fail 5 else y3)=Y:=⟨_,rfl⟩
 rw[hY];have ER2:=fun W (h:CsAt W cb s Y)=>q3gp h;have NE:=fun B a W (h:CsS w cb s B y3 (pkB kind z1 c l) a W)=>(q6c0 (pkB kind z1 c l) a W).mono fun e W' hh=>(⟨hh.1,h.below hh.2⟩:_/\CsS w cb s B y3 (pkB kind z1 c l) a W')
 have hnl:=qxhf (pkB kind z1 c l);obtain⟨D,hD⟩:∃D,pkC (pkB kind z1 0 []) adZ=D:=⟨_,rfl⟩
 have hD1:D.size=25:=by rw[<-hD];exact qwmp _ _
 have hD2:D.all (·.oneCell')=true:=by rw[<-hD];exact qmz0 _ _
 have HD:=hid hD;have HD1:=hid hD1;have HD2:=hid hD2;have HZ:=hid qbwp;have hzv:=qrai;have hne:¬pkZ=#[]:=by intro h;have:=qbwp;rw[h] at this;cases this
 have RS0:=hid (heap_alloc_new w (.cells pkZ 32));have G0:=hid (World.grownBy_alloc w (.cells pkZ 32) (some cb));have LT:=hid lt;replace TL3:=hid TL3;have HB:=hid hbb;have HN:=hid hn;have HNL:=hid hnl;have HY:=hid hY;have HDD:=hid hdd;replace NM:=hid NM;replace TL2:=hid TL2;replace ER:=hid ER;replace LF:=hid LF;replace FL:=hid FL;replace ER2:=hid ER2;replace NE:=hid NE;clear hm hm9 h h0 lt hz hzz hbb hn hlen hnl hY hdd hdY ht hD hD1 hD2 hk0 hk1;go_in;go_wp2_with fail;refine(NM.out).mono ?_;rintro e W1 ⟨rfl,hc,hg⟩;have R1:=(hg.block _ (lt_of_block RS0.out) (fun e=>by have:=Option.some.inj e;have:=LT.out;omega)).trans RS0.out;have S1:=hid (CsS.laid LT.out (qo6d G0.out hg) R1 hc HD.out rfl);clear hc hg R1 RS0 G0 NM
 go_upto_region 3 with (first
  |(refine wpList_buildTo rfl 32 _ rfl (some _) rfl D (by rw[<-HD.out];kernel_rfl) ?_)
  |(refine wpList_store_row rfl _ _ _ rfl W1.heap.size D rfl rfl 32 _ (heap_alloc_new W1 _) (by rw[HD1.out];exact q5nr) (by rw[HZ.out,HD1.out]) HD2.out ?_))
 generalize W1.heap.size=B at *;generalize (W1.alloc (.cells pkZ 32)).setRow _ D=W2 at *;clear hzv hne;go_cut [21] (fun s21 wx=>s21=.bool bb/\CsS w cb s B z2 (pkB kind z1 0 []) adZ wx)
 case first=>
  by_cases h5:v=5
  ·subst h5;obtain⟨b0,hb0⟩:∃b,((z2.e:Int)==0)=b:=⟨_,rfl⟩
   have HB1:=HB.out;rw[hb0] at HB1;have HB1:=hid HB1;clear HB;go_wp2_with fail;refine(ER.out _ S1.out.cs).mono ?_;rintro e W3 ⟨rfl,rfl⟩;go_wp2_with fail
   go_meet
   exact⟨by rw[<-HB1.out];rfl,S1.out⟩
  ·have h5':(v==5)=false:=beq_eq_false_iff_ne.2 h5;have HB1:=HB.out;rw[h5'] at HB1;have HB1:=hid HB1;clear HB h5;go_wp2_with fail
   go_meet
   exact⟨by rw[<-HB1.out];rfl,S1.out⟩
 case rest=>
  obtain⟨rfl,hS⟩:=hcut;have S2:=hid hS;clear hS S1 ER HB
  go_upto_if 21 with fail
  go_cut [9] (fun s9 wx=>s9=.int .i64 (n:Int)/\∃a,CsS w cb s B y3 (pkB kind z1 c l) a wx)
  case first=>
   cases bb with
   |true=>
    have TL:=hid (TL2.out rfl);clear TL2 TL3;go_wp2_with fail;refine(TL.out _ _ S2.out).mono ?_;rintro e W3 ⟨rfl,a,hS⟩;have S3:=hid hS;clear hS;go_wp2_with fail
    go_meet
    exact⟨rfl,a,S3.out⟩
   |false=>
    have e:=TL3.out rfl;simp only[Prod.mk.injEq] at e;obtain⟨⟨rfl,rfl,rfl⟩,rfl⟩:=e;clear TL2 TL3;go_wp2_with fail
    go_meet
    exact⟨rfl,adZ,S2.out⟩
  case rest=>
   obtain⟨rfl,a,hS⟩:=hcut;have S3:=hid hS;clear hS S2 TL2 TL3;have NEa:=hid (NE.out B a);have CX:=hid (qwmp (pkB kind z1 c l) a)
   go_upto_region 5 with fail
   go_cut [32] (fun s32 wx=>s32=.bool dd/\CsS w cb s B y3 (pkB kind z1 c l) a wx)
   case first=>
    have LEN:=LF.out _ S3.out.cs;obtain⟨m,hmm⟩:∃m:Int,((y3.r.length:Nat):Int)=m:=⟨_,rfl⟩
    have hm1:0<=m:=by omega
    have hd:=HDD.out;rw[hmm] at LEN hd;replace LEN:=hid LEN;clear hmm HDD;generalize necA (pkB kind z1 c l)=q at *;by_cases hm0:0<m
    ·have g1:decide ((0:Int)<m)=true:=decide_eq_true hm0;rw[g1,Bool.true_or] at hd;have HD3:=hid hd;clear hd hm0 hm1;go_wp2_with fail;refine(LEN.out).mono ?_;rintro e W4 ⟨rfl,k,rfl⟩;have S4:=hid (S3.out.draws k);go_wp2_with fail
     go_meet
     exact⟨by rw[HD3.out],S4.out⟩
    ·obtain rfl:m=0:=by omega
     rw[show decide ((0:Int)<0)=false from rfl,Bool.false_or] at hd;have HD3:=hid hd;clear hd hm0 hm1;have hqn:decide (q<n)=decide ((q:Int)<(n:Int)):=by rw[decide_eq_decide];omega
     have HD4:=hid (hqn.trans HD3.out);clear hqn HD3;have hn:=HN.out;have hnl:=HNL.out;go_wp2_with fail;refine(LEN.out).mono ?_;rintro e W4 ⟨rfl,k,rfl⟩;have S4:=hid (S3.out.draws k);go_wp2_with (refine q2a5 rfl _ _ rfl B rfl 32 _ (0,0) _ S4.out.pk underlying32 rfl (by rw[CX.out];exact q5nr) ?_);refine(NEa.out _ S4.out).mono ?_;rintro e W5 ⟨rfl,hS⟩;have S5:=hid hS;clear hS;go_wp2_with fail
     go_meet
     exact⟨congrArg Value.bool HD4.out,S5.out⟩
   case rest=>
    obtain⟨rfl,hS⟩:=hcut;have S4:=hid hS;clear hS S3 LF NE NEa HN HNL HDD
    go_upto_if 32 with fail
    go_cut [] (fun wx=>CsS w cb s B Y (pkB kind z1 c l) a wx)
    case first=>
     cases dd with
     |true=>
      go_wp2_with fail;refine(FL.out _ S4.out.cs).mono ?_;rintro e W5 ⟨rfl,hc,hg⟩;have S5:=hid (S4.out.call hc hg);clear hc hg;go_wp2_with fail
      go_meet
      rw[<-HY.out];exact S5.out
     |false=>
      go_wp2_with fail
      go_meet
      rw[<-HY.out];exact S4.out
    case rest=>
     have S5:=hid hcut;clear hcut S4 FL;have hx:=qwmp (pkB kind z1 c l) a;have hy:=qmz0 (pkB kind z1 c l) a;have RT:=hid (fun V (h:CsS w cb s B Y (pkB kind z1 c l) a V)=>(show q2i6 w cb (pkB kind z1 c l,Y.e) (.returned (.tuple #[.agg (pkC (pkB kind z1 c l) a),.int .i64 (Y.e:Nat)])) (V.setRow w.heap.size (pkC (pkB kind z1 c l) a)) from
      ⟨a,rfl,h.ps.kept (by simp[World.setRow]) (fun g i e _=>setRow_other V w.heap.size g _ (by have:=h.pf g i e;have:=h.hB;omega)),h.pc,fun g i e=>by have:=h.pf g i e;have:=h.hB;omega,
       ⟨h.g.os,h.g.tape,h.g.output,Nat.le_trans h.g.size (by simp[World.setRow]),fun k hk hne=>(setRow_other V w.heap.size k _ (by omega)).trans (h.g.block k hk hne)⟩⟩))
     have RS5:=hid (fun V (h:CsS w cb s B Y (pkB kind z1 c l) a V)=>setRow_heap V w.heap.size _ (pkC (pkB kind z1 c l) a) _ _ h.rs);obtain⟨C,hC⟩:∃C,pkC (pkB kind z1 c l) a=C:=⟨_,rfl⟩
     rw[hC] at hx hy RT RS5;have HC1:=hid hx;have HC2:=hid hy;have HCC:=hid hC;clear hx hy hC CX
     go_upto_region 7 with fail
     refine q55m (S:=CsS w cb s B Y (pkB kind z1 c l) a) (b:=w.heap.size) (B:=B) (cb:=cb) (f:=(Y.e:Nat)) (C:=C) (S5.out.draws 1) HC1.out HC2.out (by have:=S5.out.hB;omega) (fun V h=>by rw[<-HCC.out];exact h.pk) (fun V h=>⟨_,h.rs,qbwp⟩) (fun V h=>ER2.out V h.cs) (fun V h=>ER2.out _ (h.cs.of_block (setRow_other V w.heap.size cb _ (by have:=h.lt;omega)))) ?_;intro V h;have G:=hid (RS5.out V h);have RTV:=hid (RT.out V h);clear h RT RS5;go_wp2_with fail;exact q8iy (cs:=C) rfl rfl rfl rfl underlying32 rfl (by rw[HC1.out];exact q5nr) G.out RTV.out
end
end Go.Proofs.YtombgnfedafkjaaGreatDoor
