/- The contract of subscribe.reader.filters. Condition: at most 70,000 filters; the bytes are no more than an int says. -/
import Derived.OwnWalk
import Derived.WalkSmall
import Derived.Deep.LoopGhost
import Derived.Lib.IndexBytes
import Derived.Deep.DeepCutAuto
import Derived.Test.YtbecggefmbpnoaaGreatDoorK45
import Derived.Test.YtbecggefmbpnoaaGreatDoorK16
import Derived.Test.YtbecggefmbpnoaaGreatDoorK20
import Derived.Test.YtbecggefmbpnoaaGreatDoorK22
import Derived.Test.YtbecggefmbpnoaaGreatDoorK10
import Derived.Test.YtbecggefmbpnoaaGreatDoorK06
import Derived.Test.YtbecggefmbpnoaaGreatDoorK14
import Derived.Test.YtbecggefmbpnoaaGreatDoorK13
import Derived.Test.YtbecggefmbpnoaaGreatDoorK07
import Derived.Test.YtbecggefmbpnoaaGreatDoorK44
import Derived.Test.YtbecggefmbpnoaaGreatDoorK24
set_option maxRecDepth 100000
set_option maxHeartbeats 4000000
namespace Go.Proofs.YtbecggefmbpnoaaGreatDoor
open Go.RowKit
structure LsS(w:World)(cb:Nat)(v kind:Int)(s:ByteArray)(t:TypeId)(k n:Nat)(xs:List Value)(val:Value)(y:Cs)(W:World):Prop where
 lt:cb < w.heap.size
 g:w.grownBy W (some cb)
 bx:W.heap[w.heap.size]? = some (.cells #[.pointer (some ⟨cb,0,none⟩),.int .i64 v,.int .i64 kind] 73 (0,0))
 cs:CsAt W cb s y
 own:W.ownsRow (w.heap.size+1) t k val n xs
section
variable{w W W':World}{cb:Nat}{s:ByteArray}{x y z:Cs}{v kind:Int}{t:TypeId}{k n:Nat}{xs:List Value}{val:Value}
theorem LsS.made(h:CsAt w cb s x):LsS w cb v kind s t k 0 [] (.slice none 0 0) x (w.alloc (.cells #[.pointer (some ⟨cb,0,none⟩),.int .i64 v,.int .i64 kind] 73)):=
 ⟨h.lt,World.grownBy_alloc _ _ _,qq7p _ _ _ _,h.alloc _,World.ownsRow_nil _ _ _ _⟩
theorem LsS.call(h:LsS w cb v kind s t k n xs val y W)(hc:CsAt W' cb s z)(hg:W.grownBy W' (some cb)):LsS w cb v kind s t k n xs val z W':=
 ⟨h.lt,qo6d h.g hg,(hg.block _ (lt_of_block h.bx) (fun e=>by have:=Option.some.inj e;have:=h.lt;omega)).trans h.bx,hc,h.own.kept hg (.inr fun e=>by have:=(h.own.lt _ e).1;have:=h.lt;omega)⟩
theorem LsS.draws(h:LsS w cb v kind s t k n xs val y W)(j:Nat):LsS w cb v kind s t k n xs val y (W.drewN j):=
 h.call (h.cs.draws j) (q9cp (qnpu (Below.refl _ _) j) _)
theorem LsS.cell(h:LsS w cb v kind s t k n xs val y W)(j:Nat):W.cell? ⟨w.heap.size,j,none⟩=(#[Value.pointer (some ⟨cb,0,none⟩),.int .i64 v,.int .i64 kind]:Array Value)[j]? := cell_of_row _ _ j _ _ _ h.bx
theorem LsS.more(h:LsS w cb v kind s t k n xs val y W)(o:Obj){m:Nat}{ys:List Value}{val':Value}(hown:W'.ownsRow (w.heap.size+1) t k val' m ys)(hg:(W.alloc o).grownBy W' val.ownBlock):LsS w cb v kind s t k m ys val' y W':=by
 have hb:∀j,val.ownBlock=some j→w.heap.size+1≤j:=fun j e=>(h.own.lt j e).1
 have lb:=lt_of_block h.bx
 refine⟨h.lt,⟨hg.os.trans h.g.os,hg.tape.trans h.g.tape,hg.output.trans h.g.output,?_,fun j hj hne=>?_⟩,?_,?_,hown⟩
 ·have h1:=hg.size;have h2:=h.g.size;simp at h1;omega
 ·rw[hg.block j (by have:=h.g.size;simp;omega) (fun e=>by have:=hb j e.symm;omega),heap_alloc_old _ _ (by have:=h.g.size;omega)]
  exact h.g.block j hj hne
 ·rw[hg.block _ (by simp;omega) (fun e=>by have:=hb _ e.symm;omega),heap_alloc_old _ _ lb]
  exact h.bx
 ·refine h.cs.of_block ?_
  have:=h.lt
  rw[hg.block cb (by simp;omega) (fun e=>by have:=hb _ e.symm;omega),heap_alloc_old _ _ (by omega)]
end
def qfy2(y:Cs):Nat:=if y.e≠0 then 0 else y.r.length+1
section
variable{w W W':World}{cb:Nat}{s:ByteArray}{x y z:Cs}{v kind:Int}
theorem qrro(hk:kind=8∨kind=10)(hm:s.size≤9223372036854775807)(hN:(Cs.filtsW v kind x).1.length≤70000)(h:CsAt w cb s x) :
 Calls Tryz.prog 81 #[rdS cb v kind] w fun e w'=>(∃A c,e = .returned (.slice A (if (Cs.filtsW v kind x).2.e=0 then(Cs.filtsW v kind x).1 else []).length c)∧CL w' A (fcs (if (Cs.filtsW v kind x).2.e=0 then(Cs.filtsW v kind x).1 else []))∧∀g i,A=some ⟨g,i,none⟩→w.heap.size < g)∧CsAt w' cb s (Cs.filtsW v kind x).2∧w.grownBy w' (some cb):=by
 obtain⟨i0,hi,hz0,hz1,hz2⟩:=info_parts q4j3
 have S0:=Lib.hid (LsS.made (v:=v) (kind:=kind) (t:=32) (k:=5) h)
 have FI:=Lib.hid (fun y W (h:CsAt W cb s y)=>qruy (v:=v) hk hm h)
 have ER:=Lib.hid (fun y W (h:CsAt W cb s y)=>q3gp h)
 have LF:=Lib.hid (fun y W (h:CsAt W cb s y)=>qjtm hm h)
 have HK:=Lib.hid hk
 obtain⟨⟨L,Y⟩,hLY⟩:∃z,Cs.filtsW v kind x=z:=⟨_,rfl⟩
 rw[hLY] at hN ⊢
 simp only at hN ⊢
 have HN:=Lib.hid hN
 have HLY:=Lib.hid hLY
 have K0:∀n xs val y W,LsS w cb v kind s 32 5 n xs val y W→W.cell? ⟨w.heap.size,0,none⟩=some (.pointer (some ⟨cb,0,none⟩)):=fun n xs val y W h=>h.cell 0
 have K1:∀n xs val y W,LsS w cb v kind s 32 5 n xs val y W→W.cell? ⟨w.heap.size,1,none⟩=some (.int .i64 v):=fun n xs val y W h=>h.cell 1
 have K2:∀n xs val y W,LsS w cb v kind s 32 5 n xs val y W→W.cell? ⟨w.heap.size,2,none⟩=some (.int .i64 kind):=fun n xs val y W h=>h.cell 2
 replace K0:=Lib.hid K0
 replace K1:=Lib.hid K1
 replace K2:=Lib.hid K2
 unfold rdS at *
 clear h hk hN hLY
 go_enter Tryz.func81,Tryz.ntmps81
 go_wp2_with fail
 go_step3
 go_wp2_with fail
 go_step3
 go_wp2_with fail
 go_loopg [3] (qfy2 x) (fun gk s3 wx=>∃(l:List Fi) (y:Cs),gk=qfy2 y∧l++(Cs.filtsW v kind y).1=L∧(Cs.filtsW v kind y).2=Y∧LsS w cb v kind s 32 5 l.length (fcs l) s3 y wx)
 case atStart=>exact⟨[],x,rfl,by rw[HLY.out];rfl,by rw[HLY.out],S0.out⟩
 case round=>
  obtain⟨l,y,rfl,hL,hY,hS⟩:=hrel
  have SK:=Lib.hid hS
  have c0:=K0.out _ _ _ _ _ hS
  by_cases he:y.e=0
  ·have ERy:=fun W (h:CsAt W cb s y)=>ER.out y W h
   rw[he] at ERy
   replace ERy:=Lib.hid ERy
   have LFy:=fun W (h:CsAt W cb s y)=>LF.out y W h
   by_cases hr:y.r=[]
   ·rw[qztl (.inr hr)] at hL hY
    have hL:l=L:=by simpa using hL
    have hY:y=Y:=hY
    subst hL hY
    rw[hr] at LFy
    replace LFy:=Lib.hid LFy
    have HE:=Lib.hid he
    clear hS hr he
    go_wp2_with fail
    refine(ERy.out _ SK.out.cs).mono ?_
    rintro e W2 ⟨rfl,rfl⟩
    go_wp2_with fail
    refine(LFy.out _ SK.out.cs).mono ?_
    rintro e W3 ⟨rfl,j,rfl⟩
    have S3:=Lib.hid (SK.out.draws j)
    go_wp2_with fail
    rw[Exit.noGoto_ret]
    go_ret
    obtain⟨A,c,hv,_,hC,hA⟩:=CL.owned S3.out.own S3.out.own.1
    exact⟨⟨A,c,by rw[if_pos HE.out];exact congrArg Ending.returned hv,by rw[if_pos HE.out];exact hC,fun g i e=>hA g i e⟩,S3.out.cs,S3.out.g⟩
   ·rw[qwla HK.out he hr] at hL hY
    have q1:(((y.r.length:Nat):Int)==0)=false:=by
     have:=List.length_pos_iff.2 hr
     simp;omega
    have FIy:=FI.out y
    have hM:qfy2 (y.filt v kind).2 < qfy2 y:=by
     have e0:qfy2 y=y.r.length+1:=by unfold qfy2;rw[if_neg (by simpa using he)]
     rw[e0]
     unfold qfy2
     by_cases hz:(y.filt v kind).2.e=0
     ·rw[if_neg (by simpa using hz)]
      have:=qvwn HK.out hz
      omega
     ·rw[if_pos hz];omega
    obtain⟨⟨f,y2⟩,hf⟩:∃z,y.filt v kind=z:=⟨_,rfl⟩
    rw[hf] at hL hY FIy hM
    simp only at hL hY FIy hM
    have hL2:(l++[f])++(Cs.filtsW v kind y2).1=L:=by rw[←hL];simp
    have hlen:l.length+1≤70000:=by
     have h1:=HN.out
     rw[←hL2] at h1
     simp only[List.length_append,List.length_cons,List.length_nil] at h1
     omega
    have HLL:=Lib.hid (And.intro hL2 (And.intro hY (And.intro hM hlen)))
    have hfc:fcs l++[.string (bs f.topic),.int .i64 f.qos,.bool f.noLocal,.bool f.asPub,.int .i64 f.handling]=fcs (l++[f]):=by
     unfold fcs;rw[List.flatMap_append];rfl
    have HFC:=Lib.hid hfc
    unfold fiC at FIy
    generalize y.r.length=n at *
    replace FIy:=Lib.hid FIy
    replace LFy:=Lib.hid LFy
    generalize bs f.topic=x0 at *
    generalize f.qos=x1 at *
    generalize f.noLocal=x2 at *
    generalize f.asPub=x3 at *
    generalize f.handling=x4 at *
    clear hS hr he hL hY hf hM hL2 hlen hfc
    go_wp2_with fail
    refine(ERy.out _ SK.out.cs).mono ?_
    rintro e W2 ⟨rfl,rfl⟩
    go_wp2_with fail
    refine(LFy.out _ SK.out.cs).mono ?_
    rintro e W3 ⟨rfl,j,rfl⟩
    have S3:=Lib.hid (SK.out.draws j)
    generalize wr.drewN j=W3 at *
    have c1:=K1.out _ _ _ _ _ S3.out
    have c2:=K2.out _ _ _ _ _ S3.out
    clear c0
    have c0:=K0.out _ _ _ _ _ S3.out
    go_wp2_with fail
    refine(FIy.out _ S3.out.cs).mono ?_
    rintro e W4 ⟨rfl,hc,hg⟩
    have S4:=Lib.hid (S3.out.call hc hg)
    have hown:=S4.out.own
    clear hc hg c0 c1 c2
    go_wp2_with (at_builtin;refine wpList_append_own _ rfl _ _ 27 rfl (w.heap.size+1) 32 i0 (.agg #[.string .empty,.int .i64 0,.bool false,.bool false,.int .i64 0]) 5 40 Tryz.underlying27 hi hz0 hz1 hz2 rfl (by decide) _ _ _ rfl (hown.alloc _) ⟨W4.heap.size,0,none⟩ 1 1 [.string x0,.int .i64 x1,.bool x2,.bool x3,.int .i64 x4] rfl rfl ?c1 ?c2 ?c3 ?c4 ?c5 ?_)
    case c1=>intro j u hj;match j,hj with
     | 0,hj=>simp at hj;subst hj;exact World.cell?_alloc_at _ _ _ _ rfl
     | 1,hj=>simp at hj;subst hj;exact World.cell?_alloc_at _ _ _ _ rfl
     | 2,hj=>simp at hj;subst hj;exact World.cell?_alloc_at _ _ _ _ rfl
     | 3,hj=>simp at hj;subst hj;exact World.cell?_alloc_at _ _ _ _ rfl
     | 4,hj=>simp at hj;subst hj;exact World.cell?_alloc_at _ _ _ _ rfl
    case c2=>intro u hu;simp at hu;rcases hu with rfl | rfl | rfl | rfl | rfl<;>rfl
    case c3=>have:=HLL.out.2.2.2;unfold maxLen;omega
    case c4=>have:=HLL.out.2.2.2;omega
    case c5=>have:=lt_of_block S4.out.bx;simp only[World.size_alloc];omega
    intro v' w9 hown' hgrow _
    rw[HFC.out] at hown'
    have S9:=Lib.hid (S4.out.more _ hown' hgrow)
    clear hown' hgrow hown
    go_wp2_with fail
    go_roundg (qfy2 y2)
    case measure=>exact HLL.out.2.2.1
    case rel=>exact⟨l++[f],y2,rfl,HLL.out.1,HLL.out.2.1,by rw[List.length_append];exact S9.out⟩
  ·rw[qztl (.inl he)] at hL hY
   have hY:y=Y:=hY
   subst hY
   have ERy:=Lib.hid (fun W (h:CsAt W cb s y)=>ER.out y W h)
   have g1:((y.e:Int)==0)=false:=by simp;omega
   have g2:((y.e:Int) != 0)=true:=by simp;omega
   have HE:=Lib.hid he
   clear hS he
   go_wp2_with fail
   refine(ERy.out _ SK.out.cs).mono ?_
   rintro e W2 ⟨rfl,rfl⟩
   go_wp2_with fail
   rw[Exit.noGoto_ret]
   go_ret
   exact⟨⟨none,0,by rw[if_neg HE.out];rfl,by rw[if_neg HE.out];exact fun h=>absurd rfl h,fun g i e=>by cases e⟩,SK.out.cs,SK.out.g⟩
end
theorem q5h3:(Tryz.prog.info? 3).map (fun i=>(i.zero,i.size,i.bytes))=some (some (.int .i64 0),1,8):=by kernel_rfl
def q4rq(l:List UInt8):List Int:=l.map fun b=>((b.toNat:Nat):Int)
theorem q9a3(x:Cs):x.codes=(q4rq (x.take x.r.length).1,(x.take x.r.length).2):=by
 unfold Cs.codes Cs.take q4rq
 by_cases he:x.e=0
 ·simp[he]
 ·simp[he]
theorem q5if(x:Cs)(n:Nat):(x.take n).1.length≤n:=by
 unfold Cs.take
 split
 ·exact Nat.zero_le _
 ·split
  ·exact Nat.zero_le _
  ·simp;omega
section
variable{w W W':World}{cb:Nat}{s:ByteArray}{x y z:Cs}{v kind:Int}
theorem qi6w(hm:s.size≤9223372036854775807)(hN:x.codes.1.length≤70000)(h:CsAt w cb s x) :
 Calls Tryz.prog 82 #[rdS cb v kind] w fun e w'=>(∃A c,e = .returned (.slice A x.codes.1.length c)∧CL w' A (ics x.codes.1)∧∀g i,A=some ⟨g,i,none⟩→w.heap.size < g)∧CsAt w' cb s x.codes.2∧w.grownBy w' (some cb):=by
 obtain⟨i0,hi,hz0,hz1,hz2⟩:=info_parts q5h3
 have S0:=Lib.hid (LsS.made (v:=v) (kind:=kind) (t:=3) (k:=1) h)
 have LF:=fun W (h:CsAt W cb s x)=>qjtm hm h
 have TK:=fun W (h:CsAt W cb s x)=>qgtr x.r.length hm h
 rw[q9a3] at hN ⊢
 obtain⟨⟨T,Y⟩,hT⟩:∃z,x.take x.r.length=z:=⟨_,rfl⟩
 rw[hT] at TK hN ⊢
 simp only at TK hN ⊢
 generalize x.r.length=n at *
 have hTs:(bs T).size=T.length:=q5zk T
 have hTl:T.length≤70000:=by simpa [q4rq] using hN
 have hTk:∀(k:Nat) (hk:k < (bs T).size),T[k]? = some (bs T)[k]:=fun k hk=>by
  rw[List.getElem?_eq_getElem (show k < T.length by omega)]
  rfl
 replace LF:=Lib.hid LF
 replace TK:=Lib.hid TK
 have K0:∀n xs val y W,LsS w cb v kind s 3 1 n xs val y W→W.cell? ⟨w.heap.size,0,none⟩=some (.pointer (some ⟨cb,0,none⟩)):=fun n xs val y W h=>h.cell 0
 have HT:=Lib.hid (And.intro hTs (And.intro hTl hTk))
 unfold rdS at *
 clear h hT hN
 have q0:((bs T).size:Int)≤70000:=by omega
 clear hTs hTl hTk
 generalize bs T=t at *
 go_enter Tryz.func82,Tryz.ntmps82
 go_upto_region 2 with fail
 refine qf2v (S:=fun k W=>LsS w cb v kind s 3 1 0 [] (.slice none 0 0) (if k=2 then Y else x) W) (n:=(n:Nat)) (t:=t) (S0.out.draws 1) (fun k W h=>K0 _ _ _ _ _ h)
  (fun W h=>(LF.out W h.cs).mono fun e W' ⟨he,j,hj⟩=>⟨he,hj▸h.draws j⟩)
  (fun W h=>(TK.out W h.cs).mono fun e W' ⟨he,hc,hg⟩=>⟨he,h.call hc hg⟩) ?_
 intro W hS
 have S1:=Lib.hid (show LsS w cb v kind s 3 1 0 [] (.slice none 0 0) Y W from hS)
 clear hS
 go_wp2_with fail
 go_loopg [14,3] t.size (fun gk s14 s3 wx=>∃k:Nat,k≤t.size∧gk=t.size - k∧s14 = .int .i64 (k:Int)∧LsS w cb v kind s 3 1 k (ics (q4rq (T.take k))) s3 Y wx)
 case atStart=>exact⟨0,Nat.zero_le _,rfl,rfl,S1.out⟩
 case round=>
  obtain⟨k,hk,rfl,rfl,hS⟩:=hrel
  have SK:=Lib.hid hS
  by_cases hlt:k < t.size
  ·have hget:=HT.out.2.2 k hlt
   obtain⟨r,hr⟩:∃r,t[k].toNat=r:=⟨_,rfl⟩
   have hlist:ics (q4rq (T.take k))++[.int .i64 (r:Int)]=ics (q4rq (T.take (k+1))):=by
    obtain⟨hk1,hx⟩:=List.getElem?_eq_some_iff.1 hget
    rw[List.take_succ_eq_append_getElem hk1,hx,←hr]
    unfold ics q4rq;simp
   have HLI:=Lib.hid hlist
   have L:=Lib.hid hlt
   have g1:(k:Int) < (t.size:Int):=by omega
   have hne:¬t=ByteArray.empty:=by intro e;rw[e] at hlt;exact absurd hlt (by simp)
   have hown:=hS.own
   have hr8:(r:Int) < 256:=by have:=t[k].toNat_lt;omega
   clear hget hlist hS
   go_wp2_with (at_builtin;refine wpList_append_own _ rfl _ _ 26 rfl (w.heap.size+1) 3 i0 (.int .i64 0) 1 8 Tryz.underlying26 hi hz0 hz1 hz2 rfl (by decide) _ _ _ rfl (hown.alloc _) ⟨wr.heap.size,0,none⟩ 1 1 [.int .i64 (r:Int)] rfl rfl ?c1 ?c2 ?c3 ?c4 ?c5 ?_)
   case c1=>intro j u hj;cases j<;>simp at hj;subst hj;exact World.cell?_alloc_at _ _ _ _ rfl
   case c2=>intro u hu;simp at hu;subst hu;rfl
   case c3=>have:=HT.out.1;have:=HT.out.2.1;have:=L.out;unfold maxLen;omega
   case c4=>have:=HT.out.1;have:=HT.out.2.1;have:=L.out;omega
   case c5=>have:=lt_of_block SK.out.bx;simp only[World.size_alloc];omega
   intro v' w9 hown' hgrow _
   rw[HLI.out] at hown'
   have S9:=Lib.hid (SK.out.more _ hown' hgrow)
   clear hown' hgrow hown
   go_wp2_with fail
   go_roundg (t.size - (k+1))
   case measure=>have:=L.out;omega
   case rel=>exact⟨k+1,L.out,rfl,by go_num,S9.out⟩
  ·obtain rfl:k=t.size:=by omega
   rw[List.take_of_length_le (by rw[HT.out.1];exact Nat.le_refl _)] at hS
   have HS:=Lib.hid hS
   clear hS hlt hk
   go_wp2_with fail
   go_ret
   obtain⟨A,c,hv,_,hC,hA⟩:=CL.owned HS.out.own HS.out.own.1
   refine⟨⟨A,c,?_,hC,fun g i e=>hA g i e⟩,HS.out.cs,HS.out.g⟩
   have hl:(q4rq T).length=t.size:=by rw[HT.out.1];simp[q4rq]
   rw[hl]
   exact congrArg Ending.returned hv
end
structure SpS(w:World)(cb:Nat)(v kind:Int)(s:ByteArray)(b:Nat)(y:Cs)(P:Pk)(a:Ad)(W:World):Prop where
 lt:cb < w.heap.size
 g:w.grownBy W (some cb)
 bx:W.heap[w.heap.size]? = some (.cells #[.pointer (some ⟨cb,0,none⟩),.int .i64 v,.int .i64 kind] 73 (0,0))
 rs:W.heap[w.heap.size+1]? = some (.cells pkZ 29 (0,0))
 hb:w.heap.size+1 < b
 pk:W.heap[b]? = some (.cells (pkC P a) 29 (0,0))
 cs:CsAt W cb s y
 ps:PL W a.ps P.props
 cl:CL W a.cs (ics P.codes)
 fl:CL W a.fs (fcs P.filters)
 ap:∀g i,a.ps=some ⟨g,i,none⟩∨a.cs=some ⟨g,i,none⟩∨a.fs=some ⟨g,i,none⟩→b < g
 pc:P.props.length≤a.pc
section
variable{w W W':World}{cb b:Nat}{s:ByteArray}{x y z:Cs}{v kind:Int}{P P':Pk}{a a':Ad}
theorem SpS.call(h:SpS w cb v kind s b y P a W)(hc:CsAt W' cb s z)(hg:W.grownBy W' (some cb)):SpS w cb v kind s b z P a W':=by
 have o:∀k,k < W.heap.size→k≠cb→W'.heap[k]? = W.heap[k]? := fun k hk hne=>hg.block k hk (fun e=>hne (Option.some.inj e))
 have lt:=h.lt
 have hb:=h.hb
 refine⟨lt,qo6d h.g hg,(o _ (lt_of_block h.bx) (by omega)).trans h.bx,(o _ (lt_of_block h.rs) (by omega)).trans h.rs,hb,(o _ (lt_of_block h.pk) (by omega)).trans h.pk,hc,?_,?_,?_,h.ap,h.pc⟩
 ·exact h.ps.grown hg (fun g i e=>by have:=h.ap g i (.inl e);omega)
 ·exact h.cl.kept hg.size (fun g i e hlt=>o g hlt (by have:=h.ap g i (.inr (.inl e));omega))
 ·exact h.fl.kept hg.size (fun g i e hlt=>o g hlt (by have:=h.ap g i (.inr (.inr e));omega))
theorem SpS.cell(h:SpS w cb v kind s b y P a W)(j:Nat):W.cell? ⟨w.heap.size,j,none⟩=(#[Value.pointer (some ⟨cb,0,none⟩),.int .i64 v,.int .i64 kind]:Array Value)[j]? := cell_of_row _ _ j _ _ _ h.bx
theorem SpS.pcell(h:SpS w cb v kind s b y P a W)(j:Nat):W.cell? ⟨b,j,none⟩=(pkC P a)[j]? := cell_of_row _ _ j _ _ _ h.pk
theorem SpS.fr(h:SpS w cb v kind s b y P a W)(j:Nat):W.frozen? ⟨b,j,none⟩=false:=frozen_of_row _ _ _ _ _ h.pk
theorem SpS.set(h:SpS w cb v kind s b y P a W)(j:Nat)(u:Value)(he:(pkC P a).setIfInBounds j u=pkC P' a')
 (ps:PL W a'.ps P'.props) (cl:CL W a'.cs (ics P'.codes)) (fl:CL W a'.fs (fcs P'.filters)) (ap:∀g i,a'.ps=some ⟨g,i,none⟩∨a'.cs=some ⟨g,i,none⟩∨a'.fs=some ⟨g,i,none⟩→b < g) (pc:P'.props.length≤a'.pc) :
 SpS w cb v kind s b y P' a' (W.setCell ⟨b,j,none⟩ u):=by
 have o:∀k,k≠b→(W.setCell ⟨b,j,none⟩ u).heap[k]? = W.heap[k]? := fun k hk=>heap_setCell_other W ⟨b,j,none⟩ k u hk
 have sz:W.heap.size≤(W.setCell ⟨b,j,none⟩ u).heap.size:=by simp[World.setCell]
 have lt:=h.lt
 have hb:=h.hb
 refine⟨lt,⟨h.g.os,h.g.tape,h.g.output,Nat.le_trans h.g.size sz,fun k hk hne=>(o k (by omega)).trans (h.g.block k hk hne)⟩,(o _ (by omega)).trans h.bx,(o _ (by omega)).trans h.rs,hb,?_,h.cs.of_block (o _ (by omega)),?_,?_,?_,ap,pc⟩
 ·have:=qlvy h.pk j u;rw[he] at this;exact this
 ·exact ps.kept sz (fun g i e _=>o g (by have:=ap g i (.inl e);omega))
 ·exact cl.kept sz (fun g i e _=>o g (by have:=ap g i (.inr (.inl e));omega))
 ·exact fl.kept sz (fun g i e _=>o g (by have:=ap g i (.inr (.inr e));omega))
structure SwS(w:World)(cb:Nat)(v kind:Int)(s:ByteArray)(y z:Cs)(D:Array Value)(x:XG)(W:World):Prop where
 lt:cb < w.heap.size
 g:w.grownBy W (some cb)
 bx:W.heap[w.heap.size]? = some (.cells #[.pointer (some ⟨cb,0,none⟩),.int .i64 v,.int .i64 kind] 73 (0,0))
 rs:W.heap[w.heap.size+1]? = some (.cells pkZ 29 (0,0))
 cs:CsAt W cb s (if xn x then z else y)
 pk:∀b,xa x=some b→w.heap.size+1 < b∧W.heap[b]? = some (.cells (if xs x then D else pkZ) 29 (0,0))
theorem SwS.cell{D:Array Value}{q:XG}(h:SwS w cb v kind s y z D q W)(j:Nat):W.cell? ⟨w.heap.size,j,none⟩=(#[Value.pointer (some ⟨cb,0,none⟩),.int .i64 v,.int .i64 kind]:Array Value)[j]? := cell_of_row _ _ j _ _ _ h.bx
theorem SwS.num{D:Array Value}{g:Option Nat}(h:SwS w cb v kind s y z D (false,g,false) W)(hc:CsAt W' cb s z)(hg:W.grownBy W' (some cb)):SwS w cb v kind s y z D (true,g,false) W':=by
 have o:∀k,k < W.heap.size→k≠cb→W'.heap[k]? = W.heap[k]? := fun k hk hne=>hg.block k hk (fun e=>hne (Option.some.inj e))
 have lt:=h.lt
 refine⟨lt,qo6d h.g hg,(o _ (lt_of_block h.bx) (by omega)).trans h.bx,(o _ (lt_of_block h.rs) (by omega)).trans h.rs,hc,fun b hb=>?_⟩
 obtain⟨h1,h2⟩:=h.pk b hb
 exact⟨h1,(o b (lt_of_block h2) (by omega)).trans h2⟩
theorem SwS.put{D:Array Value}{b:Nat}(h:SwS w cb v kind s y z D (true,some b,false) W):SwS w cb v kind s y z D (true,some b,true) (W.setRow b D):=by
 obtain⟨h1,h2⟩:=h.pk b rfl
 have lt:=h.lt
 refine⟨lt,qacl h.g (by omega) _,(setRow_other _ _ _ _ (by omega)).trans h.bx,(setRow_other _ _ _ _ (by omega)).trans h.rs,h.cs.of_block (setRow_other _ _ _ _ (by omega)),fun c hc=>?_⟩
 obtain rfl:b=c:=Option.some.inj hc
 exact⟨h1,setRow_heap _ _ _ _ _ _ h2⟩
theorem q0qi(x:Cs):(x.num 2).1 < 65536:=by
 unfold Cs.num
 have:=qn9h (x.take 2).1
 have hl:=q5if x 2
 have:256^(x.take 2).1.length≤256^2:=Nat.pow_le_pow_right (by decide) hl
 omega
theorem qubv(hkd:qfws kind=true)(hk0:-9223372036854775808≤kind)(hk1:kind≤9223372036854775807)(hm:s.size≤9223372036854775807)(hf:((x.num 2).2.props v kind).2.r.length≤70000∨(qsfj kind=true∧(Cs.filtsW v kind ((x.num 2).2.props v kind).2).1.length≤70000))(h:CsAt w cb s x) :
 Calls Tryz.prog 37 #[rdS cb v kind] w fun e w'=>(∃a,e = .returned (.agg (pkC (q4qr v kind x).1 a))∧PkAt w' (q4qr v kind x).1 a∧(q4qr v kind x).1.props.length≤a.pc∧a.w=none∧∀g i,a.ps=some ⟨g,i,none⟩∨a.cs=some ⟨g,i,none⟩∨a.fs=some ⟨g,i,none⟩→w.heap.size < g)∧CsAt w' cb s (q4qr v kind x).2∧w.grownBy w' (some cb):=by
 have hk4:8≤kind∧kind≤11:=by simpa [qfws] using hkd
 have NM:=fun W (h:CsAt W cb s x)=>q8yf 2 (by decide) hm h
 have hz:=q0qi x
 unfold q4qr
 obtain⟨⟨z1,z2⟩,hzz⟩:∃z,x.num 2=z:=⟨_,rfl⟩
 rw[hzz] at NM hz hf ⊢
 simp only at NM hz hf ⊢
 have PR:=fun W (h:CsAt W cb s z2)=>qzvp (v:=v) hk0 hk1 hm h
 obtain⟨⟨L,y3⟩,hp⟩:∃z,z2.props v kind=z:=⟨_,rfl⟩
 rw[hp] at PR hf ⊢
 simp only at PR hf ⊢
 have FS:=fun(hk:kind=8∨kind=10) (hn:(Cs.filtsW v kind y3).1.length≤70000) W (h:CsAt W cb s y3)=>qrro (v:=v) hk hm hn h
 have CO:=fun(hn:y3.codes.1.length≤70000) W (h:CsAt W cb s y3)=>qi6w (v:=v) (kind:=kind) hm hn h
 have hlen:(Cs.filtsW v kind y3).1.length≤y3.r.length:=q8jt _ _
 have hcl:y3.codes.1.length≤y3.r.length:=by unfold Cs.codes;split;exact Nat.zero_le _;simp
 obtain⟨D,hD⟩:∃D,pkC {Pk.zero with kind:=kind,id:=(z1:Int)} adZ=D:=⟨_,rfl⟩
 have hD1:D.size=25:=by rw[←hD];exact qwmp _ _
 have hD2:D.all (·.oneCell')=true:=by rw[←hD];exact qmz0 _ _
 have W0:SwS w cb v kind s x z2 D (false,none,false) (((w.alloc (.cells #[.pointer (some ⟨cb,0,none⟩),.int .i64 v,.int .i64 kind] 73)).alloc (.cells pkZ 29)).drew):=
  ⟨h.lt,qo6d (qo6d (World.grownBy_alloc _ _ _) (World.grownBy_alloc _ _ _)) (q9cp (qnpu (Below.refl _ _) 1) _),heap_alloc2_old _ _ _,heap_alloc2_new _ _ _,((h.alloc _).alloc _).draws 1,fun b e=>by cases e⟩
 generalize hP:(if qsfj kind=true then _ else _)=PY
 obtain⟨P,Y⟩:=PY
 simp only
 have HP:=Lib.hid hP
 clear hP
 have HD:=Lib.hid hD
 have HD1:=Lib.hid hD1
 have HD2:=Lib.hid hD2
 have HW0:=Lib.hid W0
 have hzv:=qrai
 have hne:¬pkZ=#[]:=by intro h;have:=qbwp;rw[h] at this;cases this
 have HZ:=Lib.hid qbwp
 replace NM:=Lib.hid NM
 replace PR:=Lib.hid PR
 unfold rdS at *
 clear h hD hD1 hD2 W0 hzz hp
 go_enter Tryz.func37,Tryz.ntmps37
 go_upto_region 1 with fail
 clear hzv hne
 refine q3p3 (S:=SwS w cb v kind s x z2 D) (i:=(z1:Int)) HW0.out HD1.out HD2.out HD.out (by omega) (by omega) (fun x W h=>h.cell 0) (fun x W h=>h.cell 2)
  (fun g W h=>(NM.out W h.cs).mono fun e W' ⟨he,hc,hg⟩=>⟨he,h.num hc hg⟩)
  (fun n W h=>⟨h.lt,qo6d h.g (World.grownBy_alloc _ _ _),(heap_alloc_old _ _ (lt_of_block h.bx)).trans h.bx,(heap_alloc_old _ _ (lt_of_block h.rs)).trans h.rs,h.cs.alloc _,fun b hb=>by
   obtain rfl:W.heap.size=b:=Option.some.inj hb
   exact⟨lt_of_block h.rs,heap_alloc_new _ _⟩⟩)
  (fun g W h=>⟨(h.pk g rfl).2,h.put⟩) ?_
 intro b W h
 have S1:=Lib.hid (show SpS w cb v kind s b z2 {Pk.zero with kind:=kind,id:=(z1:Int)} adZ W from
  ⟨h.lt,h.g,h.bx,h.rs,(h.pk b rfl).1,by rw[HD.out];exact(h.pk b rfl).2,h.cs,PL.nil,CL.nil,CL.nil,fun g i e=>(by rcases e with e | e | e<;>cases e),Nat.le_refl _⟩)
 have c0:W.cell? ⟨w.heap.size,0,none⟩=some (.pointer (some ⟨cb,0,none⟩)):=S1.out.cell 0
 have c1:W.cell? ⟨w.heap.size,1,none⟩=some (.int .i64 v):=S1.out.cell 1
 have c2:W.cell? ⟨w.heap.size,2,none⟩=some (.int .i64 kind):=S1.out.cell 2
 have HZ4:=Lib.hid hk4
 have HF:=Lib.hid (And.intro hf (And.intro hlen hcl))
 clear h HW0 hz NM hf hlen hcl hk4 hkd HD1 HD2
 go_wp2_with fail
 refine(PR.out _ S1.out.cs).mono ?_
 rintro e W2 ⟨⟨A,c,rfl,hLc,hPL,hAd⟩,hc,hg⟩
 have S2:=Lib.hid (S1.out.call hc hg)
 have n24:W2.cell? ⟨b,24,none⟩=some (.slice none 0 0):=S2.out.pcell 24
 have f24:=S2.out.fr 24
 have S3:=Lib.hid (S2.out.set 24 (.slice A L.length c) (P':={Pk.zero with kind:=kind,id:=(z1:Int),props:=L}) (a':={adZ with ps:=A,pc:=c}) rfl hPL CL.nil CL.nil (fun g i e=>by
  rcases e with e | e | e
  ·exact Nat.lt_trans (lt_of_block S1.out.pk) (hAd g i e)
  ·cases e
  ·cases e) hLc)
 clear c0 c1 c2 hc hg hPL hAd hLc PR
 have AS:=Lib.hid (qczm kind)
 have c0:(W2.setCell ⟨b,24,none⟩ (.slice A L.length c)).cell? ⟨w.heap.size,0,none⟩=some (.pointer (some ⟨cb,0,none⟩)):=S3.out.cell 0
 have c1:(W2.setCell ⟨b,24,none⟩ (.slice A L.length c)).cell? ⟨w.heap.size,1,none⟩=some (.int .i64 v):=S3.out.cell 1
 have c2:(W2.setCell ⟨b,24,none⟩ (.slice A L.length c)).cell? ⟨w.heap.size,2,none⟩=some (.int .i64 kind):=S3.out.cell 2
 go_wp2_with fail
 refine(AS.out _).mono ?_
 rintro e W4 ⟨rfl,rfl⟩
 generalize W2.setCell ⟨b,24,none⟩ (.slice A L.length c)=W3 at *
 clear S2 n24 f24 S1
 have ask:=q9zy HZ4.out
 cases ha:qsfj kind with
 | true=>
  rw[ha] at HF ask
  have hk8:kind=8∨kind=10:=by
   rcases ask with ⟨_,h⟩ | ⟨h,_⟩
   ·exact h
   ·cases h
  have FS:=FS hk8 (by
   rcases HF.out.1 with h | ⟨_,h⟩;·have:=HF.out.2.1;omega
   ·exact h)
  have hP:=HP.out
  rw[ha,if_pos rfl] at hP
  obtain⟨⟨M,y4⟩,hM⟩:∃z,Cs.filtsW v kind y3=z:=⟨_,rfl⟩
  rw[hM] at FS hP
  simp only at FS hP
  obtain⟨N,hN⟩:∃N,(if y4.e=0 then M else [])=N:=⟨_,rfl⟩
  rw[hN] at FS hP
  simp only[Prod.mk.injEq] at hP
  obtain⟨rfl,rfl⟩:=hP
  clear HP
  replace FS:=Lib.hid FS
  clear ha ask hM hN HF CO hk8 AS
  go_wp2_with fail
  refine(FS.out _ S3.out.cs).mono ?_
  rintro e W5 ⟨⟨A2,cc,rfl,hCL,hAd⟩,hc,hg⟩
  have S5:=Lib.hid (S3.out.call hc hg)
  have n23:W5.cell? ⟨b,23,none⟩=some (.slice none 0 0):=S5.out.pcell 23
  have f23:=S5.out.fr 23
  have S6:=Lib.hid (S5.out.set 23 (.slice A2 N.length cc) (P':={Pk.zero with kind:=kind,id:=(z1:Int),props:=L,filters:=N}) (a':={adZ with ps:=A,pc:=c,fs:=A2,fc:=cc}) rfl S5.out.ps CL.nil hCL (fun g i e=>by
   rcases e with e | e | e
   ·exact S5.out.ap g i (.inl e)
   ·cases e
   ·exact Nat.lt_trans (lt_of_block S3.out.pk) (hAd g i e)) S5.out.pc)
  have G6:=S6.out.pk
  have R6:=Lib.hid S6.out.rs
  have hR1:=qwmp {Pk.zero with kind:=kind,id:=(z1:Int),props:=L,filters:=N} {adZ with ps:=A,pc:=c,fs:=A2,fc:=cc}
  have hR2:=qmz0 {Pk.zero with kind:=kind,id:=(z1:Int),props:=L,filters:=N} {adZ with ps:=A,pc:=c,fs:=A2,fc:=cc}
  obtain⟨R,hR⟩:∃R,pkC {Pk.zero with kind:=kind,id:=(z1:Int),props:=L,filters:=N} {adZ with ps:=A,pc:=c,fs:=A2,fc:=cc}=R:=⟨_,rfl⟩
  rw[hR] at G6 hR1 hR2
  have HR:=Lib.hid hR
  replace G6:=Lib.hid G6
  have HR1:=Lib.hid hR1
  have HR2:=Lib.hid hR2
  clear hR1 hR2 hR hc hg hCL hAd c0 c1 c2 S3
  go_wp2_with (first
   | (refine wpList_load_row rfl _ _ rfl b rfl 29 R (0,0) _ G6.out Tryz.underlying29 rfl (by rw[HR1.out];exact q5nr) ?_)
   | (refine wpList_store_row rfl _ _ _ rfl (w.heap.size+1) R rfl rfl 29 _ R6.out (by rw[HR1.out];exact q5nr) (by rw[HZ.out,HR1.out]) HR2.out ?_))
  have LT:=S6.out.lt
  have HB:=S6.out.hb
  have q1:=fun g i (h:_∨_∨_)=>S6.out.ap g i h
  refine q7wi (cs:=R) rfl rfl rfl Tryz.underlying29 rfl (by rw[HR1.out];exact q5nr) (setRow_heap _ _ _ _ _ _ R6.out) ⟨⟨{adZ with ps:=A,pc:=c,fs:=A2,fc:=cc},by rw[HR.out],⟨fun e=>absurd rfl e,CL.nil,?_,?_⟩,S6.out.pc,rfl,fun g i h=>by have:=q1 g i h;omega⟩,?_,?_⟩
  ·exact S6.out.fl.kept (by simp[World.setRow]) (fun g i e _=>setRow_other _ _ _ _ (by have:=q1 g i (.inr (.inr e));omega))
  ·exact S6.out.ps.kept (by simp[World.setRow]) (fun g i e _=>setRow_other _ _ _ _ (by have:=q1 g i (.inl e);omega))
  ·exact S6.out.cs.of_block (setRow_other _ _ _ _ (by omega))
  ·exact qacl S6.out.g (by omega) _
 | false=>
  rw[ha] at HF
  have CO:=CO (by
   rcases HF.out.1 with h | ⟨h,_⟩;·have:=HF.out.2.2;omega
   ·cases h)
  have hP:=HP.out
  rw[ha,if_neg (by decide)] at hP
  obtain⟨⟨N,y4⟩,hM⟩:∃z,y3.codes=z:=⟨_,rfl⟩
  rw[hM] at CO hP
  simp only at CO hP
  simp only[Prod.mk.injEq] at hP
  obtain⟨rfl,rfl⟩:=hP
  clear HP
  replace CO:=Lib.hid CO
  clear ha ask hM HF FS AS
  go_wp2_with fail
  refine(CO.out _ S3.out.cs).mono ?_
  rintro e W5 ⟨⟨A2,cc,rfl,hCL,hAd⟩,hc,hg⟩
  have S5:=Lib.hid (S3.out.call hc hg)
  have n22:W5.cell? ⟨b,22,none⟩=some (.slice none 0 0):=S5.out.pcell 22
  have f22:=S5.out.fr 22
  have S6:=Lib.hid (S5.out.set 22 (.slice A2 N.length cc) (P':={Pk.zero with kind:=kind,id:=(z1:Int),props:=L,codes:=N}) (a':={adZ with ps:=A,pc:=c,cs:=A2,cc:=cc}) rfl S5.out.ps hCL CL.nil (fun g i e=>by
   rcases e with e | e | e
   ·exact S5.out.ap g i (.inl e)
   ·exact Nat.lt_trans (lt_of_block S3.out.pk) (hAd g i e)
   ·cases e) S5.out.pc)
  have G6:=S6.out.pk
  have R6:=Lib.hid S6.out.rs
  have hR1:=qwmp {Pk.zero with kind:=kind,id:=(z1:Int),props:=L,codes:=N} {adZ with ps:=A,pc:=c,cs:=A2,cc:=cc}
  have hR2:=qmz0 {Pk.zero with kind:=kind,id:=(z1:Int),props:=L,codes:=N} {adZ with ps:=A,pc:=c,cs:=A2,cc:=cc}
  obtain⟨R,hR⟩:∃R,pkC {Pk.zero with kind:=kind,id:=(z1:Int),props:=L,codes:=N} {adZ with ps:=A,pc:=c,cs:=A2,cc:=cc}=R:=⟨_,rfl⟩
  rw[hR] at G6 hR1 hR2
  have HR:=Lib.hid hR
  replace G6:=Lib.hid G6
  have HR1:=Lib.hid hR1
  have HR2:=Lib.hid hR2
  clear hR1 hR2 hR hc hg hCL hAd c0 c1 c2 S3
  go_wp2_with (first
   | (refine wpList_load_row rfl _ _ rfl b rfl 29 R (0,0) _ G6.out Tryz.underlying29 rfl (by rw[HR1.out];exact q5nr) ?_)
   | (refine wpList_store_row rfl _ _ _ rfl (w.heap.size+1) R rfl rfl 29 _ R6.out (by rw[HR1.out];exact q5nr) (by rw[HZ.out,HR1.out]) HR2.out ?_))
  have LT:=S6.out.lt
  have HB:=S6.out.hb
  have q1:=fun g i (h:_∨_∨_)=>S6.out.ap g i h
  refine q7wi (cs:=R) rfl rfl rfl Tryz.underlying29 rfl (by rw[HR1.out];exact q5nr) (setRow_heap _ _ _ _ _ _ R6.out) ⟨⟨{adZ with ps:=A,pc:=c,cs:=A2,cc:=cc},by rw[HR.out],⟨fun e=>absurd rfl e,?_,CL.nil,?_⟩,S6.out.pc,rfl,fun g i h=>by have:=q1 g i h;omega⟩,?_,?_⟩
  ·exact S6.out.cl.kept (by simp[World.setRow]) (fun g i e _=>setRow_other _ _ _ _ (by have:=q1 g i (.inr (.inl e));omega))
  ·exact S6.out.ps.kept (by simp[World.setRow]) (fun g i e _=>setRow_other _ _ _ _ (by have:=q1 g i (.inl e);omega))
  ·exact S6.out.cs.of_block (setRow_other _ _ _ _ (by omega))
  ·exact qacl S6.out.g (by omega) _
end
end Go.Proofs.YtbecggefmbpnoaaGreatDoor
namespace Go.Proofs.YtbecggefmbpnoaaGreatDoor
theorem qoa7{kind:Int}{p:Pr}(h:qr4y kind p=0):PrOk p∧p.text.length≤65535∧p.value.length≤65535:=by
 obtain⟨hm,h4,h5⟩:=qo1o h
 obtain⟨_,h1,h2,_⟩:=qttn h
 obtain⟨r1,r2⟩:=qilb hm
 obtain⟨f0,f7,f1,f2,f3,f4,_⟩:=qznl hm
 have hn:p.n < 4294967296:=by
  by_cases hs:qwgc p.id≤4
  ·have h6:=(h4 hs).2.2.2
   have hs4:qwgc p.id=1∨qwgc p.id=2∨qwgc p.id=3∨qwgc p.id=4:=by omega
   rcases hs4 with e | e | e | e
   ·have:=f1 e;omega
   ·have:=f2 e;omega
   ·have:=f3 e;omega
   ·have:=f4 e;omega
  ·have:=(h5 (by omega)).1;omega
 exact⟨⟨by omega,by omega,hn,by omega,by omega⟩,h1,h2⟩
theorem qdz1(kind:Int)(s:List UInt8):(∀p∈(qflw kind s).1,PrOk p∧p.text.length≤65535∧p.value.length≤65535)∧(qflw kind s).1.length≤1000:=by
 by_cases h:(qflw kind s).2.2=0
 ·have hv:=(qugf (show qflw kind s=((qflw kind s).1,(qflw kind s).2.1,0) by rw[←h])).1
  obtain⟨h1,h2,_⟩:=(qgl5 _ _).1 hv
  exact⟨fun p hp=>qoa7 (h2.1 p hp),h1⟩
 ·rw[qjfk h]
  exact⟨fun p hp=>(nomatch hp),Nat.zero_le _⟩
theorem q5pm(x:Cs)(v kind:Int):(∀p∈(x.props v kind).1,PrOk p∧p.text.length≤65535∧p.value.length≤65535)∧(x.props v kind).1.length≤1000:=by
 unfold Cs.props
 split
 ·exact⟨fun p hp=>(nomatch hp),Nat.zero_le _⟩
 ·exact qdz1 _ _
end Go.Proofs.YtbecggefmbpnoaaGreatDoor
namespace Go.Proofs.YtbecggefmbpnoaaGreatDoor
open Go.RowKit
theorem qdkx:(Tryz.prog.info? 9).map (fun i=>(i.zero,i.size,i.bytes))=some (some (.string .empty),1,16):=by kernel_rfl
theorem qd1o(a:List (List UInt8))(l:List UInt8):strs a++[.string (bs l)]=strs (a++[l]):=by simp[strs]
theorem ql17{S:List UInt8}{d:Nat}(hd:S[d]? = some 47)(hf:(47:UInt8)∉S.take d):lvls S=S.take d::lvls (S.drop (d+1)):=by
 obtain⟨h1,h2⟩:=List.getElem?_eq_some_iff.1 hd
 conv=>lhs;rw[←List.take_append_drop d S,List.drop_eq_getElem_cons h1,h2]
 exact quk3 hf _
theorem quc1(s:ByteArray)(w:World)(hs:s.size≤200000) :
 Calls Tryz.prog 72 #[.string s] w fun e w'=>∃v,e = .returned v∧w'.ownsRow w.heap.size 9 1 v (lvls s.data.toList).length (strs (lvls s.data.toList))∧Below w.heap.size w w':=by
 obtain⟨i0,hi,hz0,hz1,hz2⟩:=info_parts qdkx
 obtain⟨S,hS⟩:∃S,s.data.toList=S:=⟨_,rfl⟩
 have hsz:S.length=s.size:=by rw[←hS,q4ad]
 have hget:∀(k:Nat) (hk:k < s.size),S[k]? = some s[k]:=fun k hk=>by
  rw[←hS,List.getElem?_eq_getElem (by rw[←q4ad];exact hk)];rfl
 have hext:∀i n,s.extract i (i+n)=bs ((S.drop i).take n):=fun i n=>by rw[←hS];exact q31q s i n
 rw[hS]
 have HX:=Lib.hid (And.intro hsz (And.intro hget hext))
 have q0:(s.size:Int)≤200000:=by omega
 clear hS hsz hget hext hs
 go_enter Tryz.func72,Tryz.ntmps72
 go_wp2_with fail
 go_loopg [3,4,5] s.size (fun gk s3 s4 s5 wx=>∃(f d:Nat) (o:List (List UInt8)),f+d≤s.size∧gk=s.size - (f+d)∧s4 = .int .i64 (f:Int)∧s5 = .int .i64 ((f+d:Nat):Int)∧lvls S=o++lvls (S.drop f)∧(47:UInt8)∉(S.drop f).take d∧o.length≤f∧wx.ownsRow w.heap.size 9 1 s3 o.length (strs o)∧Below w.heap.size w wx)
 case atStart=>exact⟨0,0,[],Nat.zero_le _,rfl,rfl,rfl,rfl,by simp,Nat.le_refl _,World.ownsRow_nil _ _ _ _,Below.refl _ _⟩
 case round=>
  obtain⟨f,d,o,hk,rfl,rfl,rfl,hL,hF,hO,hown,hb⟩:=hrel
  have HB:=Lib.hid hb
  have HOW:=Lib.hid hown
  obtain⟨k,hkk⟩:∃k,f+d=k:=⟨_,rfl⟩
  have hfk:(f:Int)≤(k:Int):=by omega
  by_cases hlt:k < s.size
  ·have hget:=HX.out.2.1 k hlt
   have hdd:(S.drop f)[d]? = some s[k]:=by rw[List.getElem?_drop,hkk];exact hget
   have hne:¬s=ByteArray.empty:=by intro e;rw[e] at hlt;exact absurd hlt (by simp)
   have L:=Lib.hid (And.intro hlt hkk)
   have g1:(k:Int) < (s.size:Int):=by omega
   rw[hkk]
   by_cases h47:s[k]=47
   ·have e47:((s[k].toNat:Int)==47)=true:=by rw[h47];rfl
    obtain⟨r,hr⟩:∃r,s[k].toNat=r:=⟨_,rfl⟩
    rw[hr] at e47
    have hsl:s.extract f k=bs ((S.drop f).take d):=by rw[←hkk];exact HX.out.2.2 f d
    have hcut:=ql17 (by rw[hdd,h47]) hF
    rw[List.drop_drop,show f+(d+1)=k+1 by omega] at hcut
    have hL2:lvls S=(o++[(S.drop f).take d])++lvls (S.drop (k+1)):=by rw[hL,hcut];simp
    have HL2:=Lib.hid (And.intro hL2 hO)
    have hsn:=qd1o o ((S.drop f).take d)
    generalize (S.drop f).take d=l at *
    have HSN:=Lib.hid hsn
    clear hget hdd h47 hcut hL2 hL hF hO hb hk hsn
    go_wp2_with (at_builtin;refine wpList_append_own _ rfl _ _ 52 rfl w.heap.size 9 i0 (.string .empty) 1 16 Tryz.underlying52 hi hz0 hz1 hz2 rfl (by decide) _ _ _ rfl (hown.alloc _) ⟨wr.heap.size,0,none⟩ 1 1 [.string (bs l)] rfl rfl ?c1 ?c2 ?c3 ?c4 ?c5 ?_)
    case c1=>intro j u hj;cases j<;>simp at hj;subst hj;exact World.cell?_alloc_at _ _ _ _ rfl
    case c2=>intro u hu;simp at hu;subst hu;rfl
    case c3=>have:=HL2.out.2;have:=L.out;unfold maxLen;omega
    case c4=>have:=HL2.out.2;have:=L.out;omega
    case c5=>have:=HB.out.size;simp only[World.size_alloc];omega
    intro v' w9 hown' hgrow _
    have HB9:=Lib.hid ((HB.out.alloc HB.out.size _).grown hgrow (by have:=HB.out.size;simp only[World.size_alloc];omega) (fun j e=>(HOW.out.lt j e).1))
    rw[HSN.out] at hown'
    have HO9:=Lib.hid hown'
    clear hown' hgrow hown
    go_wp2_with fail
    go_roundg (s.size - (k+1))
    case measure=>have:=L.out;omega
    case rel=>exact⟨k+1,0,o++[l],by have:=L.out;omega,rfl,by go_num,by go_num,HL2.out.1,by simp,by have:=HL2.out.2;have:=L.out;simp;omega,by rw[List.length_append];exact HO9.out,HB9.out⟩
   ·have e47:((s[k].toNat:Int)==47)=false:=by
     rw[beq_eq_false_iff_ne];intro e;exact h47 (UInt8.toNat_inj.1 (by have h2:(47:UInt8).toNat=47:=rfl;omega))
    obtain⟨r,hr⟩:∃r,s[k].toNat=r:=⟨_,rfl⟩
    rw[hr] at e47
    have hF2:(47:UInt8)∉(S.drop f).take (d+1):=by
     obtain⟨h1,h2⟩:=List.getElem?_eq_some_iff.1 hdd
     rw[List.take_succ_eq_append_getElem h1,h2,List.mem_append,not_or]
     exact⟨hF,fun e=>h47 (List.mem_singleton.1 e).symm⟩
    have HR:=Lib.hid (And.intro hL (And.intro hF2 hO))
    clear hget hdd h47 hF2 hL hF hO hb hk hown
    go_wp2_with fail
    go_roundg (s.size - (k+1))
    case measure=>have:=L.out;omega
    case rel=>exact⟨f,d+1,o,by have:=L.out;omega,by have:=L.out;omega,rfl,by rw[←Nat.add_assoc,L.out.2];go_num,HR.out.1,HR.out.2.1,HR.out.2.2,HOW.out,HB.out⟩
  ·obtain rfl:k=s.size:=by omega
   have hlast:(S.drop f).take d=S.drop f:=List.take_of_length_le (by rw[List.length_drop,HX.out.1];omega)
   rw[hlast] at hF
   rw[qty4 hF] at hL
   have hsl:s.extract f s.size=bs (S.drop f):=by rw[←hlast,←HX.out.2.2 f d,hkk]
   have hL2:strs o++[.string (bs (S.drop f))]=strs (lvls S)∧o.length+1=(lvls S).length:=by
    rw[hL];exact⟨qd1o _ _,by simp⟩
   have HL2:=Lib.hid (And.intro hL2 hO)
   have L:=Lib.hid hfk
   rw[hkk]
   generalize S.drop f=l at *
   clear hlast hF hL hO hb hk hlt hL2 hkk
   go_wp2_with (at_builtin;refine wpList_append_own _ rfl _ _ 52 rfl w.heap.size 9 i0 (.string .empty) 1 16 Tryz.underlying52 hi hz0 hz1 hz2 rfl (by decide) _ _ _ rfl (hown.alloc _) ⟨wr.heap.size,0,none⟩ 1 1 [.string (bs l)] rfl rfl ?c1 ?c2 ?c3 ?c4 ?c5 ?_)
   case c1=>intro j u hj;cases j<;>simp at hj;subst hj;exact World.cell?_alloc_at _ _ _ _ rfl
   case c2=>intro u hu;simp at hu;subst hu;rfl
   case c3=>have:=HL2.out.2;have:=L.out;unfold maxLen;omega
   case c4=>have:=HL2.out.2;have:=L.out;omega
   case c5=>have:=HB.out.size;simp only[World.size_alloc];omega
   intro v' w9 hown' hgrow _
   have HB9:=Lib.hid ((HB.out.alloc HB.out.size _).grown hgrow (by have:=HB.out.size;simp only[World.size_alloc];omega) (fun j e=>(HOW.out.lt j e).1))
   rw[HL2.out.1.1,HL2.out.1.2] at hown'
   have HO9:=Lib.hid hown'
   clear hown' hgrow hown
   go_wp2_with fail
   go_ret
   exact⟨_,rfl,HO9.out,HB9.out⟩
theorem qhe2:∀{a b:List (List UInt8)},a≠[]→b≠[]→q8nq (a++b)=q8nq a++47::q8nq b
 | [],_,h,_=>absurd rfl h
 | [l],b,_,hb=>by rw[List.singleton_append,qcnz l hb];rfl
 | l::m::a,b,_,hb=>by
  rw[List.cons_append,qcnz l (by simp),qhe2 (by simp) hb,qcnz l (by simp)]
  simp
theorem qsx0(a:List (List UInt8))(k:Nat):(q8nq (a.take k)).length≤(q8nq a).length:=by
 by_cases h1:a.take k=[]
 ·rw[h1];exact Nat.zero_le _
 by_cases h2:a.drop k=[]
 ·rw[List.take_of_length_le (List.drop_eq_nil_iff.1 h2)];exact Nat.le_refl _
 conv=>rhs;rw[←List.take_append_drop k a]
 rw[qhe2 h1 h2,List.length_append]
 omega
theorem qrpr{W:World}{A:Option Addr}{ls:List (List UInt8)}(h:CL W A (strs ls)):SR W A ls:=fun hne=>by
 obtain⟨g,i,e,hg,hc⟩:=h (by simpa [strs] using hne)
 exact⟨g,i,e,hg,fun j hj=>hc j _ (by simp[strs,List.getD,List.getElem?_eq_getElem hj])⟩
theorem qylw(A:Option Addr)(n c:Nat)(ls:List (List UInt8))(w:World)(h:SR w A ls)(hn:ls.length=n)(hN:n≤200000)(hl:(q8nq ls).length≤200000) :
 Calls Tryz.prog 74 #[.slice A n c] w fun e w'=>e = .returned (.string (bs (q8nq ls)))∧w=w':=by
 have HS:=Lib.hid h
 have HN:=Lib.hid hn
 have HT:=Lib.hid (fun k=>Nat.le_trans (qsx0 ls k) hl)
 have q0:(n:Int)≤200000:=by omega
 clear h hn hN hl
 go_enter Tryz.func74,Tryz.ntmps74
 go_wp2_with fail
 go_loopg [3,4] n (fun gk s3 s4 wx=>∃k:Nat,k≤n∧gk=n - k∧s4 = .int .i64 (k:Int)∧s3 = .string (bs (q8nq (ls.take k)))∧wx=w)
 case atStart=>exact⟨0,Nat.zero_le _,rfl,rfl,rfl,rfl⟩
 case round=>
  obtain⟨k,hk,rfl,rfl,rfl,rfl⟩:=hrel
  by_cases hlt:k < n
  ·have hkl:k < ls.length:=by rw[HN.out];exact hlt
   obtain⟨g,i,rfl,hg,hcell⟩:=HS.out (fun e=>by rw[e] at hkl;simp at hkl)
   have hc:=hcell k hkl
   have L:=Lib.hid hlt
   have g1:(k:Int) < (n:Int):=by omega
   have hts:ls.take (k+1)=ls.take k++[ls.getD k []]:=by
    rw[List.take_succ_eq_append_getElem hkl,List.getD_eq_getElem?_getD,List.getElem?_eq_getElem hkl];rfl
   have hT:=HT.out (k+1)
   rw[hts] at hT
   by_cases h0:k=0
   ·subst h0
    rw[Nat.add_zero] at hc
    have e1:bs (q8nq (ls.take 0))++bs (ls.getD 0 [])=bs (q8nq (ls.take (0+1))):=by
     rw[hts,qyv7];rfl
    have t1:¬9223372036854775807 < (bs (q8nq (ls.take 0))).size+(bs (ls.getD 0 [])).size:=by
     rw[q5zk,q5zk]
     have h2:q8nq (ls.take 0++[ls.getD 0 []])=ls.getD 0 []:=rfl
     rw[h2] at hT
     have h3:(q8nq (ls.take 0)).length=0:=rfl
     omega
    generalize bs (q8nq (ls.take 0))=X at *
    generalize bs (ls.getD 0 [])=Y at *
    have HE:=Lib.hid e1
    clear e1 hts hT hkl hcell hlt hk
    go_wp2_with fail
    go_roundg (n - (0+1))
    case measure=>have:=L.out;omega
    case rel=>exact⟨0+1,L.out,rfl,by go_num,congrArg Value.string HE.out,rfl⟩
   ·have hne:ls.take k≠[]:=fun e=>by
     have:=congrArg List.length e
     rw[List.length_take,List.length_nil] at this
     omega
    have hj:q8nq (ls.take (k+1))=q8nq (ls.take k)++[47]++ls.getD k []:=by
     rw[hts,qhe2 hne (by simp)]
     show _++47::ls.getD k []=_
     simp
    have e0:bs (q8nq (ls.take k))++⟨#[47]⟩=bs (q8nq (ls.take k)++[47]):=qyv7 _ [47]
    have e1:bs (q8nq (ls.take k)++[47])++bs (ls.getD k [])=bs (q8nq (ls.take (k+1))):=by rw[hj];exact qyv7 _ _
    have hT2:=HT.out (k+1)
    rw[hj,List.length_append,List.length_append] at hT2
    have t0:¬9223372036854775807 < (bs (q8nq (ls.take k))).size+1:=by rw[q5zk];omega
    have t1:¬9223372036854775807 < (bs (q8nq (ls.take k)++[47])).size+(bs (ls.getD k [])).size:=by
     rw[q5zk,q5zk,List.length_append];omega
    generalize bs (q8nq (ls.take k)++[47])=V at *
    generalize bs (q8nq (ls.take k))=X at *
    generalize bs (ls.getD k [])=Y at *
    have g2:0 < k:=by omega
    have HE:=Lib.hid e1
    clear e1 hts hT hT2 hj hne hkl hcell hlt hk h0
    go_wp2_with fail
    go_roundg (n - (k+1))
    case measure=>have:=L.out;omega
    case rel=>exact⟨k+1,L.out,rfl,by go_num,congrArg Value.string HE.out,rfl⟩
  ·obtain rfl:k=n:=by omega
   have e:ls.take k=ls:=List.take_of_length_le (by rw[HN.out];exact Nat.le_refl _)
   rw[e]
   clear hlt hk e
   go_wp2_with fail
   go_ret
   exact⟨rfl,rfl⟩
theorem quzfe(l:List UInt8)(ls:List (List UInt8)):decide (okl (l::ls))=(!(decide ((43:UInt8)∈l)&&!decide (l=[43]) || decide ((35:UInt8)∈l)&&(!decide (l=[35]) || !decide (ls=[])))&&decide (okl ls)):=by
 have h:okl (l::ls)↔((43:UInt8)∈l→l=[43])∧((35:UInt8)∈l→l=[35]∧ls=[])∧okl ls:=Iff.rfl
 rw[Bool.eq_iff_iff,decide_eq_true_eq,h]
 simp only[Bool.and_eq_true,Bool.not_eq_true',Bool.or_eq_false_iff,Bool.and_eq_false_iff,decide_eq_false_iff_not,Bool.not_eq_false',decide_eq_true_eq]
 by_cases a:(43:UInt8)∈l<;>by_cases b:l=[43]<;>by_cases c:(35:UInt8)∈l<;>by_cases d:l=[35]<;>by_cases e:ls=[]<;>simp[a,b,c,d,e]
theorem qz57(l:List UInt8)(c:List UInt8):((bs l).toList==c)=decide (l=c):=by
 rw[q0c6,Bool.eq_iff_iff];simp
theorem q16s(s:ByteArray)(w:World)(hs:s.size≤200000)(hne:s.data.toList≠[])(hv:qecx s.data.toList=true) :
 Calls Tryz.prog 24 #[.string s] w fun e w'=>e = .returned (.bool (decide (okl (lvls s.data.toList))))∧Below w.heap.size w w':=by
 have VA:=qcip s w
 rw[hv] at VA
 have LV:=Lib.hid (quc1 s w hs)
 have h10:(s.toList==[])=false:=by rw[qrze];cases h:s.data.toList with | nil=>exact absurd h hne | cons a b=>rfl
 have h11:s.toList.isEmpty=false:=by rw[qrze];cases h:s.data.toList with | nil=>exact absurd h hne | cons a b=>rfl
 have hlen:∀l∈lvls s.data.toList,l.length≤200000:=fun l hl=>by
  have hj:=qz8l s.data.toList
  obtain⟨k,hk⟩:=List.mem_iff_getElem?.1 hl
  have h1:=qsx0 ((lvls s.data.toList).drop k) 1
  have h2:(q8nq ((lvls s.data.toList).drop k)).length≤s.data.toList.length:=by
   by_cases h0:k=0
   ·subst h0;rw[List.drop_zero,hj];exact Nat.le_refl _
   ·have ha:(lvls s.data.toList).take k≠[]:=by
     intro e
     have:=congrArg List.length e
     have hk2:=(List.getElem?_eq_some_iff.1 hk).1
     rw[List.length_take,List.length_nil] at this;omega
    have hb:(lvls s.data.toList).drop k≠[]:=by
     intro e
     have:=(List.getElem?_eq_some_iff.1 hk).1
     have:=List.drop_eq_nil_iff.1 e;omega
    have h3:=qhe2 ha hb
    rw[List.take_append_drop,hj] at h3
    have:=congrArg List.length h3
    rw[List.length_append,List.length_cons] at this;omega
  have hkl:=(List.getElem?_eq_some_iff.1 hk).1
  rw[List.drop_eq_getElem_cons hkl,(List.getElem?_eq_some_iff.1 hk).2] at h1
  have h4:q8nq ((l::(lvls s.data.toList).drop (k+1)).take 1)=l:=rfl
  rw[h4,←(List.getElem?_eq_some_iff.1 hk).2,←List.drop_eq_getElem_cons hkl] at h1
  rw[(List.getElem?_eq_some_iff.1 hk).2] at h1
  rw[←q4ad] at h2;omega
 have hcount:(lvls s.data.toList).length≤200001:=by
  rw[qspi]
  have:=List.count_le_length (a:=(47:UInt8)) (l:=s.data.toList)
  rw[←q4ad] at this;omega
 obtain⟨ls,hls⟩:∃ls,lvls s.data.toList=ls:=⟨_,rfl⟩
 rw[hls] at LV hlen hcount ⊢
 obtain⟨n,hn⟩:∃n,ls.length=n:=⟨_,rfl⟩
 rw[hn] at LV hcount
 obtain⟨B,hB⟩:∃B,decide (okl ls)=B:=⟨_,rfl⟩
 rw[hB]
 have HB:=Lib.hid hB
 have HN:=Lib.hid hn
 have HNE:=Lib.hid (show ls≠[] by rw[←hls];exact q6q5 _)
 have HL:=Lib.hid hlen
 have q0:(n:Int)≤200001:=by omega
 replace VA:=Lib.hid VA
 clear hv hne hlen hcount hls hn hB hs
 go_enter Tryz.func24,Tryz.ntmps24
 go_wp2_with (go_at_call 71;with_reducible refine(VA.out).mono ?_;rintro e w1 ⟨rfl,rfl⟩)
 refine(LV.out).mono ?_
 rintro e W1 ⟨v,rfl,hown,hb⟩
 obtain⟨A,c,rfl,hc,hC,-⟩:=CL.owned hown hown.1
 have hsr:=qrpr hC
 have LO:=Lib.hid hb
 obtain⟨g,i,rfl,hg,hcell⟩:=hsr (HNE.out)
 have HC:=Lib.hid hcell
 clear hown hb hC hsr hcell hg hc
 go_wp2_with fail
 go_loopg [4] n (fun gk s4 wx=>∃k:Nat,k≤n∧gk=n - k∧s4 = .int .i64 (k:Int)∧decide (okl (ls.drop k))=B∧wx=W1)
 case atStart=>exact⟨0,Nat.zero_le _,rfl,rfl,HB.out,rfl⟩
 case round=>
  obtain⟨k,hk,rfl,rfl,hE,rfl⟩:=hrel
  by_cases hlt:k < n
  ·have hkl:k < ls.length:=by rw[HN.out];exact hlt
   have hcl:=HC.out k hkl
   have hdr:ls.drop k=ls.getD k []::ls.drop (k+1):=by
    rw[List.drop_eq_getElem_cons hkl,List.getD_eq_getElem?_getD,List.getElem?_eq_getElem hkl];rfl
   have hll:(ls.getD k []).length≤200000:=HL.out _ (by rw[List.getD_eq_getElem?_getD,List.getElem?_eq_getElem hkl];exact List.getElem_mem hkl)
   have hlast:decide (ls.drop (k+1)=[])=!decide ((k:Int)+1 < (n:Int)):=by
    rw[Bool.eq_iff_iff];simp[HN.out];omega
   rw[hdr,quzfe,hlast] at hE
   have H43:=fun W=>qwdg (bs (ls.getD k [])) 43 W (by rw[q5zk];omega)
   have H35:=fun W=>qwdg (bs (ls.getD k [])) 35 W (by rw[q5zk];omega)
   rw[qkd1] at H43 H35
   have e43:=qz57 (ls.getD k []) [43]
   have e35:=qz57 (ls.getD k []) [35]
   have x43:decide (ls.getD k []=[43])=true→decide ((35:UInt8)∈ls.getD k [])=false:=fun h=>by rw[of_decide_eq_true h];decide
   have L:=Lib.hid hlt
   have g1:(k:Int) < (n:Int):=by omega
   generalize decide ((43:UInt8)∈ls.getD k [])=b43 at *
   generalize decide ((35:UInt8)∈ls.getD k [])=b35 at *
   generalize decide (ls.getD k []=[43])=q43 at *
   generalize decide (ls.getD k []=[35])=q35 at *
   generalize bs (ls.getD k [])=t at *
   generalize hok:decide (okl (ls.drop (k+1)))=N at *
   have HOK:=Lib.hid hok
   replace H43:=Lib.hid (show ∀W,Calls Tryz.prog 73 #[.string t,.int .u8 43] W fun e w'=>e = .returned (.bool b43)∧W=w' from H43)
   replace H35:=Lib.hid (show ∀W,Calls Tryz.prog 73 #[.string t,.int .u8 35] W fun e w'=>e = .returned (.bool b35)∧W=w' from H35)
   have HEE:=Lib.hid hE
   clear hdr hll hlast hkl hlt hk hok hE
   have bad:(n:Int)=n:=rfl
   cases b43 with
   | true=>
    cases q43 with
    | false=>
     have e:false=B:=by rw[←HEE.out];simp
     subst e
     clear e35 x43
     go_wp2_with (go_at_call 73;with_reducible refine(H43.out _).mono ?_;rintro e w9 ⟨rfl,rfl⟩)
     go_ret
     exact⟨rfl,LO.out⟩
    | true=>
     obtain rfl:=x43 rfl
     have e:N=B:=by rw[←HEE.out];simp
     subst e
     clear e35 x43
     go_wp2_with (first
      | (go_at_call 73;with_reducible refine(H43.out _).mono ?_;rintro e w9 ⟨rfl,rfl⟩)
      | (go_at_call 73;with_reducible refine(H35.out _).mono ?_;rintro e w9 ⟨rfl,rfl⟩))
     go_roundg (n - (k+1))
     case measure=>have:=L.out;omega
     case rel=>exact⟨k+1,L.out,rfl,by go_num,HOK.out,rfl⟩
   | false=>
    cases b35 with
    | false=>
     have e:N=B:=by rw[←HEE.out];simp
     subst e
     clear e35 x43 e43
     go_wp2_with (first
      | (go_at_call 73;with_reducible refine(H43.out _).mono ?_;rintro e w9 ⟨rfl,rfl⟩)
      | (go_at_call 73;with_reducible refine(H35.out _).mono ?_;rintro e w9 ⟨rfl,rfl⟩))
     go_roundg (n - (k+1))
     case measure=>have:=L.out;omega
     case rel=>exact⟨k+1,L.out,rfl,by go_num,HOK.out,rfl⟩
    | true=>
     cases q35 with
     | false=>
      have e:false=B:=by rw[←HEE.out];simp
      subst e
      clear e43 x43
      go_wp2_with (first
       | (go_at_call 73;with_reducible refine(H43.out _).mono ?_;rintro e w9 ⟨rfl,rfl⟩)
       | (go_at_call 73;with_reducible refine(H35.out _).mono ?_;rintro e w9 ⟨rfl,rfl⟩))
      go_ret
      exact⟨rfl,LO.out⟩
     | true=>
      cases hd:decide ((k:Int)+1 < (n:Int)) with
      | true=>
       have e:false=B:=by rw[←HEE.out,hd];simp
       subst e
       have g2:(k:Int)+1 < (n:Int):=of_decide_eq_true hd
       clear e43 x43 HEE
       go_wp2_with (first
        | (go_at_call 73;with_reducible refine(H43.out _).mono ?_;rintro e w9 ⟨rfl,rfl⟩)
        | (go_at_call 73;with_reducible refine(H35.out _).mono ?_;rintro e w9 ⟨rfl,rfl⟩))
       go_ret
       exact⟨rfl,LO.out⟩
      | false=>
       have e:N=B:=by rw[←HEE.out,hd];simp
       subst e
       have g2:¬(k:Int)+1 < (n:Int):=of_decide_eq_false hd
       clear e43 x43 HEE
       go_wp2_with (first
        | (go_at_call 73;with_reducible refine(H43.out _).mono ?_;rintro e w9 ⟨rfl,rfl⟩)
        | (go_at_call 73;with_reducible refine(H35.out _).mono ?_;rintro e w9 ⟨rfl,rfl⟩))
       go_roundg (n - (k+1))
       case measure=>have:=L.out;omega
       case rel=>exact⟨k+1,L.out,rfl,by go_num,HOK.out,rfl⟩
  ·obtain rfl:k=n:=by omega
   rw[List.drop_eq_nil_of_le (by rw[HN.out];exact Nat.le_refl _)] at hE
   have hE:true=B:=by rw[←hE];rfl
   subst hE
   clear hlt hk
   go_wp2_with fail
   go_ret
   exact⟨rfl,LO.out⟩
theorem q2e6(s:ByteArray)(w:World)(hs:s.size≤200000) :
 Calls Tryz.prog 24 #[.string s] w fun e w'=>e = .returned (.bool (qw8n s.data.toList))∧Below w.heap.size w w':=by
 have VA:=Lib.hid (qcip s w)
 unfold qw8n
 by_cases h0:s.data.toList=[]
 ·have h10:(s.toList==[])=true:=by rw[qrze,h0];rfl
  have h11:s.toList.isEmpty=true:=by rw[qrze,h0];rfl
  rw[decide_eq_false (show ¬s.data.toList≠[] from fun h=>h h0),Bool.false_and,Bool.false_and]
  clear h0 hs
  go_enter Tryz.func24,Tryz.ntmps24
  go_wp2_with fail
  go_ret
  exact⟨rfl,Below.refl _ _⟩
 ·cases hv:qecx s.data.toList with
  | false=>
   have h10:(s.toList==[])=false:=by rw[qrze];cases h:s.data.toList with | nil=>exact absurd h h0 | cons a b=>rfl
   have h11:s.toList.isEmpty=false:=by rw[qrze];cases h:s.data.toList with | nil=>exact absurd h h0 | cons a b=>rfl
   rw[hv] at VA
   rw[Bool.and_false,Bool.false_and]
   clear h0 hs hv
   go_enter Tryz.func24,Tryz.ntmps24
   go_wp2_with (go_at_call 71;with_reducible refine(VA.out).mono ?_;rintro e w1 ⟨rfl,rfl⟩)
   go_ret
   exact⟨rfl,Below.refl _ _⟩
  | true=>
   rw[decide_eq_true (show s.data.toList≠[] from h0),Bool.true_and,Bool.true_and]
   exact q16s s w hs h0 hv
end Go.Proofs.YtbecggefmbpnoaaGreatDoor
