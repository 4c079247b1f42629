/- What Get tells. No condition. -/
import Derived.Laws.ResultCell
import Derived.Laws.CopyOwn
import Derived.Deep.LoopGhost
import Derived.Deep.RegionHeld3
import Derived.Deep.DeepCutAuto
import Derived.Great.BuildSlice
import Derived.Test.YtbklidpadffpgaaGreatK39
import Derived.Test.YtbklidpadffpgaaGreatK26
import Derived.Test.YtbklidpadffpgaaGreatK10
import Derived.Test.YtbklidpadffpgaaGreatK49
import Derived.Test.YtbklidpadffpgaaGreatK35
import Derived.Test.YtbklidpadffpgaaGreatK12
import Derived.Test.YtbklidpadffpgaaGreatK08
import Derived.Test.YtbklidpadffpgaaGreatK18
import Derived.Test.YtbklidpadffpgaaGreatK17
import Derived.Test.YtbklidpadffpgaaGreatK22
import Derived.Test.YtbklidpadffpgaaGreatK28
import Derived.Test.YtbklidpadffpgaaGreatK11
import Derived.Test.YtbklidpadffpgaaGreatK25
set_option maxHeartbeats 4000000
set_option maxRecDepth 100000
namespace Go.Proofs.YtbklidpadffpgaaGreat
open Go.RowKit
def getP(l:List Pr)(id:Int):Pr×Bool:=match l.find? fun p=>p.id==id with
 | some p=>(p,true)
 | none=>(⟨0,0,[],[]⟩,false)
theorem qihu(id:Int):getP [] id=(⟨0,0,[],[]⟩,false):=rfl
theorem q2to(p:Pr)(l:List Pr)(id:Int):getP (p::l) id=if p.id=id then(p,true) else getP l id:=by
 unfold getP
 rw[List.find?_cons]
 by_cases h:p.id=id
 ·have:(p.id==id)=true:=by simpa using h
  rw[this,if_pos h]
 ·have:(p.id==id)=false:=by simpa using h
  rw[this,if_neg h]
theorem qxal(l:List Pr)(id:Int):(getP l id).2=hasP l id:=by
 induction l with
 | nil=>rfl
 | cons p l ih=>
  rw[q2to]
  unfold hasP at ih ⊢
  rw[List.any_cons]
  by_cases h:p.id=id
  ·rw[if_pos h];simp[h]
  ·rw[if_neg h,ih];simp[h]
theorem qi36:(Tryz.prog.info? 25).map (·.size)=some 4:=by kernel_rfl
theorem qbgf{fn:Func}{R:Ending→World→Prop}{a:Act}{W:World}{p u:Tmp}{B:Nat}{cs:Array Value}{v:Value}(h:fn.results=#[.cell p 25,.tmp u])(hp:a.tmps.getD p undef = .pointer (some ⟨B,0,none⟩))(hu:a.tmps.getD u undef=v)(hd:a.defers=[])(hcs:cs.size=4)
 (hg:W.heap[B]? = some (.cells cs 25 (0,0))) (hR:R (.returned (.tuple #[.agg cs,v])) W):bodyPost Tryz.prog fn R .ret a W:=by
 refine bodyPost_ret (v := .tuple #[.agg cs,v]) ?_ hd hR
 rw[results_cell_tmp h,hp,hu]
 have:=run_loadVar_row (P:=Tryz.prog) W B 25 25 cs (0,0) _ hg Tryz.underlying25 rfl (by rw[hcs];kernel_rfl)
 simp[asAddr,this,Result.andThen]
theorem qfah(A:Option Addr)(n c:Nat)(l:List Pr)(id:Int)(w:World)(hl:PL w A l)(hn:l.length=n)(hN:n≤70000) :
 Calls Tryz.prog 110 #[.slice A n c,.int .i64 id] w fun e w'=>e = .returned (.tuple #[qbhk (getP l id).1,.bool (getP l id).2])∧Below w.heap.size w w':=by
 have HL:=Lib.hid hl
 have HN:=Lib.hid hn
 have hN2:(n:Int)≤70000:=by omega
 obtain⟨R,hR⟩:∃R,getP l id=R:=⟨_,rfl⟩
 rw[hR]
 have HR:=Lib.hid hR
 have B0:=Lib.hid (show Below w.heap.size w (w.alloc (.cells #[.int .i64 0,.int .u32 0,.string ⟨#[]⟩,.string ⟨#[]⟩] 25)) from(Below.refl _ _).alloc (Nat.le_refl _) _)
 have Z0:=Lib.hid (heap_alloc_new w (.cells #[.int .i64 0,.int .u32 0,.string ⟨#[]⟩,.string ⟨#[]⟩] 25))
 clear hl hn hN hR
 go_enter Tryz.func110,Tryz.ntmps110
 go_wp2_with fail
 go_loopg [6] n (fun gk s10 wx=>∃k:Nat,k≤n∧gk=n - k∧s10 = .int .i64 (k:Int)∧getP (l.drop k) id=R∧Below w.heap.size w wx∧wx.heap[w.heap.size]? = some (.cells #[.int .i64 0,.int .u32 0,.string ⟨#[]⟩,.string ⟨#[]⟩] 25 (0,0)))
 case atStart=>exact⟨0,by omega,by omega,rfl,HR.out,B0.out,Z0.out⟩
 case round=>
  obtain⟨k,hk,hgk,rfl,hE,hB,hZ⟩:=hrel
  by_cases hlt:k < n
  ·have hkl:k < l.length:=by rw[HN.out];exact hlt
   obtain⟨p,hp⟩:∃p,l[k]? = some p:=⟨_,List.getElem?_eq_getElem hkl⟩
   obtain⟨g,i,e',hg',c0,c1,c2,c3⟩:=(HL.out.below hB).at hp
   subst e'
   have g1:(k:Int) < (n:Int):=by omega
   have hdr:l.drop k=p::l.drop (k+1):=by
    rw[List.drop_eq_getElem_cons hkl];congr 1
    rw[List.getElem?_eq_getElem hkl] at hp;exact Option.some.inj hp
   rw[hdr,q2to] at hE
   have hzl:=lt_of_block hZ
   have HB:=Lib.hid hB
   have HZ:=Lib.hid hZ
   by_cases hq:p.id=id
   ·rw[if_pos hq] at hE
    have q1:(p.id==id)=true:=by simpa using hq
    subst hE
    clear hq hB hdr hp hkl
    go_wp2_with (refine wpList_store_row rfl _ _ _ rfl w.heap.size _ rfl rfl 25 _ hZ qi36 rfl (by simp[Value.oneCell']) ?_)
    (try simp only[Exit.inBlock,Exit.then])
    refine qbgf rfl rfl rfl rfl ?_ (setRow_heap _ _ _ _ _ _ HZ.out) ?_
    ·rfl
    ·exact⟨rfl,q6i6 HB.out (Nat.le_refl _) _⟩
   ·rw[if_neg hq] at hE
    have HE:=Lib.hid hE
    have q1:(p.id==id)=false:=by simpa using hq
    clear hE hq hB hZ hdr hp hkl
    go_wp2_with fail
    go_roundg (n - (k+1))
    case measure=>omega
    case rel=>exact⟨k+1,by omega,rfl,by go_num,HE.out,HB.out,HZ.out⟩
  ·obtain rfl:k=n:=by omega
   have hd1:l.drop k=[]:=List.drop_of_length_le (by rw[HN.out];omega)
   rw[hd1,qihu] at hE
   have HZ:=Lib.hid hZ
   have HB:=Lib.hid hB
   subst hE
   clear hB hd1
   go_wp2_with (refine wpList_store_row rfl _ _ _ rfl w.heap.size _ rfl rfl 25 _ hZ qi36 rfl (by simp[Value.oneCell']) ?_)
   (try simp only[Exit.inBlock,Exit.then])
   refine qbgf rfl rfl rfl rfl ?_ (setRow_heap _ _ _ _ _ _ HZ.out) ?_
   ·rfl
   ·exact⟨rfl,q6i6 HB.out (Nat.le_refl _) _⟩
theorem qdfs(kind:Int)(A:Option Addr)(n c:Nat)(l:List Pr)(id:Int)(w:World)(hl:PL w A l)(hn:l.length=n)(hN:n≤70000) :
 Calls Tryz.prog 69 #[.int .i64 kind,.slice A n c,.int .i64 id] w fun e w'=>e = .returned (.bool (qxv1 kind l id))∧Below w.heap.size w w':=by
 have GT:=qfah A n c l id w hl hn hN
 rw[qxal] at GT
 have MN:=q30m kind id
 unfold qxv1
 generalize (getP l id).1=q at *
 generalize hasP l id=b at *
 generalize quux kind id=m at *
 have GT:=Lib.hid GT
 have MN:=Lib.hid MN
 clear hl hn hN
 cases b<;>cases m<;>
 ·go_enter Tryz.func69,Tryz.ntmps69
  go_wp2_with fail
  refine(GT.out).mono ?_
  rintro e w1 ⟨rfl,hb⟩
  have HB:=Lib.hid (hb.alloc hb.size (.cells #[.int .i64 q.id,.int .u32 q.n,.string (bs q.text),.string (bs q.value)] 25))
  clear hb
  unfold qbhk
  go_wp2_with (go_at_call 111;refine(MN.out _).mono ?_;rintro e w2 ⟨rfl,hb⟩;have HB:=Lib.hid (HB.out.trans (hb.mono HB.out.size));clear hb)
  go_ret
  exact⟨rfl,HB.out⟩
theorem qjco(A:Option Addr)(n c:Nat)(l:List Pr)(w:World)(hl:PL w A l)(hn:l.length=n)(hN:n≤70000) :
 Calls Tryz.prog 70 #[.slice A n c] w fun e w'=>e = .returned (.bool (qwyx l))∧Below w.heap.size w w':=by
 have G1:=fun W (hb:Below w.heap.size w W)=>qfah A n c l 22 W (hl.below hb) hn hN
 have G2:=fun W (hb:Below w.heap.size w W)=>qfah A n c l 21 W (hl.below hb) hn hN
 rw[qxal] at G1 G2
 unfold qwyx
 generalize (getP l 22).1=q at *
 generalize (getP l 21).1=r at *
 generalize hasP l 22=b at *
 generalize hasP l 21=d at *
 have G1:=Lib.hid G1
 have G2:=Lib.hid G2
 clear hl hn hN
 cases b<;>cases d<;>
 ·go_enter Tryz.func70,Tryz.ntmps70
  go_wp2_with fail
  refine(G1.out w (Below.refl _ _)).mono ?_
  rintro e w1 ⟨rfl,hb⟩
  have HB:=Lib.hid (hb.alloc hb.size (.cells #[.int .i64 q.id,.int .u32 q.n,.string (bs q.text),.string (bs q.value)] 25))
  clear hb
  unfold qbhk
  go_wp2_with fail
  refine(G2.out _ HB.out).mono ?_
  rintro e w2 ⟨rfl,hb⟩
  have HB2:=Lib.hid (HB.out.trans (hb.mono HB.out.size))
  have HB:=Lib.hid (HB2.out.alloc HB2.out.size (.cells #[.int .i64 r.id,.int .u32 r.n,.string (bs r.text),.string (bs r.value)] 25))
  clear hb
  unfold qbhk
  go_wp2_with fail
  go_ret
  exact⟨rfl,HB.out⟩
theorem q967(kind:Int)(l:List Pr)(k:Nat)(p:Pr)(hp:l[k]? = some p):q09m kind (l.take k) (l.drop k)=if qr4y kind p≠0 then qr4y kind p else if qxv1 kind (l.take k) p.id then 9 else q09m kind (l.take (k+1)) (l.drop (k+1)):=by
 have hk:=(List.getElem?_eq_some_iff.1 hp).1
 have hd:l.drop k=p::l.drop (k+1):=by
  rw[List.drop_eq_getElem_cons hk];congr 1
  rw[List.getElem?_eq_getElem hk] at hp;exact Option.some.inj hp
 have ht:l.take (k+1)=l.take k++[p]:=by rw[List.take_add_one,hp];rfl
 rw[hd,ht,q09m]
theorem qwwa(kind:Int)(A:Option Addr)(n c:Nat)(l:List Pr)(w:World)(hl:PL w A l)(hn:l.length=n)(hc:n≤c)(hcm:c≤9223372036854775807)(hN:n≤1010)(ht:∀p∈l,p.text.length≤200000) :
 Calls Tryz.prog 41 #[.int .i64 kind,.slice A n c] w fun e w'=>e = .returned (.int .i64 ((qpyu kind l:Nat):Int))∧Below w.heap.size w w':=by
 by_cases h1:1000 < n
 ·have hV:qpyu kind l=4:=by unfold qpyu;rw[if_pos (by omega)]
  have q1:(1000:Int) < (n:Int):=by omega
  rw[hV]
  clear hl hn hc hcm hN ht h1 hV
  go_enter Tryz.func41,Tryz.ntmps41
  go_wp2_with fail
  go_ret
  exact⟨rfl,Below.refl _ _⟩
 have q1:¬(1000:Int) < (n:Int):=by omega
 obtain⟨V,hV⟩:∃V,qpyu kind l=V:=⟨_,rfl⟩
 have hV2:=hV
 unfold qpyu at hV2
 rw[if_neg (by omega)] at hV2
 rw[hV]
 have HV:=Lib.hid hV2
 have HL:=Lib.hid hl
 have HN:=Lib.hid hn
 have HT:=Lib.hid ht
 have HNN:=Lib.hid hN
 have LO:=Lib.hid (fun W (hb:Below w.heap.size w W)=>qjco A n c l W (hl.below hb) hn (by omega))
 have q2:(n:Int)≤(c:Int):=by omega
 have q3:(c:Int)≤9223372036854775807:=by omega
 have q4:(n:Int)≤1010:=by omega
 have TW:=Lib.hid (fun W (hb:Below w.heap.size w W) k id (hk:k≤n)=>qdfs kind A k c (l.take k) id W ((hl.below hb).take k) (by rw[List.length_take];omega) (by omega))
 clear hl hn hc hcm hN ht h1 hV hV2
 go_enter Tryz.func41,Tryz.ntmps41
 go_wp2_with fail
 go_loopg [5] n (fun gk s5 wx=>∃k:Nat,k≤n∧gk=n - k∧s5 = .int .i64 (k:Int)∧q09m kind (l.take k) (l.drop k)=q09m kind [] l∧(∀j p,j < k→l[j]? = some p→qr4y kind p=0)∧Below w.heap.size w wx)
 case atStart=>exact⟨0,Nat.zero_le _,rfl,rfl,rfl,fun j p h=>by omega,Below.refl _ _⟩
 case round=>
  obtain⟨k,hk,rfl,rfl,hE,hC,hB⟩:=hrel
  have HB:=Lib.hid hB
  by_cases hlt:k < n
  ·have hkl:k < l.length:=by rw[HN.out];exact hlt
   obtain⟨p,hp⟩:∃p,l[k]? = some p:=⟨_,List.getElem?_eq_getElem hkl⟩
   obtain⟨g,i,rfl,hg',c0,c1,c2,c3⟩:=(HL.out.below hB).at hp
   rw[q967 kind l k p hp] at hE
   have CK:=fun W=>q9ay kind p W (HT.out p (List.mem_of_getElem? hp))
   obtain⟨E,hEE⟩:∃E,qr4y kind p=E:=⟨_,rfl⟩
   rw[hEE] at CK hE
   have g1:(k:Int) < (n:Int):=by omega
   have g2:(k:Int)≤(c:Int):=by omega
   have g3:(0:Int)≤(k:Int):=by omega
   have MK:=Lib.hid (fun W (h:Below w.heap.size w W)=>(show W.cell? ⟨g,i+k*4,none⟩=some (.int .i64 p.id)∧Below w.heap.size w W from by
    obtain⟨g',i',e',_,d0,d1,d2,d3⟩:=(HL.out.below h).at hp
    cases e'
    exact⟨d0,h⟩))
   have CK:=Lib.hid CK
   have HEE:=Lib.hid hEE
   have HLT:=Lib.hid hlt
   have HP:=Lib.hid hp
   have HC:=Lib.hid hC
   unfold qbhk at CK
   by_cases e0:E=0
   ·subst e0
    rw[if_neg (by simp)] at hE
    have TW1:=Lib.hid (fun W hb=>TW.out W hb k p.id (by omega))
    obtain⟨b,hb⟩:∃b,qxv1 kind (l.take k) p.id=b:=⟨_,rfl⟩
    rw[hb] at hE TW1
    have HE:=Lib.hid hE
    clear hE hb hlt hk hp hkl hC hEE hg' hB
    go_wp2_with fail
    refine(CK.out _).mono ?_
    rintro e w1 ⟨rfl,hb⟩
    have hS:=MK.out w1.drew (qnpu (HB.out.trans (hb.mono HB.out.size)) 1)
    clear hb c0 c1 c2 c3
    go_wp2_with fail
    go_region_held3 (fun w'=>w'.cell? ⟨g,i+k*4,none⟩=some (.int .i64 p.id)∧Below w.heap.size w w')
     (exact hS)
     (first
      | (go_at_call 69;with_reducible refine(TW1.out _ hS.2).mono ?_;rintro e w2 ⟨rfl,hb⟩;have hS:=MK.out _ (hS.2.trans (hb.mono hS.2.size));clear hb))
    rename_i hHeld
    have HB1:=Lib.hid hS.2
    clear hHeld hS
    cases b with
    | true=>
     have hV:=HV.out
     have hE:=HE.out
     rw[if_pos rfl] at hE
     rw[←hE,if_pos (by decide)] at hV
     subst hV
     clear hE
     go_wp2_with fail
     go_ret
     exact⟨rfl,HB1.out⟩
    | false=>
     have hE:=HE.out
     rw[if_neg (by decide)] at hE
     have HE2:=Lib.hid hE
     clear hE
     go_wp2_with fail
     go_roundg (n - (k+1))
     case measure=>have:=HLT.out;omega
     case rel=>
      refine⟨k+1,by have:=HLT.out;omega,rfl,by go_num,HE2.out,fun j q hj hq=>?_,HB1.out⟩
      by_cases hjk:j=k
      ·subst hjk
       have:=hq.symm.trans HP.out
       injection this with this
       rw[this];exact HEE.out
      ·exact HC.out j q (by omega) hq
   ·have n0:(((E:Nat):Int) != 0)=true:=by rw[bne_iff_ne];omega
    rw[if_pos e0] at hE
    have HE:=Lib.hid hE
    have E0:=Lib.hid e0
    clear hE e0 hlt hk hp hkl hC hEE hg' hB
    go_wp2_with fail
    refine(CK.out _).mono ?_
    rintro e w1 ⟨rfl,hb⟩
    have HB1:=Lib.hid (HB.out.trans (hb.mono HB.out.size))
    have hV:=HV.out
    rw[←HE.out,if_pos E0.out] at hV
    subst hV
    clear hb c0 c1 c2 c3
    go_wp2_with fail
    go_ret
    exact⟨rfl,HB1.out⟩
  ·obtain rfl:k=n:=by omega
   have e1:l.take k=l:=List.take_of_length_le (by rw[HN.out];omega)
   have e2:l.drop k=[]:=List.drop_of_length_le (by rw[HN.out];omega)
   rw[e1,e2] at hE
   have h0:q09m kind [] l=0:=by rw[←hE];rfl
   have hV:=HV.out
   rw[if_neg (by simp[h0])] at hV
   have ck:∀p∈l,qr4y kind p=0:=fun p hp=>by
    obtain⟨j,hj⟩:=List.mem_iff_getElem?.1 hp
    exact hC j p (by have:=(List.getElem?_eq_some_iff.1 hj).1;rw[HN.out] at this;exact this) hj
   have BO:=Lib.hid (fun W (hb:Below w.heap.size w W)=>qp37 A k c l W (HL.out.below hb) HN.out HNN.out ck)
   have LO1:=Lib.hid (LO.out wr HB.out)
   cases hlo:qwyx l with
   | true=>
    rw[hlo] at LO1
    rw[hlo,if_pos rfl] at hV
    subst hV
    clear hE h0 ck hlo hC hB hlt hk e1 e2 BO
    go_wp2_with fail
    refine(LO1.out).mono ?_
    rintro e w1 ⟨rfl,hb⟩
    have HB1:=Lib.hid (HB.out.trans (hb.mono HB.out.size))
    clear hb
    go_wp2_with fail
    go_ret
    exact⟨rfl,HB1.out⟩
   | false=>
    rw[hlo] at LO1
    rw[hlo,if_neg (by decide)] at hV
    obtain⟨z,hz⟩:∃z,(bs (q636 l)).size=z:=⟨_,rfl⟩
    have hz2:(q636 l).length=z:=by rw[←hz,q5zk]
    rw[hz2] at hV
    have HVV:=Lib.hid hV
    have HZ:=Lib.hid hz
    clear hE h0 ck hlo hC hB hlt hk e1 e2 hV hz2
    generalize bs (q636 l)=x at *
    go_wp2_with fail
    refine(LO1.out).mono ?_
    rintro e w1 ⟨rfl,hb⟩
    have HB1:=Lib.hid (HB.out.trans (hb.mono HB.out.size))
    clear hb
    go_wp2_with fail
    refine(BO.out _ HB1.out).mono ?_
    rintro e w2 ⟨rfl,hb⟩
    have HB2:=Lib.hid (HB1.out.trans (hb.mono HB1.out.size))
    clear hb BO
    subst hz
    by_cases hb:268435455 < x.size
    ·have hV:=HVV.out
     rw[if_pos hb] at hV
     subst hV
     have q9:(268435455:Int) < (x.size:Int):=by omega
     clear hb
     go_wp2_with fail
     go_ret
     exact⟨rfl,HB2.out⟩
    ·have hV:=HVV.out
     rw[if_neg hb] at hV
     subst hV
     have q9:¬(268435455:Int) < (x.size:Int):=by omega
     clear hb
     go_wp2_with fail
     go_ret
     exact⟨rfl,HB2.out⟩
theorem q6fd(kind:Int)(A:Option Addr)(n c:Nat)(l:List Pr)(w:World)(hl:PL w A l)(hn:l.length=n)(hc:n≤c)(hcm:c≤9223372036854775807)(hN:n≤1010)(ht:∀p∈l,p.text.length≤200000) :
 Calls Tryz.prog 113 #[.int .i64 kind,.slice A n c] w fun e w'=>e = .returned (.tuple #[.string (bs (q5aq kind l).1),.int .i64 ((q5aq kind l).2:Nat)])∧Below w.heap.size w w':=by
 have VA:=qwwa kind A n c l w hl hn hc hcm hN ht
 by_cases hv:qpyu kind l=0
 ·obtain⟨v1,v2,v3,v4⟩:=qpfx hv
  have ck:∀p∈l,qr4y kind p=0:=((qrcn kind l).1 v2).1
  have BO:=Lib.hid (fun W (hb:Below w.heap.size w W)=>qp37 A n c l W (hl.below hb) hn hN ck)
  have RB:=Lib.hid (fun W=>qwha (q636 l).length W v4)
  rw[hv] at VA
  have VA:=Lib.hid VA
  have hb1:(q5aq kind l).1=vb (q636 l).length (sz (q636 l).length)++q636 l:=by unfold q5aq;rw[if_neg (by simp[hv])]
  have hb2:(q5aq kind l).2=0:=by unfold q5aq;rw[if_neg (by simp[hv])]
  have hsz:=qnl4 (q636 l).length v4
  have hs1:(bs (q636 l)).size=(q636 l).length:=q5zk _
  have n1:¬9223372036854775807 < (bs (vb (q636 l).length (sz (q636 l).length))).size+(bs (q636 l)).size:=by rw[q5zk,q5zk,q8sw];omega
  rw[hb1,hb2,←qyv7]
  rw[←hs1] at RB n1 ⊢
  generalize bs (vb ((bs (q636 l)).size:Nat) (sz ((bs (q636 l)).size:Nat)))=x2 at *
  generalize bs (q636 l)=x1 at *
  clear hl hn hc hcm hN ht hv v1 v2 v3 v4 ck hb1 hb2 hsz hs1
  go_enter Tryz.func113,Tryz.ntmps113
  go_wp2_with fail
  refine(VA.out).mono ?_
  rintro e w1 ⟨rfl,hb⟩
  have HB:=Lib.hid hb
  clear hb
  go_wp2_with fail
  refine(BO.out _ HB.out).mono ?_
  rintro e w2 ⟨rfl,hb⟩
  have HB:=Lib.hid (HB.out.trans (hb.mono HB.out.size))
  clear hb
  go_wp2_with fail
  refine(RB.out _).mono ?_
  rintro e w3 ⟨rfl,hb⟩
  have HB:=Lib.hid (HB.out.trans (hb.mono HB.out.size))
  clear hb
  go_wp2_with fail
  go_ret2
  exact⟨rfl,HB.out⟩
 ·have hb1:q5aq kind l=([],qpyu kind l):=by unfold q5aq;rw[if_pos hv]
  rw[hb1]
  generalize qpyu kind l=V at *
  have q1:(((V:Nat):Int) != 0)=true:=by rw[bne_iff_ne];omega
  have VA:=Lib.hid VA
  clear hl hn hc hcm hN ht hv hb1
  go_enter Tryz.func113,Tryz.ntmps113
  go_wp2_with fail
  refine(VA.out).mono ?_
  rintro e w1 ⟨rfl,hb⟩
  have HB:=Lib.hid hb
  clear hb
  go_wp2_with fail
  go_ret2
  exact⟨rfl,HB.out⟩
theorem qyet(v:Int)(w:World):Calls Tryz.prog 34 #[.int .i64 v] w fun e w'=>e = .returned (.bool (qulp v))∧w=w':=by
 unfold qulp
 by_cases h4:v=4
 ·subst h4
  go_enter Tryz.func34,Tryz.ntmps34
  go_wp2
  go_ret
  exact⟨rfl,rfl⟩
 ·have e4:(v==4)=false:=beq_eq_false_iff_ne.2 h4
  rw[e4]
  go_enter Tryz.func34,Tryz.ntmps34
  go_wp2
  go_ret
  exact⟨rfl,rfl⟩
structure FewP(w:World)(A:Option Addr)(n c:Nat)(l:List Pr):Prop where
 at':PL w A l
 len:l.length=n
 cap:n≤c
 capm:c≤9223372036854775807
 few:n≤1010
 small:∀p∈l,p.text.length≤200000
theorem FewP.below{w w':World}{A:Option Addr}{n c:Nat}{l:List Pr}(h:FewP w A n c l)(hb:Below w.heap.size w w'):FewP w' A n c l:=⟨h.at'.below hb,h.len,h.cap,h.capm,h.few,h.small⟩
theorem q8yx(v kind:Int)(A:Option Addr)(n c:Nat)(l:List Pr)(w:World)(h:FewP w A n c l)(hv:v=4∨v=5):Calls Tryz.prog 72 #[.int .i64 v,.int .i64 kind,.slice A n c] w fun e w'=>e = .returned (.string (bs (qasq v kind l)))∧Below w.heap.size w w':=by
 have B:=Lib.hid (q6fd kind A n c l w h.at' h.len h.cap h.capm h.few h.small)
 clear h
 rcases hv with rfl | rfl
 ·clear B
  have LO:=Lib.hid (Below.refl w.heap.size w)
  rw[show qasq 4 kind l=[] from rfl]
  go_enter Tryz.func72,Tryz.ntmps72
  go_wp2
  go_ret
  exact⟨rfl,LO.out⟩
 ·rw[show qasq 5 kind l=(q5aq kind l).1 from rfl]
  go_enter Tryz.func72,Tryz.ntmps72
  go_wp2_with fail
  refine(B.out).mono ?_
  rintro e W ⟨rfl,hb⟩
  go_wp2_with fail
  go_ret
  exact⟨rfl,hb⟩
theorem q0km(v kind:Int)(A:Option Addr)(n c:Nat)(l:List Pr)(w:World)(h:FewP w A n c l)(hv:v=4∨v=5)(h4:v=4→l=[]):Calls Tryz.prog 40 #[.int .i64 v,.int .i64 kind,.slice A n c] w fun e w'=>e = .returned (.int .i64 ((qfk9 v kind l:Nat):Int))∧Below w.heap.size w w':=by
 have B:=Lib.hid (qwwa kind A n c l w h.at' h.len h.cap h.capm h.few h.small)
 have hn:n=l.length:=h.len.symm
 clear h
 rcases hv with rfl | rfl
 ·rw[h4 rfl] at hn
  obtain rfl:n=0:=hn
  clear B h4
  have LO:=Lib.hid (Below.refl w.heap.size w)
  rw[show qfk9 4 kind l=0 from rfl]
  go_enter Tryz.func40,Tryz.ntmps40
  go_wp2
  go_ret
  exact⟨rfl,LO.out⟩
 ·rw[show qfk9 5 kind l=qpyu kind l from rfl]
  clear h4 hn
  go_enter Tryz.func40,Tryz.ntmps40
  go_wp2_with fail
  refine(B.out).mono ?_
  rintro e W ⟨rfl,hb⟩
  go_wp2_with fail
  go_ret
  exact⟨rfl,hb⟩
structure RkP(p:Pk)(a:Ad):Prop where
 few:p.props.length≤1010
 cap:p.props.length≤a.pc
 capm:a.pc≤9223372036854775807
 small:∀x∈p.props,x.text.length≤200000
theorem RkP.ps{p:Pk}{a:Ad}(h:RkP p a)(w:World)(hp:PkAt w p a):FewP w a.ps p.props.length a.pc p.props:=⟨hp.ps,rfl,h.cap,h.capm,h.few,h.small⟩
theorem qjaz(v k:Int)(w:World):Calls Tryz.prog 33 #[.int .i64 v,.int .i64 k] w fun e w'=>e = .returned (.bool (q6gd v k))∧w=w':=by
 unfold q6gd
 by_cases h1:k=12
 ·subst h1
  go_enter Tryz.func33,Tryz.ntmps33
  go_wp2
  go_ret
  exact⟨rfl,rfl⟩
 by_cases h2:k=13
 ·subst h2
  go_enter Tryz.func33,Tryz.ntmps33
  go_wp2
  go_ret
  exact⟨rfl,rfl⟩
 have e1:(k==12)=false:=beq_eq_false_iff_ne.2 h1
 have e2:(k==13)=false:=beq_eq_false_iff_ne.2 h2
 rw[e1,e2]
 by_cases h3:k=14
 ·subst h3
  go_enter Tryz.func33,Tryz.ntmps33
  go_wp2
  go_ret
  exact⟨rfl,rfl⟩
 have e3:(k==14)=false:=beq_eq_false_iff_ne.2 h3
 rw[e3]
 go_enter Tryz.func33,Tryz.ntmps33
 go_wp2
 go_ret
 exact⟨rfl,rfl⟩
def qfv6(v k:Int)(a:Ad):Ad:={adZ with ps:=if q6gd v k then none else a.ps,pc:=if q6gd v k then 0 else a.pc}
theorem qd03{w:World}{p:Pk}{a:Ad}(v:Int)(h:PkAt w p a):PkAt w (usedK v p) (qfv6 v p.kind a):=by
 refine⟨fun e=>absurd rfl e,fun e=>absurd rfl e,fun e=>absurd rfl e,?_⟩
 unfold usedK qfv6
 cases q6gd v p.kind with
 | true=>exact fun e=>absurd rfl e
 | false=>exact h.ps
theorem qqmg{p:Pk}(v:Int)(h:q21o p):q21o (usedK v p):=by
 refine⟨Nat.zero_le _,Nat.zero_le _,?_,Nat.zero_le _⟩
 unfold usedK
 cases q6gd v p.kind with
 | true=>exact Nat.zero_le _
 | false=>exact h.2.2.1
def us0K(p:Pk):Pk:={Pk.zero with kind:=p.kind}
structure KvS(w:World)(p:Pk)(a:Ad)(B:Nat)(x:Pk)(b:Ad)(W:World):Prop where
 low:Below w.heap.size w W
 box:W.heap[w.heap.size]? = some (.cells (pkC p a) 35 (0,0))
 new:W.heap[B]? = some (.cells (pkC x b) 35 (0,0))
 far:w.heap.size < B
section
variable{w W W':World}{p x:Pk}{a b:Ad}{B:Nat}
theorem KvS.cell(h:KvS w p a B x b W)(j:Nat):W.cell? ⟨w.heap.size,j,none⟩=(pkC p a)[j]? := cell_of_row _ _ j _ _ _ h.box
theorem KvS.ncell(h:KvS w p a B x b W)(j:Nat):W.cell? ⟨B,j,none⟩=(pkC x b)[j]? := cell_of_row _ _ j _ _ _ h.new
theorem KvS.fr(h:KvS w p a B x b W)(j:Nat):W.frozen? ⟨B,j,none⟩=false:=frozen_of_row _ _ _ _ _ h.new
theorem KvS.put(h:KvS w p a B x b W)(j:Nat)(u:Value){x':Pk}{b':Ad}(he:(pkC x b).setIfInBounds j u=pkC x' b'):KvS w p a B x' b' (W.setCell ⟨B,j,none⟩ u):=
 ⟨h.low.setCell (by have:=h.far;show _≤B;omega) u,(heap_setCell_other W ⟨B,j,none⟩ _ u (by have:=h.far;show w.heap.size≠B;omega)).trans h.box,by have:=qlvy h.new j u;rw[he] at this;exact this,h.far⟩
theorem KvS.call(h:KvS w p a B x b W)(hb:Below W.heap.size W W'):KvS w p a B x b W':=
 ⟨qxh2 h.low hb,(hb.block _ (lt_of_block h.box)).trans h.box,(hb.block _ (lt_of_block h.new)).trans h.new,h.far⟩
theorem KvS.drew(h:KvS w p a B x b W):KvS w p a B x b W.drew:=⟨h.low.drew,h.box,h.new,h.far⟩
end
theorem qvrn(v:Int)(p:Pk)(a:Ad)(w:World)(hp:PkAt w p a)(sp:q21o p)(fp:RkP p a):Calls Tryz.prog 17 #[.int .i64 v,.agg (pkC p a)] w fun e w'=>e = .returned (.int .i64 (validK v p:Nat))∧Below w.heap.size w w':=by
 have S0:=Lib.hid (BxS.made w p a)
 have C1:=Lib.hid (qwmp p a)
 have VE:=fun W=>qyet v W
 have PN:=fun W=>qjaz v p.kind W
 have MA:=fun W=>q6zo p.kind p.code W
 have SM:=fun W (h:PkAt W p a)=>qkl7 p (usedK v p) a (qfv6 v p.kind a) W h (qd03 v h) sp (qqmg v sp)
 unfold pkV at SM
 have RI:=fun(hv:v=4∨v=5) (h4:v=4→p.props=[]) W (h:PkAt W p a)=>q0km v p.kind a.ps p.props.length a.pc p.props W (fp.ps W h) hv h4
 have HP:=Lib.hid hp
 have HZ:=Lib.hid qbwp
 have hzv:=qrai
 have hne:¬pkZ=#[]:=by intro h;have:=qbwp;rw[h] at this;cases this
 obtain⟨D,hD⟩:∃D,pkC (us0K p) adZ=D:=⟨_,rfl⟩
 have hD1:D.size=25:=by rw[←hD];exact qwmp _ _
 have hD2:D.all (·.oneCell')=true:=by rw[←hD];exact qmz0 _ _
 have HD:=Lib.hid hD
 have HD1:=Lib.hid hD1
 have HD2:=Lib.hid hD2
 obtain⟨R,hR⟩:∃R,validK v p=R:=⟨_,rfl⟩
 rw[hR]
 have HR:=Lib.hid hR
 obtain⟨b1,hb1⟩:∃b,(qulp v&&q5t0 p.kind)=b:=⟨_,rfl⟩
 have HB1:=Lib.hid hb1
 have RI:=Lib.hid RI
 have SM:=Lib.hid SM
 have MA:=Lib.hid MA
 have PN:=Lib.hid PN
 clear hp sp fp hD hD1 hD2 hR hb1
 go_enter Tryz.func17,Tryz.ntmps17
 go_upto_region 1 with fail
 go_cut [6] (fun s6 wx=>s6 = .bool (!b1)∧BxS w p a wx)
 case first=>
  have k0:(w.alloc (.cells (pkC p a) 35)).cell? ⟨w.heap.size,0,none⟩=some (.int .i64 p.kind):=S0.out.cell 0
  have hb:=HB1.out
  unfold q5t0 at hb
  clear HB1 HR RI SM MA PN
  generalize p.kind=k at *
  cases hv:qulp v with
  | false=>
   rw[hv,Bool.false_and] at hb
   rw[hv] at VE
   subst hb
   replace VE:=Lib.hid VE
   clear hv
   go_wp2_with fail
   refine(VE.out _).mono ?_
   rintro e W ⟨rfl,rfl⟩
   go_wp2_with fail
   go_meet
   exact⟨rfl,S0.out⟩
  | true=>
   rw[hv,Bool.true_and] at hb
   rw[hv] at VE
   replace VE:=Lib.hid VE
   clear hv
   by_cases h4:12≤k
   ·have g1:decide (k < 12)=false:=decide_eq_false (by omega)
    rw[decide_eq_true h4,Bool.true_and] at hb
    have HT:=Lib.hid (show decide (15 < k)=!b1 by
     rw[←hb,←decide_not,decide_eq_decide]
     omega)
    clear hb h4
    go_wp2_with fail
    refine(VE.out _).mono ?_
    rintro e W ⟨rfl,rfl⟩
    go_wp2_with fail
    go_meet
    exact⟨congrArg Value.bool HT.out,S0.out⟩
   ·have g1:decide (k < 12)=true:=decide_eq_true (by omega)
    rw[decide_eq_false h4,Bool.false_and] at hb
    subst hb
    clear h4
    go_wp2_with fail
    refine(VE.out _).mono ?_
    rintro e W ⟨rfl,rfl⟩
    go_wp2_with fail
    go_meet
    exact⟨rfl,S0.out⟩
 case rest=>
  obtain⟨rfl,hS⟩:=hcut
  have S1:=Lib.hid hS
  clear hS S0 VE
  cases b1 with
  | false=>
   have hr:2=R:=by rw[←HR.out,validK,if_pos HB1.out]
   subst hr
   clear HR HB1 RI SM MA PN
   go_wp2_with fail
   go_ret
   exact⟨rfl,S1.out.low⟩
  | true=>
   have hv45:v=4∨v=5:=by
    have:=HB1.out
    simp only[Bool.and_eq_true,qulp,Bool.or_eq_true,beq_iff_eq] at this
    exact this.1
   have HX:=HR.out
   rw[validK,if_neg (by rw[HB1.out];decide)] at HX
   have k0:wc.cell? ⟨w.heap.size,0,none⟩=some (.int .i64 p.kind):=S1.out.cell 0
   by_cases h15:p.kind=15∧v=4
   ·rw[if_pos h15] at HX
    subst HX
    obtain⟨h15,rfl⟩:=h15
    rw[h15] at k0
    clear HR HB1 RI SM MA PN hv45 h15
    go_wp2_with fail
    go_ret
    exact⟨rfl,S1.out.low⟩
   ·rw[if_neg h15] at HX
    have HX:=Lib.hid HX
    have hk:12≤p.kind∧p.kind≤15:=by
     have:=HB1.out
     simp only[Bool.and_eq_true,q5t0,decide_eq_true_eq] at this
     exact this.2
    have HV:=Lib.hid (And.intro hv45 h15)
    have HK:=Lib.hid hk
    have RJ:=Lib.hid (fun h4=>RI.out hv45 h4)
    clear hk
    clear HR HB1 RI
    go_upto_region 3 with fail
    go_cut [20] (fun s20 wx=>s20 = .bool false∧BxS w p a wx)
    case first=>
     clear RJ SM MA PN HX
     by_cases h5:p.kind=15
     ·rw[h5] at k0
      obtain rfl:v=5:=by
       have:=HV.out
       rcases this.1 with h | h
       ·exact absurd ⟨h5,h⟩ this.2
       ·exact h
      clear HV h5 h15 hv45
      go_wp2_with fail
      go_meet
      exact⟨rfl,S1.out⟩
     ·have e1:(p.kind==15)=false:=beq_eq_false_iff_ne.2 h5
      clear HV h5 h15 hv45
      generalize p.kind=k at *
      go_wp2_with fail
      go_meet
      exact⟨rfl,S1.out⟩
    case rest=>
     obtain⟨rfl,hS⟩:=hcut
     clear h15 hv45 k0 S1
     have S1:=Lib.hid hS
     have k0:wc.cell? ⟨w.heap.size,0,none⟩=some (.int .i64 p.kind):=hS.cell 0
     have bx:Below wc.heap.size wc ((wc.alloc (.cells pkZ 35)).setRow wc.heap.size D):=q8xz (qybm _) (Nat.le_refl _) _
     have GN:=Lib.hid (heap_alloc_new wc (.cells pkZ 35))
     have S3:KvS w p a wc.heap.size (us0K p) adZ ((wc.alloc (.cells pkZ 35)).setRow wc.heap.size D):=⟨qxh2 S1.out.low bx,(bx.block _ (lt_of_block S1.out.box)).trans S1.out.box,by rw[HD.out];exact setRow_heap _ _ _ D _ _ GN.out,lt_of_block S1.out.box⟩
     have S3:=Lib.hid S3
     clear bx hS S1
     go_upto_region 6 with (first
      | (refine wpList_buildTo rfl 35 _ rfl (some _) rfl D (by rw[←HD.out];kernel_rfl) ?_)
      | (refine wpList_store_row rfl _ _ _ rfl wc.heap.size D rfl rfl 35 _ GN.out (by rw[HD1.out];exact q5nr) (by rw[HZ.out,HD1.out]) HD2.out ?_))
     clear k0 GN hzv hne
     generalize (wc.alloc (.cells pkZ 35)).setRow wc.heap.size D=W3 at *
     generalize wc.heap.size=B at *
     clear HZ HD HD1 HD2
     dsimp only[Act.put]
     obtain⟨U,hU⟩:∃U,usedK v p=U:=⟨_,rfl⟩
     obtain⟨UA,hUA⟩:∃U,qfv6 v p.kind a=U:=⟨_,rfl⟩
     obtain⟨pl,hpl⟩:∃b,q6gd v p.kind=b:=⟨_,rfl⟩
     have UP:decide (p=U)=true→v=4→p.props=[]:=fun e h4=>by
      have e:=of_decide_eq_true e
      subst h4
      rw[←hU,usedK,q4yt HK.out (fun e=>HV.out.2 ⟨e,rfl⟩)] at e
      rw[e]
      rfl
     have UE:(pl=true→U=us0K p∧UA=adZ)∧(pl=false→U={us0K p with code:=p.code,props:=p.props}∧UA={adZ with ps:=a.ps,pc:=a.pc}):=by
      rw[←hU,←hUA,←hpl]
      unfold usedK qfv6 us0K
      cases q6gd v p.kind with
      | true=>exact⟨fun _=>⟨rfl,rfl⟩,fun e=>(nomatch e)⟩
      | false=>exact⟨fun e=>(nomatch e),fun _=>⟨rfl,rfl⟩⟩
     have HC:=HX.out
     have PN:=PN.out
     have SM:=SM.out
     have MA:=MA.out
     rw[hU,hpl] at HC
     rw[hpl] at PN
     rw[hU,hUA] at SM
     obtain⟨s,hs⟩:∃s,decide (p=U)=s:=⟨_,rfl⟩
     rw[hs] at SM HC UP
     obtain⟨m,hm⟩:∃m,mayR p.kind p.code=m:=⟨_,rfl⟩
     rw[hm] at MA HC
     have HC:=Lib.hid HC
     have PN:=Lib.hid PN
     have SM:=Lib.hid SM
     have MA:=Lib.hid MA
     have UP:=Lib.hid UP
     have UE:=Lib.hid UE
     clear HX hU hUA hpl hs hm
     have k0:W3.cell? ⟨w.heap.size,0,none⟩=some (.int .i64 p.kind):=S3.out.cell 0
     go_wp2_with fail
     refine(PN.out _).mono ?_
     rintro e W ⟨rfl,rfl⟩
     clear k0
     go_upto_if 35 with fail
     go_cut [] (fun wx=>KvS w p a B U UA wx)
     case first=>
      clear RJ SM MA UP HC PN
      cases pl with
      | true=>
       have S4:=Lib.hid (show KvS w p a B U UA W3 by
        rw[(UE.out.1 rfl).1,(UE.out.1 rfl).2];exact S3.out)
       clear S3 UE
       go_wp2_with fail
       go_meet
       exact S4.out
      | false=>
       have S4:=(S3.out.put 21 (.int .i64 p.code) (x':={us0K p with code:=p.code}) (b':=adZ) rfl).put 24 (.slice a.ps p.props.length a.pc) (x':={us0K p with code:=p.code,props:=p.props}) (b':={adZ with ps:=a.ps,pc:=a.pc}) rfl
       rw[←(UE.out.2 rfl).1,←(UE.out.2 rfl).2] at S4
       have S4:=Lib.hid S4
       have k21:W3.cell? ⟨w.heap.size,21,none⟩=some (.int .i64 p.code):=S3.out.cell 21
       have k24:W3.cell? ⟨w.heap.size,24,none⟩=some (.slice a.ps p.props.length a.pc):=S3.out.cell 24
       have n21:W3.cell? ⟨B,21,none⟩=some (.int .i64 0):=S3.out.ncell 21
       have n24:W3.cell? ⟨B,24,none⟩=some (.slice none 0 0):=S3.out.ncell 24
       have f21:=S3.out.fr 21
       have f24:=S3.out.fr 24
       have hne:w.heap.size≠B:=by have:=S3.out.far;omega
       clear S3 UE
       go_upto_region 7 with fail
       go_region
       go_wp2_with fail
       go_meet
       exact S4.out.drew
     case rest=>
      have S5:=Lib.hid hcut
      clear hcut S3 UE
      go_upto_region 8 with fail
      go_cut [60] (fun s60 wx=>s60 = .bool (!s || (!pl&&!m))∧KvS w p a B U UA wx)
      case first=>
       have C2:=Lib.hid (qwmp U UA)
       have GP:=Lib.hid S5.out.box
       have GU:=Lib.hid S5.out.new
       clear RJ UP HC
       go_wp2_with (first
        | (refine wpList_load_row rfl _ _ rfl w.heap.size rfl 35 _ (0,0) _ GP.out Tryz.underlying35 rfl (by rw[C1.out];exact q5nr) ?_)
        | (refine wpList_load_row rfl _ _ rfl B rfl 35 _ (0,0) _ GU.out Tryz.underlying35 rfl (by rw[C2.out];exact q5nr) ?_))
       refine(SM.out _ (HP.out.below S5.out.low)).mono ?_
       rintro e W ⟨rfl,hb⟩
       have S6:=Lib.hid (S5.out.call hb)
       have k0:W.cell? ⟨w.heap.size,0,none⟩=some (.int .i64 p.kind):=S6.out.cell 0
       have k21:W.cell? ⟨w.heap.size,21,none⟩=some (.int .i64 p.code):=S6.out.cell 21
       clear hb S5 GP GU SM
       cases s with
       | false=>
        go_wp2_with fail
        go_meet
        exact⟨rfl,S6.out⟩
       | true=>
        go_wp2_with fail
        refine(PN.out _).mono ?_
        rintro e W2 ⟨rfl,rfl⟩
        cases pl with
        | true=>
         go_wp2_with fail
         go_meet
         exact⟨rfl,S6.out⟩
        | false=>
         go_wp2_with fail
         refine(MA.out _).mono ?_
         rintro e W2 ⟨rfl,hb⟩
         have S7:=Lib.hid (S6.out.call hb)
         clear hb
         go_wp2_with fail
         go_meet
         exact⟨rfl,S7.out⟩
      case rest=>
       obtain⟨rfl,hS⟩:=hcut
       have S6:=Lib.hid hS
       clear hS S5 SM MA PN
       have hc:=HC.out
       by_cases hx:(!s || (!pl&&!m))=true
       ·rw[hx]
        rw[if_pos (by cases s<;>cases pl<;>cases m<;>first | rfl | cases hx)] at hc
        subst hc
        clear hx HC UP RJ
        go_wp2_with fail
        go_ret
        exact⟨rfl,S6.out.low⟩
       ·rw[Bool.eq_false_iff.2 hx]
        rw[if_neg (by cases s<;>cases pl<;>cases m<;>first | decide | exact absurd rfl hx)] at hc
        have hs:s=true:=by cases s<;>first | rfl | exact absurd rfl hx
        have RX:=RJ.out (UP.out hs) _ (HP.out.below S6.out.low)
        rw[hc] at RX
        have RX:=Lib.hid RX
        have k0:wc.cell? ⟨w.heap.size,0,none⟩=some (.int .i64 p.kind):=S6.out.cell 0
        have k24:wc.cell? ⟨w.heap.size,24,none⟩=some (.slice a.ps p.props.length a.pc):=S6.out.cell 24
        clear hx hs hc HC UP RJ
        go_wp2_with fail
        refine(RX.out).mono ?_
        rintro e W ⟨rfl,hb⟩
        have LO:=Lib.hid (S6.out.call hb).low
        clear hb
        go_wp2_with fail
        go_ret
        exact⟨rfl,LO.out⟩
theorem qo8d(v kind:Int)(c:Nat)(A:Option Addr)(n cp:Nat)(l:List Pr)(w:World)(hv:v=4∨v=5)(hc:c < 256)(h:FewP w A n cp l)(hr:(q5aq kind l).1.length≤300000010) :
 Calls Tryz.prog 42 #[.int .i64 v,.int .i64 kind,.int .i64 c,.slice A n cp] w fun e w'=>e = .returned (.string (bs (qzno v kind c l)))∧Below w.heap.size w w':=by
 have hl:l.length=n:=h.len
 have TL:=fun W (hb:Below w.heap.size w W)=>q8yx v kind A n cp l W (h.below hb) hv
 unfold qzno
 rcases hv with rfl | rfl
 ·rw[if_neg (by simp)]
  clear TL h hl hr hc
  go_enter Tryz.func42,Tryz.ntmps42
  go_wp2_with fail
  go_ret
  exact⟨rfl,Below.refl _ _⟩
 ·rw[show qasq 5 kind l=(q5aq kind l).1 from if_pos rfl] at TL
  generalize (q5aq kind l).1=T at *
  have CV:(convert 97 9 (.slice (some ⟨w.heap.size,0,none⟩) 1 1)).run Tryz.prog (w.alloc (.cells #[.int .u8 ((UInt8.ofNat c).toNat:Int)] 5)) = .ok (.string (bs [UInt8.ofNat c])) (w.alloc (.cells #[.int .u8 ((UInt8.ofNat c).toNat:Int)] 5)):=
   q3j9 (base:=w.heap.size) [UInt8.ofNat c] ⟨rfl,.inr ⟨_,1,_,rfl,Nat.le_refl _,heap_alloc_new w _,Nat.le_refl _,by decide,rfl,rfl⟩⟩
  have hm:(UInt8.ofNat c).toNat=c:=by rw[UInt8.toNat_ofNat'];omega
  rw[hm] at CV
  have hc2:(c:Int) < 256:=by omega
  have LB:=Lib.hid (qybm (w:=w) (.cells #[.int .u8 ((c:Nat):Int)] 5))
  have e1:bs [UInt8.ofNat c]++bs T=bs (UInt8.ofNat c::T):=qyv7 _ _
  have t1:¬9223372036854775807 < (bs [UInt8.ofNat c]).size+(bs T).size:=by rw[q5zk,q5zk,List.length_singleton];omega
  have ht:((c:Nat):Int).toNat=c:=by omega
  have hcc:((c:Nat):Int)≠0↔c≠0:=by omega
  by_cases hl0:l=[]
  ·have hn:n=0:=by rw[←hl,hl0];rfl
   by_cases h0:c=0
   ·rw[if_neg (by simp[h0,hl0])]
    subst h0
    subst hn
    clear TL h hl hr CV e1 t1 hl0 LB hm hc2 ht hcc
    go_enter Tryz.func42,Tryz.ntmps42
    go_wp2_with fail
    go_ret
    exact⟨rfl,Below.refl _ _⟩
   ·rw[if_pos ⟨rfl,.inl (by omega)⟩,if_neg (by simpa using hl0),ht]
    have q1:((c:Int)==0)=false:=by simp;omega
    have q2:((c:Int) != 0)=true:=by simp;omega
    subst hn
    clear TL h hl hr e1 t1 hl0 hc h0 hm ht hcc
    generalize bs [UInt8.ofNat c]=X at *
    go_enter Tryz.func42,Tryz.ntmps42
    go_wp2_with fail
    go_ret
    exact⟨rfl,LB.out⟩
  ·have hn:0 < n:=by rw[←hl];exact List.length_pos_iff.2 hl0
   rw[if_pos ⟨rfl,.inr hl0⟩,if_pos hl0,ht]
   have TL1:=Lib.hid (TL _ LB.out)
   have q1:((c:Int)==0)=true∨((c:Int)==0)=false:=by cases ((c:Int)==0)<;>simp
   have E1:=Lib.hid (And.intro e1 t1)
   clear TL h hl hr e1 t1 hl0 hc hm ht hcc
   generalize bs [UInt8.ofNat c]=X at *
   generalize bs (UInt8.ofNat c::T)=Z at *
   generalize bs T=Y at *
   rcases q1 with q1 | q1
   all_goals
    have q2:((c:Int) != 0)=!((c:Int)==0):=rfl
    rw[q1] at q2
    have Q2:=Lib.hid q2
    clear q2
    have q2:=Q2.out
    go_enter Tryz.func42,Tryz.ntmps42
    go_wp2_with fail
    refine(TL1.out).mono ?_
    rintro e W ⟨rfl,hb⟩
    have L2:=Lib.hid (LB.out.trans (hb.mono LB.out.size))
    have e1:=E1.out.1
    have t1:=E1.out.2
    clear hb
    go_wp2_with fail
    go_ret
    exact⟨rfl,L2.out⟩
theorem q6ug(code kind:Int)(A:Option Addr)(n c:Nat)(l:List Pr)(w:World)(h:FewP w A n c l) :
 Calls Tryz.prog 18 #[.int .i64 code,.slice A n c,.int .i64 kind] w fun e w'=>e = .returned (.string (bs (q4py code l kind)))∧Below w.heap.size w w':=by
 have VA:=fun W (hb:Below w.heap.size w W)=>qwwa kind A n c l W (h.below hb).at' h.len h.cap h.capm h.few h.small
 have LO:=Lib.hid (Below.refl w.heap.size w)
 unfold q4py
 by_cases h0:code < 0
 ·rw[if_pos (.inl h0)]
  have g1:decide (code < 0)=true:=decide_eq_true h0
  clear h0 h VA
  go_enter Tryz.func18,Tryz.ntmps18
  go_wp2_with fail
  go_ret
  exact⟨rfl,LO.out⟩
 have g1:decide (code < 0)=false:=decide_eq_false h0
 by_cases h1:255 < code
 ·rw[if_pos (.inr (.inl h1))]
  have g2:decide (255 < code)=true:=decide_eq_true h1
  clear h0 h1 h VA
  go_enter Tryz.func18,Tryz.ntmps18
  go_wp2_with fail
  go_ret
  exact⟨rfl,LO.out⟩
 have g2:decide (255 < code)=false:=decide_eq_false h1
 by_cases hv:qpyu kind l=0
 ·obtain⟨m,hm⟩:∃m:Nat,code=m:=⟨code.toNat,by omega⟩
  rw[if_neg (by
   rintro(e | e | e)
   ·exact h0 e
   ·exact h1 e
   ·exact e hv)]
  have lt:=qp2i (v:=5) (kind:=kind) (l:=l) (by unfold qfk9;rw[if_pos rfl];exact hv)
  rw[qasq,if_pos rfl] at lt
  subst hm
  have SH:=fun W (hb:Below w.heap.size w W)=>qo8d 5 kind m A n c l W (.inr rfl) (by omega) (h.below hb) (by omega)
  rw[hv] at VA
  replace VA:=Lib.hid VA
  replace SH:=Lib.hid SH
  generalize qzno 5 kind (m:Int) l=X at *
  clear h0 h1 h hv lt
  go_enter Tryz.func18,Tryz.ntmps18
  go_wp2_with fail
  refine(VA.out _ LO.out).mono ?_
  rintro e W ⟨rfl,hb⟩
  have L1:=Lib.hid (qxh2 LO.out hb)
  clear hb
  go_wp2_with fail
  refine(SH.out _ L1.out).mono ?_
  rintro e W2 ⟨rfl,hb⟩
  have L2:=Lib.hid (qxh2 L1.out hb)
  clear hb
  go_wp2_with fail
  go_ret
  exact⟨rfl,L2.out⟩
 ·rw[if_pos (.inr (.inr hv))]
  generalize qpyu kind l=f at *
  have q1:((f:Int)==0)=false:=by simp;omega
  have q2:((f:Int) != 0)=true:=by simp;omega
  replace VA:=Lib.hid VA
  clear h0 h1 h hv
  go_enter Tryz.func18,Tryz.ntmps18
  go_wp2_with fail
  refine(VA.out _ LO.out).mono ?_
  rintro e W ⟨rfl,hb⟩
  have L1:=Lib.hid (qxh2 LO.out hb)
  clear hb
  go_wp2_with fail
  go_ret
  exact⟨rfl,L1.out⟩
theorem qxku(v:Int)(p:Pk)(a:Ad)(w:World)(hp:PkAt w p a)(sp:q21o p)(fp:RkP p a) :
 Calls Tryz.prog 15 #[.int .i64 v,.agg (pkC p a)] w fun e w'=>e = .returned (.tuple #[.string (bs (q2jl v p).1),.int .i64 ((q2jl v p).2:Nat)])∧Below w.heap.size w w':=by
 have S0:=Lib.hid (BxS.made w p a)
 have C1:=Lib.hid (qwmp p a)
 have VA:=fun W (h:BxS w p a W)=>(qvrn v p a W (hp.below h.low) sp fp).mono fun e W' hh=>(⟨hh.1,h.call hh.2⟩:_∧BxS w p a W')
 have TA:=Lib.hid (fun W (h:BxS w p a W)=>(q6ug p.code p.kind a.ps p.props.length a.pc p.props W (fp.ps W (hp.below h.low))).mono fun e W' hh=>(⟨hh.1,h.call hh.2⟩:_∧BxS w p a W'))
 have PN:=fun W=>qjaz v p.kind W
 unfold q2jl rawK
 by_cases hv:validK v p=0
 ·rw[if_neg (by simpa using hv)]
  rw[hv] at VA
  replace VA:=Lib.hid VA
  obtain⟨pl,hpl⟩:∃b,q6gd v p.kind=b:=⟨_,rfl⟩
  rw[hpl] at PN ⊢
  replace PN:=Lib.hid PN
  generalize q4py p.code p.props p.kind=X at *
  obtain⟨Z,hZ⟩:∃Z,(if pl=true then [] else X)=Z:=⟨_,rfl⟩
  rw[hZ]
  clear hp sp fp hv hpl
  go_enter Tryz.func15,Tryz.ntmps15
  go_wp2_with (refine wpList_load_row rfl _ _ rfl w.heap.size rfl 35 _ (0,0) _ S0.out.box Tryz.underlying35 rfl (by rw[C1.out];exact q5nr) ?_)
  refine(VA.out _ S0.out).mono ?_
  rintro e W ⟨rfl,hb⟩
  have S1:=Lib.hid hb
  have k0:W.cell? ⟨w.heap.size,0,none⟩=some (.int .i64 p.kind):=hb.cell 0
  have k21:W.cell? ⟨w.heap.size,21,none⟩=some (.int .i64 p.code):=hb.cell 21
  have k24:W.cell? ⟨w.heap.size,24,none⟩=some (.slice a.ps p.props.length a.pc):=hb.cell 24
  clear hb S0 VA
  cases pl with
  | true=>
   clear TA k21 k24
   rw[if_pos rfl] at hZ
   subst hZ
   go_wp2_with fail
   refine(PN.out _).mono ?_
   rintro e W2 ⟨rfl,rfl⟩
   go_wp2_with fail
   go_ret2
   exact⟨rfl,S1.out.low⟩
  | false=>
   rw[if_neg (by decide)] at hZ
   subst hZ
   go_wp2_with fail
   refine(PN.out _).mono ?_
   rintro e W2 ⟨rfl,rfl⟩
   go_wp2_with fail
   refine(TA.out _ S1.out).mono ?_
   rintro e W2 ⟨rfl,hb⟩
   have LO:=Lib.hid hb.low
   clear hb
   go_wp2_with fail
   go_ret2
   exact⟨rfl,LO.out⟩
 ·rw[if_pos hv]
  generalize validK v p=R at *
  have hr1:((R:Int)==0)=false:=by simp;omega
  have hr2:((R:Int) != 0)=true:=by simp;omega
  replace VA:=Lib.hid VA
  clear hv hp sp fp TA PN
  go_enter Tryz.func15,Tryz.ntmps15
  go_wp2_with (refine wpList_load_row rfl _ _ rfl w.heap.size rfl 35 _ (0,0) _ S0.out.box Tryz.underlying35 rfl (by rw[C1.out];exact q5nr) ?_)
  refine(VA.out _ S0.out).mono ?_
  rintro e W ⟨rfl,hb⟩
  have LO:=Lib.hid hb.low
  clear hb
  go_wp2_with fail
  go_ret2
  exact⟨rfl,LO.out⟩
end Go.Proofs.YtbklidpadffpgaaGreat
