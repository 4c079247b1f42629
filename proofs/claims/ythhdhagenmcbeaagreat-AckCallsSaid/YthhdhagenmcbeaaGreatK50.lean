/- What Get tells. No condition. -/
import Derived.Laws.ResultCell
import Derived.Laws.CopyOwn
import Derived.Deep.LoopGhost
import Derived.Deep.RegionHeld3
import Derived.Deep.DeepCutAuto
import Derived.Great.BuildSlice
import Derived.Test.YthhdhagenmcbeaaGreatK40
import Derived.Test.YthhdhagenmcbeaaGreatK28
import Derived.Test.YthhdhagenmcbeaaGreatK09
import Derived.Test.YthhdhagenmcbeaaGreatK49
import Derived.Test.YthhdhagenmcbeaaGreatK36
import Derived.Test.YthhdhagenmcbeaaGreatK11
import Derived.Test.YthhdhagenmcbeaaGreatK21
import Derived.Test.YthhdhagenmcbeaaGreatK10
import Derived.Test.YthhdhagenmcbeaaGreatK17
import Derived.Test.YthhdhagenmcbeaaGreatK22
import Derived.Test.YthhdhagenmcbeaaGreatK30
import Derived.Test.YthhdhagenmcbeaaGreatK26
import Derived.Test.YthhdhagenmcbeaaGreatK23
set_option maxHeartbeats 2000000
set_option maxRecDepth 100000
namespace Go.Proofs.YthhdhagenmcbeaaGreat
open Go.RowKit
def getP(l:List Pr)(id:Int):Pr×Bool:=match l.find? fun p=>p.id==id with
 | some p=>(p,true)
 | none=>(⟨0,0,[],[]⟩,false)
theorem qihu(id:Int):getP [] id=(⟨0,0,[],[]⟩,false):=rfl
theorem q2to(p:Pr)(l:List Pr)(id:Int):getP (p::l) id=if p.id=id then(p,true) else getP l id:=by
 unfold getP
 rw[List.find?_cons]
 by_cases h:p.id=id
 ·have:(p.id==id)=true:=by simpa using h
  rw[this,if_pos h]
 ·have:(p.id==id)=false:=by simpa using h
  rw[this,if_neg h]
theorem qxal(l:List Pr)(id:Int):(getP l id).2=hasP l id:=by
 induction l with
 | nil=>rfl
 | cons p l ih=>
  rw[q2to]
  unfold hasP at ih ⊢
  rw[List.any_cons]
  by_cases h:p.id=id
  ·rw[if_pos h];simp[h]
  ·rw[if_neg h,ih];simp[h]
theorem qi36:(Tryz.prog.info? 25).map (·.size)=some 4:=by kernel_rfl
theorem qbgf{fn:Func}{R:Ending→World→Prop}{a:Act}{W:World}{p u:Tmp}{B:Nat}{cs:Array Value}{v:Value}(h:fn.results=#[.cell p 25,.tmp u])(hp:a.tmps.getD p undef = .pointer (some ⟨B,0,none⟩))(hu:a.tmps.getD u undef=v)(hd:a.defers=[])(hcs:cs.size=4)
 (hg:W.heap[B]? = some (.cells cs 25 (0,0))) (hR:R (.returned (.tuple #[.agg cs,v])) W):bodyPost Tryz.prog fn R .ret a W:=by
 refine bodyPost_ret (v := .tuple #[.agg cs,v]) ?_ hd hR
 rw[results_cell_tmp h,hp,hu]
 have:=run_loadVar_row (P:=Tryz.prog) W B 25 25 cs (0,0) _ hg Tryz.underlying25 rfl (by rw[hcs];kernel_rfl)
 simp[asAddr,this,Result.andThen]
theorem qfah(A:Option Addr)(n c:Nat)(l:List Pr)(id:Int)(w:World)(hl:PL w A l)(hn:l.length=n)(hN:n≤70000) :
 Calls Tryz.prog 124 #[.slice A n c,.int .i64 id] w fun e w'=>e = .returned (.tuple #[qbhk (getP l id).1,.bool (getP l id).2])∧Below w.heap.size w w':=by
 have HL:=Lib.hid hl
 have HN:=Lib.hid hn
 have hN2:(n:Int)≤70000:=by omega
 obtain⟨R,hR⟩:∃R,getP l id=R:=⟨_,rfl⟩
 rw[hR]
 have HR:=Lib.hid hR
 have B0:=Lib.hid (show Below w.heap.size w (w.alloc (.cells #[.int .i64 0,.int .u32 0,.string ⟨#[]⟩,.string ⟨#[]⟩] 25)) from(Below.refl _ _).alloc (Nat.le_refl _) _)
 have Z0:=Lib.hid (heap_alloc_new w (.cells #[.int .i64 0,.int .u32 0,.string ⟨#[]⟩,.string ⟨#[]⟩] 25))
 clear hl hn hN hR
 go_enter Tryz.func124,Tryz.ntmps124
 go_wp2_with fail
 go_loopg [6] n (fun gk s10 wx=>∃k:Nat,k≤n∧gk=n - k∧s10 = .int .i64 (k:Int)∧getP (l.drop k) id=R∧Below w.heap.size w wx∧wx.heap[w.heap.size]? = some (.cells #[.int .i64 0,.int .u32 0,.string ⟨#[]⟩,.string ⟨#[]⟩] 25 (0,0)))
 case atStart=>exact⟨0,by omega,by omega,rfl,HR.out,B0.out,Z0.out⟩
 case round=>
  obtain⟨k,hk,hgk,rfl,hE,hB,hZ⟩:=hrel
  by_cases hlt:k < n
  ·have hkl:k < l.length:=by rw[HN.out];exact hlt
   obtain⟨p,hp⟩:∃p,l[k]? = some p:=⟨_,List.getElem?_eq_getElem hkl⟩
   obtain⟨g,i,e',hg',c0,c1,c2,c3⟩:=(HL.out.below hB).at hp
   subst e'
   have g1:(k:Int) < (n:Int):=by omega
   have hdr:l.drop k=p::l.drop (k+1):=by
    rw[List.drop_eq_getElem_cons hkl];congr 1
    rw[List.getElem?_eq_getElem hkl] at hp;exact Option.some.inj hp
   rw[hdr,q2to] at hE
   have hzl:=lt_of_block hZ
   have HB:=Lib.hid hB
   have HZ:=Lib.hid hZ
   by_cases hq:p.id=id
   ·rw[if_pos hq] at hE
    have q1:(p.id==id)=true:=by simpa using hq
    subst hE
    clear hq hB hdr hp hkl
    go_wp2_with (refine wpList_store_row rfl _ _ _ rfl w.heap.size _ rfl rfl 25 _ hZ qi36 rfl (by simp[Value.oneCell']) ?_)
    (try simp only[Exit.inBlock,Exit.then])
    refine qbgf rfl rfl rfl rfl ?_ (setRow_heap _ _ _ _ _ _ HZ.out) ?_
    ·rfl
    ·exact⟨rfl,q6i6 HB.out (Nat.le_refl _) _⟩
   ·rw[if_neg hq] at hE
    have HE:=Lib.hid hE
    have q1:(p.id==id)=false:=by simpa using hq
    clear hE hq hB hZ hdr hp hkl
    go_wp2_with fail
    go_roundg (n - (k+1))
    case measure=>omega
    case rel=>exact⟨k+1,by omega,rfl,by go_num,HE.out,HB.out,HZ.out⟩
  ·obtain rfl:k=n:=by omega
   have hd1:l.drop k=[]:=List.drop_of_length_le (by rw[HN.out];omega)
   rw[hd1,qihu] at hE
   have HZ:=Lib.hid hZ
   have HB:=Lib.hid hB
   subst hE
   clear hB hd1
   go_wp2_with (refine wpList_store_row rfl _ _ _ rfl w.heap.size _ rfl rfl 25 _ hZ qi36 rfl (by simp[Value.oneCell']) ?_)
   (try simp only[Exit.inBlock,Exit.then])
   refine qbgf rfl rfl rfl rfl ?_ (setRow_heap _ _ _ _ _ _ HZ.out) ?_
   ·rfl
   ·exact⟨rfl,q6i6 HB.out (Nat.le_refl _) _⟩
theorem qdfs(kind:Int)(A:Option Addr)(n c:Nat)(l:List Pr)(id:Int)(w:World)(hl:PL w A l)(hn:l.length=n)(hN:n≤70000) :
 Calls Tryz.prog 102 #[.int .i64 kind,.slice A n c,.int .i64 id] w fun e w'=>e = .returned (.bool (qxv1 kind l id))∧Below w.heap.size w w':=by
 have GT:=qfah A n c l id w hl hn hN
 rw[qxal] at GT
 have MN:=q30m kind id
 unfold qxv1
 generalize (getP l id).1=q at *
 generalize hasP l id=b at *
 generalize quux kind id=m at *
 have GT:=Lib.hid GT
 have MN:=Lib.hid MN
 clear hl hn hN
 cases b<;>cases m<;>
 ·go_enter Tryz.func102,Tryz.ntmps102
  go_wp2_with fail
  refine(GT.out).mono ?_
  rintro e w1 ⟨rfl,hb⟩
  have HB:=Lib.hid (hb.alloc hb.size (.cells #[.int .i64 q.id,.int .u32 q.n,.string (bs q.text),.string (bs q.value)] 25))
  clear hb
  unfold qbhk
  go_wp2_with (go_at_call 125;refine(MN.out _).mono ?_;rintro e w2 ⟨rfl,hb⟩;have HB:=Lib.hid (HB.out.trans (hb.mono HB.out.size));clear hb)
  go_ret
  exact⟨rfl,HB.out⟩
theorem qjco(A:Option Addr)(n c:Nat)(l:List Pr)(w:World)(hl:PL w A l)(hn:l.length=n)(hN:n≤70000) :
 Calls Tryz.prog 103 #[.slice A n c] w fun e w'=>e = .returned (.bool (qwyx l))∧Below w.heap.size w w':=by
 have G1:=fun W (hb:Below w.heap.size w W)=>qfah A n c l 22 W (hl.below hb) hn hN
 have G2:=fun W (hb:Below w.heap.size w W)=>qfah A n c l 21 W (hl.below hb) hn hN
 rw[qxal] at G1 G2
 unfold qwyx
 generalize (getP l 22).1=q at *
 generalize (getP l 21).1=r at *
 generalize hasP l 22=b at *
 generalize hasP l 21=d at *
 have G1:=Lib.hid G1
 have G2:=Lib.hid G2
 clear hl hn hN
 cases b<;>cases d<;>
 ·go_enter Tryz.func103,Tryz.ntmps103
  go_wp2_with fail
  refine(G1.out w (Below.refl _ _)).mono ?_
  rintro e w1 ⟨rfl,hb⟩
  have HB:=Lib.hid (hb.alloc hb.size (.cells #[.int .i64 q.id,.int .u32 q.n,.string (bs q.text),.string (bs q.value)] 25))
  clear hb
  unfold qbhk
  go_wp2_with fail
  refine(G2.out _ HB.out).mono ?_
  rintro e w2 ⟨rfl,hb⟩
  have HB2:=Lib.hid (HB.out.trans (hb.mono HB.out.size))
  have HB:=Lib.hid (HB2.out.alloc HB2.out.size (.cells #[.int .i64 r.id,.int .u32 r.n,.string (bs r.text),.string (bs r.value)] 25))
  clear hb
  unfold qbhk
  go_wp2_with fail
  go_ret
  exact⟨rfl,HB.out⟩
theorem q967(kind:Int)(l:List Pr)(k:Nat)(p:Pr)(hp:l[k]? = some p):q09m kind (l.take k) (l.drop k)=if qr4y kind p≠0 then qr4y kind p else if qxv1 kind (l.take k) p.id then 9 else q09m kind (l.take (k+1)) (l.drop (k+1)):=by
 have hk:=(List.getElem?_eq_some_iff.1 hp).1
 have hd:l.drop k=p::l.drop (k+1):=by
  rw[List.drop_eq_getElem_cons hk];congr 1
  rw[List.getElem?_eq_getElem hk] at hp;exact Option.some.inj hp
 have ht:l.take (k+1)=l.take k++[p]:=by rw[List.take_add_one,hp];rfl
 rw[hd,ht,q09m]
theorem qwwa(kind:Int)(A:Option Addr)(n c:Nat)(l:List Pr)(w:World)(hl:PL w A l)(hn:l.length=n)(hc:n≤c)(hcm:c≤9223372036854775807)(hN:n≤1010)(ht:∀p∈l,p.text.length≤200000) :
 Calls Tryz.prog 67 #[.int .i64 kind,.slice A n c] w fun e w'=>e = .returned (.int .i64 ((qpyu kind l:Nat):Int))∧Below w.heap.size w w':=by
 by_cases h1:1000 < n
 ·have hV:qpyu kind l=4:=by unfold qpyu;rw[if_pos (by omega)]
  have q1:(1000:Int) < (n:Int):=by omega
  rw[hV]
  clear hl hn hc hcm hN ht h1 hV
  go_enter Tryz.func67,Tryz.ntmps67
  go_wp2_with fail
  go_ret
  exact⟨rfl,Below.refl _ _⟩
 have q1:¬(1000:Int) < (n:Int):=by omega
 obtain⟨V,hV⟩:∃V,qpyu kind l=V:=⟨_,rfl⟩
 have hV2:=hV
 unfold qpyu at hV2
 rw[if_neg (by omega)] at hV2
 rw[hV]
 have HV:=Lib.hid hV2
 have HL:=Lib.hid hl
 have HN:=Lib.hid hn
 have HT:=Lib.hid ht
 have HNN:=Lib.hid hN
 have LO:=Lib.hid (fun W (hb:Below w.heap.size w W)=>qjco A n c l W (hl.below hb) hn (by omega))
 have q2:(n:Int)≤(c:Int):=by omega
 have q3:(c:Int)≤9223372036854775807:=by omega
 have q4:(n:Int)≤1010:=by omega
 have TW:=Lib.hid (fun W (hb:Below w.heap.size w W) k id (hk:k≤n)=>qdfs kind A k c (l.take k) id W ((hl.below hb).take k) (by rw[List.length_take];omega) (by omega))
 clear hl hn hc hcm hN ht h1 hV hV2
 go_enter Tryz.func67,Tryz.ntmps67
 go_wp2_with fail
 go_loopg [5] n (fun gk s5 wx=>∃k:Nat,k≤n∧gk=n - k∧s5 = .int .i64 (k:Int)∧q09m kind (l.take k) (l.drop k)=q09m kind [] l∧(∀j p,j < k→l[j]? = some p→qr4y kind p=0)∧Below w.heap.size w wx)
 case atStart=>exact⟨0,Nat.zero_le _,rfl,rfl,rfl,fun j p h=>by omega,Below.refl _ _⟩
 case round=>
  obtain⟨k,hk,rfl,rfl,hE,hC,hB⟩:=hrel
  have HB:=Lib.hid hB
  by_cases hlt:k < n
  ·have hkl:k < l.length:=by rw[HN.out];exact hlt
   obtain⟨p,hp⟩:∃p,l[k]? = some p:=⟨_,List.getElem?_eq_getElem hkl⟩
   obtain⟨g,i,rfl,hg',c0,c1,c2,c3⟩:=(HL.out.below hB).at hp
   rw[q967 kind l k p hp] at hE
   have CK:=fun W=>q9ay kind p W (HT.out p (List.mem_of_getElem? hp))
   obtain⟨E,hEE⟩:∃E,qr4y kind p=E:=⟨_,rfl⟩
   rw[hEE] at CK hE
   have g1:(k:Int) < (n:Int):=by omega
   have g2:(k:Int)≤(c:Int):=by omega
   have g3:(0:Int)≤(k:Int):=by omega
   have MK:=Lib.hid (fun W (h:Below w.heap.size w W)=>(show W.cell? ⟨g,i+k*4,none⟩=some (.int .i64 p.id)∧Below w.heap.size w W from by
    obtain⟨g',i',e',_,d0,d1,d2,d3⟩:=(HL.out.below h).at hp
    cases e'
    exact⟨d0,h⟩))
   have CK:=Lib.hid CK
   have HEE:=Lib.hid hEE
   have HLT:=Lib.hid hlt
   have HP:=Lib.hid hp
   have HC:=Lib.hid hC
   unfold qbhk at CK
   by_cases e0:E=0
   ·subst e0
    rw[if_neg (by simp)] at hE
    have TW1:=Lib.hid (fun W hb=>TW.out W hb k p.id (by omega))
    obtain⟨b,hb⟩:∃b,qxv1 kind (l.take k) p.id=b:=⟨_,rfl⟩
    rw[hb] at hE TW1
    have HE:=Lib.hid hE
    clear hE hb hlt hk hp hkl hC hEE hg' hB
    go_wp2_with fail
    refine(CK.out _).mono ?_
    rintro e w1 ⟨rfl,hb⟩
    have hS:=MK.out w1.drew (qnpu (HB.out.trans (hb.mono HB.out.size)) 1)
    clear hb c0 c1 c2 c3
    go_wp2_with fail
    go_region_held3 (fun w'=>w'.cell? ⟨g,i+k*4,none⟩=some (.int .i64 p.id)∧Below w.heap.size w w')
     (exact hS)
     (first
      | (go_at_call 102;with_reducible refine(TW1.out _ hS.2).mono ?_;rintro e w2 ⟨rfl,hb⟩;have hS:=MK.out _ (hS.2.trans (hb.mono hS.2.size));clear hb))
    rename_i hHeld
    have HB1:=Lib.hid hS.2
    clear hHeld hS
    cases b with
    | true=>
     have hV:=HV.out
     have hE:=HE.out
     rw[if_pos rfl] at hE
     rw[←hE,if_pos (by decide)] at hV
     subst hV
     clear hE
     go_wp2_with fail
     go_ret
     exact⟨rfl,HB1.out⟩
    | false=>
     have hE:=HE.out
     rw[if_neg (by decide)] at hE
     have HE2:=Lib.hid hE
     clear hE
     go_wp2_with fail
     go_roundg (n - (k+1))
     case measure=>have:=HLT.out;omega
     case rel=>
      refine⟨k+1,by have:=HLT.out;omega,rfl,by go_num,HE2.out,fun j q hj hq=>?_,HB1.out⟩
      by_cases hjk:j=k
      ·subst hjk
       have:=hq.symm.trans HP.out
       injection this with this
       rw[this];exact HEE.out
      ·exact HC.out j q (by omega) hq
   ·have n0:(((E:Nat):Int) != 0)=true:=by rw[bne_iff_ne];omega
    rw[if_pos e0] at hE
    have HE:=Lib.hid hE
    have E0:=Lib.hid e0
    clear hE e0 hlt hk hp hkl hC hEE hg' hB
    go_wp2_with fail
    refine(CK.out _).mono ?_
    rintro e w1 ⟨rfl,hb⟩
    have HB1:=Lib.hid (HB.out.trans (hb.mono HB.out.size))
    have hV:=HV.out
    rw[←HE.out,if_pos E0.out] at hV
    subst hV
    clear hb c0 c1 c2 c3
    go_wp2_with fail
    go_ret
    exact⟨rfl,HB1.out⟩
  ·obtain rfl:k=n:=by omega
   have e1:l.take k=l:=List.take_of_length_le (by rw[HN.out];omega)
   have e2:l.drop k=[]:=List.drop_of_length_le (by rw[HN.out];omega)
   rw[e1,e2] at hE
   have h0:q09m kind [] l=0:=by rw[←hE];rfl
   have hV:=HV.out
   rw[if_neg (by simp[h0])] at hV
   have ck:∀p∈l,qr4y kind p=0:=fun p hp=>by
    obtain⟨j,hj⟩:=List.mem_iff_getElem?.1 hp
    exact hC j p (by have:=(List.getElem?_eq_some_iff.1 hj).1;rw[HN.out] at this;exact this) hj
   have BO:=Lib.hid (fun W (hb:Below w.heap.size w W)=>qp37 A k c l W (HL.out.below hb) HN.out HNN.out ck)
   have LO1:=Lib.hid (LO.out wr HB.out)
   cases hlo:qwyx l with
   | true=>
    rw[hlo] at LO1
    rw[hlo,if_pos rfl] at hV
    subst hV
    clear hE h0 ck hlo hC hB hlt hk e1 e2 BO
    go_wp2_with fail
    refine(LO1.out).mono ?_
    rintro e w1 ⟨rfl,hb⟩
    have HB1:=Lib.hid (HB.out.trans (hb.mono HB.out.size))
    clear hb
    go_wp2_with fail
    go_ret
    exact⟨rfl,HB1.out⟩
   | false=>
    rw[hlo] at LO1
    rw[hlo,if_neg (by decide)] at hV
    obtain⟨z,hz⟩:∃z,(bs (q636 l)).size=z:=⟨_,rfl⟩
    have hz2:(q636 l).length=z:=by rw[←hz,q5zk]
    rw[hz2] at hV
    have HVV:=Lib.hid hV
    have HZ:=Lib.hid hz
    clear hE h0 ck hlo hC hB hlt hk e1 e2 hV hz2
    generalize bs (q636 l)=x at *
    go_wp2_with fail
    refine(LO1.out).mono ?_
    rintro e w1 ⟨rfl,hb⟩
    have HB1:=Lib.hid (HB.out.trans (hb.mono HB.out.size))
    clear hb
    go_wp2_with fail
    refine(BO.out _ HB1.out).mono ?_
    rintro e w2 ⟨rfl,hb⟩
    have HB2:=Lib.hid (HB1.out.trans (hb.mono HB1.out.size))
    clear hb BO
    subst hz
    by_cases hb:268435455 < x.size
    ·have hV:=HVV.out
     rw[if_pos hb] at hV
     subst hV
     have q9:(268435455:Int) < (x.size:Int):=by omega
     clear hb
     go_wp2_with fail
     go_ret
     exact⟨rfl,HB2.out⟩
    ·have hV:=HVV.out
     rw[if_neg hb] at hV
     subst hV
     have q9:¬(268435455:Int) < (x.size:Int):=by omega
     clear hb
     go_wp2_with fail
     go_ret
     exact⟨rfl,HB2.out⟩
theorem q6fd(kind:Int)(A:Option Addr)(n c:Nat)(l:List Pr)(w:World)(hl:PL w A l)(hn:l.length=n)(hc:n≤c)(hcm:c≤9223372036854775807)(hN:n≤1010)(ht:∀p∈l,p.text.length≤200000) :
 Calls Tryz.prog 94 #[.int .i64 kind,.slice A n c] w fun e w'=>e = .returned (.tuple #[.string (bs (q5aq kind l).1),.int .i64 ((q5aq kind l).2:Nat)])∧Below w.heap.size w w':=by
 have VA:=qwwa kind A n c l w hl hn hc hcm hN ht
 by_cases hv:qpyu kind l=0
 ·obtain⟨v1,v2,v3,v4⟩:=qpfx hv
  have ck:∀p∈l,qr4y kind p=0:=((qrcn kind l).1 v2).1
  have BO:=Lib.hid (fun W (hb:Below w.heap.size w W)=>qp37 A n c l W (hl.below hb) hn hN ck)
  have RB:=Lib.hid (fun W=>qwha (q636 l).length W v4)
  rw[hv] at VA
  have VA:=Lib.hid VA
  have hb1:(q5aq kind l).1=vb (q636 l).length (sz (q636 l).length)++q636 l:=by unfold q5aq;rw[if_neg (by simp[hv])]
  have hb2:(q5aq kind l).2=0:=by unfold q5aq;rw[if_neg (by simp[hv])]
  have hsz:=qnl4 (q636 l).length v4
  have hs1:(bs (q636 l)).size=(q636 l).length:=q5zk _
  have n1:¬9223372036854775807 < (bs (vb (q636 l).length (sz (q636 l).length))).size+(bs (q636 l)).size:=by rw[q5zk,q5zk,q8sw];omega
  rw[hb1,hb2,←qyv7]
  rw[←hs1] at RB n1 ⊢
  generalize bs (vb ((bs (q636 l)).size:Nat) (sz ((bs (q636 l)).size:Nat)))=x2 at *
  generalize bs (q636 l)=x1 at *
  clear hl hn hc hcm hN ht hv v1 v2 v3 v4 ck hb1 hb2 hsz hs1
  go_enter Tryz.func94,Tryz.ntmps94
  go_wp2_with fail
  refine(VA.out).mono ?_
  rintro e w1 ⟨rfl,hb⟩
  have HB:=Lib.hid hb
  clear hb
  go_wp2_with fail
  refine(BO.out _ HB.out).mono ?_
  rintro e w2 ⟨rfl,hb⟩
  have HB:=Lib.hid (HB.out.trans (hb.mono HB.out.size))
  clear hb
  go_wp2_with fail
  refine(RB.out _).mono ?_
  rintro e w3 ⟨rfl,hb⟩
  have HB:=Lib.hid (HB.out.trans (hb.mono HB.out.size))
  clear hb
  go_wp2_with fail
  go_ret2
  exact⟨rfl,HB.out⟩
 ·have hb1:q5aq kind l=([],qpyu kind l):=by unfold q5aq;rw[if_pos hv]
  rw[hb1]
  generalize qpyu kind l=V at *
  have q1:(((V:Nat):Int) != 0)=true:=by rw[bne_iff_ne];omega
  have VA:=Lib.hid VA
  clear hl hn hc hcm hN ht hv hb1
  go_enter Tryz.func94,Tryz.ntmps94
  go_wp2_with fail
  refine(VA.out).mono ?_
  rintro e w1 ⟨rfl,hb⟩
  have HB:=Lib.hid hb
  clear hb
  go_wp2_with fail
  go_ret2
  exact⟨rfl,HB.out⟩
theorem qyet(v:Int)(w:World):Calls Tryz.prog 37 #[.int .i64 v] w fun e w'=>e = .returned (.bool (versC v))∧w=w':=by
 unfold versC
 by_cases h4:v=4
 ·subst h4
  go_enter Tryz.func37,Tryz.ntmps37
  go_wp2
  go_ret
  exact⟨rfl,rfl⟩
 ·have e4:(v==4)=false:=beq_eq_false_iff_ne.2 h4
  rw[e4]
  go_enter Tryz.func37,Tryz.ntmps37
  go_wp2
  go_ret
  exact⟨rfl,rfl⟩
structure FewP(w:World)(A:Option Addr)(n c:Nat)(l:List Pr):Prop where
 at':PL w A l
 len:l.length=n
 cap:n≤c
 capm:c≤9223372036854775807
 few:n≤1010
 small:∀p∈l,p.text.length≤200000
theorem FewP.below{w w':World}{A:Option Addr}{n c:Nat}{l:List Pr}(h:FewP w A n c l)(hb:Below w.heap.size w w'):FewP w' A n c l:=⟨h.at'.below hb,h.len,h.cap,h.capm,h.few,h.small⟩
theorem q8yx(v kind:Int)(A:Option Addr)(n c:Nat)(l:List Pr)(w:World)(h:FewP w A n c l)(hv:v=4∨v=5):Calls Tryz.prog 58 #[.int .i64 v,.int .i64 kind,.slice A n c] w fun e w'=>e = .returned (.string (bs (qasq v kind l)))∧Below w.heap.size w w':=by
 have B:=Lib.hid (q6fd kind A n c l w h.at' h.len h.cap h.capm h.few h.small)
 clear h
 rcases hv with rfl | rfl
 ·clear B
  have LO:=Lib.hid (Below.refl w.heap.size w)
  rw[show qasq 4 kind l=[] from rfl]
  go_enter Tryz.func58,Tryz.ntmps58
  go_wp2
  go_ret
  exact⟨rfl,LO.out⟩
 ·rw[show qasq 5 kind l=(q5aq kind l).1 from rfl]
  go_enter Tryz.func58,Tryz.ntmps58
  go_wp2_with fail
  refine(B.out).mono ?_
  rintro e W ⟨rfl,hb⟩
  go_wp2_with fail
  go_ret
  exact⟨rfl,hb⟩
theorem q0km(v kind:Int)(A:Option Addr)(n c:Nat)(l:List Pr)(w:World)(h:FewP w A n c l)(hv:v=4∨v=5)(h4:v=4→l=[]):Calls Tryz.prog 43 #[.int .i64 v,.int .i64 kind,.slice A n c] w fun e w'=>e = .returned (.int .i64 ((qfk9 v kind l:Nat):Int))∧Below w.heap.size w w':=by
 have B:=Lib.hid (qwwa kind A n c l w h.at' h.len h.cap h.capm h.few h.small)
 have hn:n=l.length:=h.len.symm
 clear h
 rcases hv with rfl | rfl
 ·rw[h4 rfl] at hn
  obtain rfl:n=0:=hn
  clear B h4
  have LO:=Lib.hid (Below.refl w.heap.size w)
  rw[show qfk9 4 kind l=0 from rfl]
  go_enter Tryz.func43,Tryz.ntmps43
  go_wp2
  go_ret
  exact⟨rfl,LO.out⟩
 ·rw[show qfk9 5 kind l=qpyu kind l from rfl]
  clear h4 hn
  go_enter Tryz.func43,Tryz.ntmps43
  go_wp2_with fail
  refine(B.out).mono ?_
  rintro e W ⟨rfl,hb⟩
  go_wp2_with fail
  go_ret
  exact⟨rfl,hb⟩
structure RkP(p:Pk)(a:Ad):Prop where
 few:p.props.length≤1010
 cap:p.props.length≤a.pc
 capm:a.pc≤9223372036854775807
 small:∀x∈p.props,x.text.length≤200000
theorem RkP.ps{p:Pk}{a:Ad}(h:RkP p a)(w:World)(hp:PkAt w p a):FewP w a.ps p.props.length a.pc p.props:=⟨hp.ps,rfl,h.cap,h.capm,h.few,h.small⟩
def q5z9(a:Ad):Ad:={adZ with ps:=a.ps,pc:=a.pc}
theorem qx6a{w:World}{p:Pk}{a:Ad}(h:PkAt w p a):PkAt w (qiby p) (q5z9 a):=⟨fun e=>absurd rfl e,fun e=>absurd rfl e,fun e=>absurd rfl e,h.ps⟩
theorem qcox{p:Pk}(h:q21o p):q21o (qiby p):=⟨Nat.zero_le _,Nat.zero_le _,h.2.2.1,Nat.zero_le _⟩
theorem q6ch(v:Int)(p:Pk)(h:(versC v&&qvya p.kind)=true):(decide (p=qiby p)&&!((v==4)&&!(p.code==0&&p.props.isEmpty))&&decide (1≤p.id)&&decide (p.id≤65535)&&mayR p.kind p.code)=okA v p:=by
 unfold okA
 rw[h,Bool.true_and]
 generalize decide (p=qiby p)=a
 generalize (!((v==4)&&!(p.code==0&&p.props.isEmpty)))=b
 generalize decide (1≤p.id)=c
 generalize decide (p.id≤65535)=d
 generalize mayR p.kind p.code=e
 cases a<;>cases b<;>cases c<;>cases d<;>cases e<;>rfl
theorem qqtt(v:Int)(p:Pk)(a:Ad)(w:World)(hp:PkAt w p a)(sp:q21o p):Calls Tryz.prog 42 #[.int .i64 v,.agg (pkC p a)] w fun e w'=>e = .returned (.bool (okA v p))∧Below w.heap.size w w':=by
 have S0:=Lib.hid (BxS.made w p a)
 have C1:=Lib.hid (qwmp p a)
 have VE:=fun W=>qyet v W
 have MA:=Lib.hid (fun W=>q6zo p.kind p.code W)
 have SM:=fun W (h1:PkAt W p a)=>qkl7 p (qiby p) a (q5z9 a) W h1 (qx6a h1) sp (qcox sp)
 unfold pkV at SM
 replace SM:=Lib.hid SM
 have HP:=Lib.hid hp
 have RA:=q6ch v p
 obtain⟨R,hR⟩:∃R,okA v p=R:=⟨_,rfl⟩
 rw[hR] at RA ⊢
 have RF:(versC v&&qvya p.kind)=false→R=false:=fun h=>by
  rw[←hR,okA,h]
  simp
 obtain⟨b1,hb1⟩:∃b,(versC v&&qvya p.kind)=b:=⟨_,rfl⟩
 rw[hb1] at RA RF
 obtain⟨o,ho⟩:∃o,((v==4)&&!(p.code==0&&p.props.isEmpty))=o:=⟨_,rfl⟩
 obtain⟨s,hs⟩:∃s,decide (p=qiby p)=s:=⟨_,rfl⟩
 rw[ho,hs] at RA
 rw[hs] at SM
 have HO:=Lib.hid ho
 have HB1:=Lib.hid hb1
 have RA:=Lib.hid RA
 have RF:=Lib.hid RF
 have HZ:=Lib.hid qbwp
 have hzv:=qrai
 have hne:¬pkZ=#[]:=by intro h;have:=qbwp;rw[h] at this;cases this
 obtain⟨D,hD⟩:∃D,pkC (qiby p) (q5z9 a)=D:=⟨_,rfl⟩
 have hD1:D.size=25:=by rw[←hD];exact qwmp _ _
 have hD2:D.all (·.oneCell')=true:=by rw[←hD];exact qmz0 _ _
 rw[hD] at SM
 have HD:=Lib.hid hD
 have HD1:=Lib.hid hD1
 have HD2:=Lib.hid hD2
 generalize mayR p.kind p.code=m at *
 clear hp sp hR hb1 ho hs hD hD1 hD2
 go_enter Tryz.func42,Tryz.ntmps42
 go_upto_region 1 with fail
 go_cut [19] (fun s19 wx=>s19 = .bool (!b1)∧BxS w p a wx)
 case first=>
  have k0:(w.alloc (.cells (pkC p a) 35)).cell? ⟨w.heap.size,0,none⟩=some (.int .i64 p.kind):=S0.out.cell 0
  have hb:=HB1.out
  unfold qvya at hb
  generalize p.kind=k at *
  cases hv:versC v with
  | false=>
   rw[hv,Bool.false_and] at hb
   rw[hv] at VE
   subst hb
   replace VE:=Lib.hid VE
   clear hv
   go_wp2_with fail
   refine(VE.out _).mono ?_
   rintro e W ⟨rfl,rfl⟩
   go_wp2_with fail
   go_meet
   exact⟨rfl,S0.out⟩
  | true=>
   rw[hv,Bool.true_and] at hb
   rw[hv] at VE
   replace VE:=Lib.hid VE
   clear hv
   by_cases h4:4≤k
   ·have g1:decide (k < 4)=false:=decide_eq_false (by omega)
    rw[decide_eq_true h4,Bool.true_and] at hb
    have HT:=Lib.hid (show decide (7 < k)=!b1 by
     rw[←hb,←decide_not,decide_eq_decide]
     omega)
    clear hb h4
    go_wp2_with fail
    refine(VE.out _).mono ?_
    rintro e W ⟨rfl,rfl⟩
    go_wp2_with fail
    go_meet
    exact⟨congrArg Value.bool HT.out,S0.out⟩
   ·have g1:decide (k < 4)=true:=decide_eq_true (by omega)
    rw[decide_eq_false h4,Bool.false_and] at hb
    subst hb
    clear h4
    go_wp2_with fail
    refine(VE.out _).mono ?_
    rintro e W ⟨rfl,rfl⟩
    go_wp2_with fail
    go_meet
    exact⟨rfl,S0.out⟩
 case rest=>
  obtain⟨rfl,hS⟩:=hcut
  have S1:=Lib.hid hS
  clear hS S0 VE HB1
  cases b1 with
  | false=>
   have hr:=RF.out rfl
   subst hr
   go_wp2_with fail
   go_ret
   exact⟨rfl,S1.out.low⟩
  | true=>
   have RA:=Lib.hid (RA.out rfl)
   have k0:wc.cell? ⟨w.heap.size,0,none⟩=some (.int .i64 p.kind):=S1.out.cell 0
   have k4:wc.cell? ⟨w.heap.size,4,none⟩=some (.int .i64 p.id):=S1.out.cell 4
   have k21:wc.cell? ⟨w.heap.size,21,none⟩=some (.int .i64 p.code):=S1.out.cell 21
   have k24:wc.cell? ⟨w.heap.size,24,none⟩=some (.slice a.ps p.props.length a.pc):=S1.out.cell 24
   have bx:Below wc.heap.size wc ((wc.alloc (.cells pkZ 35)).setRow wc.heap.size D):=q8xz (qybm _) (Nat.le_refl _) _
   have S3:=Lib.hid (S1.out.call bx)
   have GN:=Lib.hid (heap_alloc_new wc (.cells pkZ 35))
   have G3:=Lib.hid (setRow_heap _ _ _ D _ _ GN.out)
   clear bx
   go_upto_region 4 with (first
    | (refine wpList_buildTo rfl 35 _ rfl (some _) rfl D (by rw[←HD.out];kernel_rfl) ?_)
    | (refine wpList_store_row rfl _ _ _ rfl wc.heap.size D rfl rfl 35 _ GN.out (by rw[HD1.out];exact q5nr) (by rw[HZ.out,HD1.out]) HD2.out ?_))
   clear k0 k4 k21 k24 GN S1 hzv hne
   generalize (wc.alloc (.cells pkZ 35)).setRow wc.heap.size D=W3 at *
   generalize wc.heap.size=B at *
   dsimp only[Act.put]
   go_cut [6] (fun s6 wx=>s6 = .bool o∧wx=W3)
   case first=>
    have k21:W3.cell? ⟨w.heap.size,21,none⟩=some (.int .i64 p.code):=S3.out.cell 21
    have k24:W3.cell? ⟨w.heap.size,24,none⟩=some (.slice a.ps p.props.length a.pc):=S3.out.cell 24
    have hoo:=HO.out
    by_cases h4:v=4
    ·subst h4
     rw[show((4:Int)==4)=true from rfl,Bool.true_and] at hoo
     by_cases hc:p.code=0
     ·rw[hc] at k21 hoo
      rw[show((0:Int)==0)=true from rfl,Bool.true_and] at hoo
      by_cases hl:p.props=[]
      ·have hz:p.props.length=0:=by rw[hl];rfl
       rw[hl] at hoo
       have hoo:false=o:=hoo
       subst hoo
       rw[hz] at k24
       clear hl hz hc HO
       go_wp2_with fail
       go_meet
       exact⟨rfl,rfl⟩
      ·have hz:0 < p.props.length:=List.length_pos_iff.2 hl
       have hoo:true=o:=by rw[←hoo];cases hq:p.props with
        | nil=>exact absurd hq hl
        | cons x l=>rfl
       subst hoo
       generalize p.props.length=n at *
       clear hl hc HO
       go_wp2_with fail
       go_meet
       exact⟨rfl,rfl⟩
     ·have e1:(p.code==0)=false:=by simpa using hc
      have e2:(p.code != 0)=true:=by simpa using hc
      rw[e1,Bool.false_and] at hoo
      have hoo:true=o:=hoo
      subst hoo
      generalize p.code=c at *
      clear hc HO
      go_wp2_with fail
      go_meet
      exact⟨rfl,rfl⟩
    ·have e1:(v==4)=false:=by simpa using h4
     rw[e1,Bool.false_and] at hoo
     subst hoo
     clear h4 HO
     go_wp2_with fail
     go_meet
     exact⟨rfl,rfl⟩
   case rest=>
    obtain⟨rfl,rfl⟩:=hcut
    go_upto_region 5 with fail
    refine qyas (S:=fun W=>BxS w p a W∧W.heap[B]? = some (.cells D 35 (0,0))) (B:=w.heap.size) (B2:=B) (k:=p.kind) (i:=p.id) (c:=p.code) (C:=pkC p a) (D:=D) (o:=o) (m:=m) (s:=s) ⟨S3.out,G3.out⟩ C1.out HD1.out (fun W h=>h.1.box) (fun W h=>h.2) (fun W h=>h.1.cell 0) (fun W h=>h.1.cell 4) (fun W h=>h.1.cell 21)
     (fun W h=>(SM.out W (HP.out.below h.1.low)).mono fun e W' hh=>⟨hh.1,h.1.call hh.2,(hh.2.block _ (lt_of_block h.2)).trans h.2⟩) (fun W h=>(MA.out W).mono fun e W' hh=>⟨hh.1,h.1.call hh.2,(hh.2.block _ (lt_of_block h.2)).trans h.2⟩) ?_
    intro r W hr h
    rw[RA.out] at hr
    subst hr
    have LO:=Lib.hid h.1.low
    clear h
    intros
    go_wp2_with fail
    go_ret
    exact⟨rfl,LO.out⟩
theorem qhl1(v:Int)(p:Pk)(a:Ad)(w:World)(hp:PkAt w p a)(sp:q21o p)(fp:RkP p a):Calls Tryz.prog 17 #[.int .i64 v,.agg (pkC p a)] w fun e w'=>e = .returned (.int .i64 (qryp v p:Nat))∧Below w.heap.size w w':=by
 have S0:=Lib.hid (BxS.made w p a)
 have C1:=Lib.hid (qwmp p a)
 have FI:=Lib.hid (fun W (h:BxS w p a W)=>qqtt v p a W (hp.below h.low) sp)
 have K0:∀W,BxS w p a W→W.cell? ⟨w.heap.size,0,none⟩=some (.int .i64 p.kind):=fun W h=>h.cell 0
 have K24:∀W,BxS w p a W→W.cell? ⟨w.heap.size,24,none⟩=some (.slice a.ps p.props.length a.pc):=fun W h=>h.cell 24
 replace K0:=Lib.hid K0
 replace K24:=Lib.hid K24
 unfold qryp
 cases ho:okA v p with
 | false=>
  rw[ho] at FI
  rw[if_pos rfl]
  clear hp sp fp ho
  go_enter Tryz.func17,Tryz.ntmps17
  go_wp2_with (refine wpList_load_row rfl _ _ rfl w.heap.size rfl 35 _ (0,0) _ S0.out.box Tryz.underlying35 rfl (by rw[C1.out];exact q5nr) ?_)
  refine(FI.out _ S0.out).mono ?_
  rintro e W ⟨rfl,hb⟩
  have LO:=Lib.hid (qxh2 S0.out.low hb)
  clear hb
  go_wp2_with fail
  go_ret
  exact⟨rfl,LO.out⟩
 | true=>
  rw[ho] at FI
  rw[if_neg (by decide)]
  obtain⟨h45,-,-,h4,-⟩:=ok_a ho
  have VA:=Lib.hid (fun W (h:BxS w p a W)=>q0km v p.kind a.ps p.props.length a.pc p.props W (fp.ps W (hp.below h.low)) h45 (fun e=>(h4 e).2))
  generalize qfk9 v p.kind p.props=q at *
  clear hp sp fp ho h45 h4
  go_enter Tryz.func17,Tryz.ntmps17
  go_wp2_with (refine wpList_load_row rfl _ _ rfl w.heap.size rfl 35 _ (0,0) _ S0.out.box Tryz.underlying35 rfl (by rw[C1.out];exact q5nr) ?_)
  refine(FI.out _ S0.out).mono ?_
  rintro e W ⟨rfl,hb⟩
  have S1:=Lib.hid (S0.out.call hb)
  have k0:W.cell? ⟨w.heap.size,0,none⟩=some (.int .i64 p.kind):=K0.out W S1.out
  have k24:W.cell? ⟨w.heap.size,24,none⟩=some (.slice a.ps p.props.length a.pc):=K24.out W S1.out
  clear hb S0
  go_wp2_with fail
  refine(VA.out _ S1.out).mono ?_
  rintro e W2 ⟨rfl,hb⟩
  have LO:=Lib.hid (S1.out.call hb).low
  clear hb
  go_wp2_with fail
  go_ret
  exact⟨rfl,LO.out⟩
theorem qo8d(v kind:Int)(c:Nat)(A:Option Addr)(n cp:Nat)(l:List Pr)(w:World)(hv:v=4∨v=5)(hc:c < 256)(h:FewP w A n cp l)(hr:(q5aq kind l).1.length≤300000010) :
 Calls Tryz.prog 36 #[.int .i64 v,.int .i64 kind,.int .i64 c,.slice A n cp] w fun e w'=>e = .returned (.string (bs (qzno v kind c l)))∧Below w.heap.size w w':=by
 have hl:l.length=n:=h.len
 have TL:=fun W (hb:Below w.heap.size w W)=>q8yx v kind A n cp l W (h.below hb) hv
 unfold qzno
 rcases hv with rfl | rfl
 ·rw[if_neg (by simp)]
  clear TL h hl hr hc
  go_enter Tryz.func36,Tryz.ntmps36
  go_wp2_with fail
  go_ret
  exact⟨rfl,Below.refl _ _⟩
 ·rw[show qasq 5 kind l=(q5aq kind l).1 from if_pos rfl] at TL
  generalize (q5aq kind l).1=T at *
  have CV:(convert 74 9 (.slice (some ⟨w.heap.size,0,none⟩) 1 1)).run Tryz.prog (w.alloc (.cells #[.int .u8 ((UInt8.ofNat c).toNat:Int)] 5)) = .ok (.string (bs [UInt8.ofNat c])) (w.alloc (.cells #[.int .u8 ((UInt8.ofNat c).toNat:Int)] 5)):=
   q3j9 (base:=w.heap.size) [UInt8.ofNat c] ⟨rfl,.inr ⟨_,1,_,rfl,Nat.le_refl _,heap_alloc_new w _,Nat.le_refl _,by decide,rfl,rfl⟩⟩
  have hm:(UInt8.ofNat c).toNat=c:=by rw[UInt8.toNat_ofNat'];omega
  rw[hm] at CV
  have hc2:(c:Int) < 256:=by omega
  have LB:=Lib.hid (qybm (w:=w) (.cells #[.int .u8 ((c:Nat):Int)] 5))
  have e1:bs [UInt8.ofNat c]++bs T=bs (UInt8.ofNat c::T):=qyv7 _ _
  have t1:¬9223372036854775807 < (bs [UInt8.ofNat c]).size+(bs T).size:=by rw[q5zk,q5zk,List.length_singleton];omega
  have ht:((c:Nat):Int).toNat=c:=by omega
  have hcc:((c:Nat):Int)≠0↔c≠0:=by omega
  by_cases hl0:l=[]
  ·have hn:n=0:=by rw[←hl,hl0];rfl
   by_cases h0:c=0
   ·rw[if_neg (by simp[h0,hl0])]
    subst h0
    subst hn
    clear TL h hl hr CV e1 t1 hl0 LB hm hc2 ht hcc
    go_enter Tryz.func36,Tryz.ntmps36
    go_wp2_with fail
    go_ret
    exact⟨rfl,Below.refl _ _⟩
   ·rw[if_pos ⟨rfl,.inl (by omega)⟩,if_neg (by simpa using hl0),ht]
    have q1:((c:Int)==0)=false:=by simp;omega
    have q2:((c:Int) != 0)=true:=by simp;omega
    subst hn
    clear TL h hl hr e1 t1 hl0 hc h0 hm ht hcc
    generalize bs [UInt8.ofNat c]=X at *
    go_enter Tryz.func36,Tryz.ntmps36
    go_wp2_with fail
    go_ret
    exact⟨rfl,LB.out⟩
  ·have hn:0 < n:=by rw[←hl];exact List.length_pos_iff.2 hl0
   rw[if_pos ⟨rfl,.inr hl0⟩,if_pos hl0,ht]
   have TL1:=Lib.hid (TL _ LB.out)
   have q1:((c:Int)==0)=true∨((c:Int)==0)=false:=by cases ((c:Int)==0)<;>simp
   have E1:=Lib.hid (And.intro e1 t1)
   clear TL h hl hr e1 t1 hl0 hc hm ht hcc
   generalize bs [UInt8.ofNat c]=X at *
   generalize bs (UInt8.ofNat c::T)=Z at *
   generalize bs T=Y at *
   rcases q1 with q1 | q1
   all_goals
    have q2:((c:Int) != 0)=!((c:Int)==0):=rfl
    rw[q1] at q2
    have Q2:=Lib.hid q2
    clear q2
    have q2:=Q2.out
    go_enter Tryz.func36,Tryz.ntmps36
    go_wp2_with fail
    refine(TL1.out).mono ?_
    rintro e W ⟨rfl,hb⟩
    have L2:=Lib.hid (LB.out.trans (hb.mono LB.out.size))
    have e1:=E1.out.1
    have t1:=E1.out.2
    clear hb
    go_wp2_with fail
    go_ret
    exact⟨rfl,L2.out⟩
theorem q9gv(p:Pk)(a:Ad)(w:World):Calls Tryz.prog 16 #[.agg (pkC p a)] w fun e w'=>e = .returned (.tuple #[.agg (pkC (qo1u p).1 adZ),.bool (qo1u p).2])∧Below w.heap.size w w':=by
 obtain⟨D,hD⟩:∃D,pkC (qo1u p).1 adZ=D:=⟨_,rfl⟩
 rw[hD]
 have hD1:D.size=25:=by rw[←hD];exact qwmp _ _
 have hD2:D.all (·.oneCell')=true:=by rw[←hD];exact qmz0 _ _
 have HD1:=Lib.hid hD1
 have HD2:=Lib.hid hD2
 have HZ:=Lib.hid qbwp
 have hzv:=qrai
 have hne:¬pkZ=#[]:=by intro h;have:=qbwp;rw[h] at this;cases this
 have GB:=heap_alloc2_old w (.cells (pkC p a) 35) (.cells pkZ 35)
 have GR:=heap_alloc2_new w (.cells (pkC p a) 35) (.cells pkZ 35)
 have LO:=q8xz (qxh2 (qybm (w:=w) (.cells (pkC p a) 35)) (qybm (.cells pkZ 35))) (show w.heap.size≤w.heap.size+1 by omega) D
 have k0:((w.alloc (.cells (pkC p a) 35)).alloc (.cells pkZ 35)).cell? ⟨w.heap.size,0,none⟩=some (.int .i64 p.kind):=cell_of_row _ _ 0 _ _ _ GB
 have k4:((w.alloc (.cells (pkC p a) 35)).alloc (.cells pkZ 35)).cell? ⟨w.heap.size,4,none⟩=some (.int .i64 p.id):=cell_of_row _ _ 4 _ _ _ GB
 have k21:((w.alloc (.cells (pkC p a) 35)).alloc (.cells pkZ 35)).cell? ⟨w.heap.size,21,none⟩=some (.int .i64 p.code):=cell_of_row _ _ 21 _ _ _ GB
 have GR:=Lib.hid GR
 have LO:=Lib.hid LO
 clear hD1 hD2 GB
 unfold qo1u at hD ⊢
 by_cases h5:p.kind=5
 ·rw[h5] at k0 hD ⊢
  by_cases hc:p.code < 128
  ·rw[if_pos ⟨rfl,hc⟩] at hD ⊢
   have g:decide (p.code < 128)=true:=decide_eq_true hc
   have HD:=Lib.hid hD
   clear hD hc h5
   generalize p.code=c at *
   go_enter Tryz.func16,Tryz.ntmps16
   go_wp2_with (first
    | (refine wpList_buildTo rfl 35 _ rfl (some _) rfl D (by rw[←HD.out];kernel_rfl) ?_)
    | (refine wpList_store_row rfl _ _ _ rfl (w.heap.size+1) D rfl rfl 35 _ GR.out (by rw[HD1.out];exact q5nr) (by rw[HZ.out,HD1.out]) HD2.out ?_))
   exact q8iy (cs:=D) rfl rfl rfl rfl Tryz.underlying35 rfl (by rw[HD1.out];exact q5nr) (setRow_heap _ _ _ _ _ _ GR.out) ⟨rfl,LO.out⟩
  ·rw[if_neg (fun h=>hc h.2),if_neg (by decide)] at hD ⊢
   have g:decide (p.code < 128)=false:=decide_eq_false hc
   have HD:=Lib.hid hD
   clear hD hc h5
   generalize p.code=c at *
   go_enter Tryz.func16,Tryz.ntmps16
   go_wp2_with (first
    | (refine wpList_buildTo rfl 35 _ rfl (some _) rfl D (by rw[←HD.out];kernel_rfl) ?_)
    | (refine wpList_store_row rfl _ _ _ rfl (w.heap.size+1) D rfl rfl 35 _ GR.out (by rw[HD1.out];exact q5nr) (by rw[HZ.out,HD1.out]) HD2.out ?_))
   exact q8iy (cs:=D) rfl rfl rfl rfl Tryz.underlying35 rfl (by rw[HD1.out];exact q5nr) (setRow_heap _ _ _ _ _ _ GR.out) ⟨rfl,LO.out⟩
 ·rw[if_neg (fun h=>h5 h.1)] at hD ⊢
  have e5:(p.kind==5)=false:=by simpa using h5
  by_cases h6:p.kind=6
  ·rw[if_pos h6] at hD ⊢
   rw[h6] at k0 e5
   have HD:=Lib.hid hD
   clear hD h5 h6
   go_enter Tryz.func16,Tryz.ntmps16
   go_wp2_with (first
    | (refine wpList_buildTo rfl 35 _ rfl (some _) rfl D (by rw[←HD.out];kernel_rfl) ?_)
    | (refine wpList_store_row rfl _ _ _ rfl (w.heap.size+1) D rfl rfl 35 _ GR.out (by rw[HD1.out];exact q5nr) (by rw[HZ.out,HD1.out]) HD2.out ?_))
   exact q8iy (cs:=D) rfl rfl rfl rfl Tryz.underlying35 rfl (by rw[HD1.out];exact q5nr) (setRow_heap _ _ _ _ _ _ GR.out) ⟨rfl,LO.out⟩
  ·rw[if_neg h6] at hD ⊢
   have e6:(p.kind==6)=false:=by simpa using h6
   have HD:=Lib.hid hD
   clear hD h5 h6
   generalize p.kind=k at *
   go_enter Tryz.func16,Tryz.ntmps16
   go_wp2_with (first
    | (refine wpList_buildTo rfl 35 _ rfl (some _) rfl D (by rw[←HD.out];kernel_rfl) ?_)
    | (refine wpList_store_row rfl _ _ _ rfl (w.heap.size+1) D rfl rfl 35 _ GR.out (by rw[HD1.out];exact q5nr) (by rw[HZ.out,HD1.out]) HD2.out ?_))
   exact q8iy (cs:=D) rfl rfl rfl rfl Tryz.underlying35 rfl (by rw[HD1.out];exact q5nr) (setRow_heap _ _ _ _ _ _ GR.out) ⟨rfl,LO.out⟩
theorem q3pj(v:Int)(p:Pk)(a:Ad)(w:World)(hp:PkAt w p a)(sp:q21o p)(fp:RkP p a) :
 Calls Tryz.prog 14 #[.int .i64 v,.agg (pkC p a)] w fun e w'=>e = .returned (.tuple #[.string (bs (q04h v p).1),.int .i64 ((q04h v p).2:Nat)])∧Below w.heap.size w w':=by
 have S0:=Lib.hid (BxS.made w p a)
 have C1:=Lib.hid (qwmp p a)
 have VA:=fun W (h:BxS w p a W)=>(qhl1 v p a W (hp.below h.low) sp fp).mono fun e W' hh=>(⟨hh.1,h.call hh.2⟩:_∧BxS w p a W')
 unfold q04h
 by_cases hv:qryp v p=0
 ·rw[if_neg (by simpa using hv)]
  rw[hv] at VA
  obtain⟨ho,hr⟩:=q858 hv
  obtain⟨h45,-,-,h4,hi,hm⟩:=ok_a ho
  obtain⟨hc0,hc1⟩:=qaiv hm
  have hvp:qpyu p.kind p.props=0:=by
   rw[←hr]
   unfold qfk9
   by_cases h5:v=5
   ·rw[if_pos h5]
   ·rw[if_neg h5,(h4 (by omega)).2];rfl
  have lt:=qp2i (v:=5) (kind:=p.kind) (l:=p.props) (by unfold qfk9;rw[if_pos rfl];exact hvp)
  rw[qasq,if_pos rfl] at lt
  obtain⟨n,hn⟩:∃n:Nat,p.id=n:=⟨p.id.toNat,by omega⟩
  obtain⟨c,hcc⟩:∃n:Nat,p.code=n:=⟨p.code.toNat,by omega⟩
  have SH:=fun W (h:BxS w p a W)=>(qo8d v p.kind c a.ps p.props.length a.pc p.props W h45 (by omega) (fp.ps W (hp.below h.low)) (by omega)).mono fun e W' hh=>(⟨hh.1,h.call hh.2⟩:_∧BxS w p a W')
  have PU:=fun W (h:BxS w p a W)=>(qeva n 2 W (by omega) (by decide) (by decide)).mono fun e W' hh=>(⟨hh.1,h.call hh.2⟩:_∧BxS w p a W')
  have hw:IntKind.u64.wrap (n:Int)=(n:Int):=by rw[IntKind.wrap_u64];omega
  have hsl:(qzno v p.kind (c:Int) p.props).length≤300000010:=by
   unfold qzno
   split
   ·rw[List.length_cons]
    split
    ·omega
    ·rw[List.length_nil];omega
   ·exact Nat.zero_le _
  have hz:bs (be n 2)++bs (qzno v p.kind (c:Int) p.props)=bs (rawA v p):=by
   rw[qyv7,rawA,hn,hcc,Int.toNat_natCast]
  have hs:(bs (rawA v p)).size≤9223372036854775807:=by rw[←hz,ByteArray.size_append,q5zk,q5zk,q0rl];omega
  have K4:∀W,BxS w p a W→W.cell? ⟨w.heap.size,4,none⟩=some (.int .i64 p.id):=fun W h=>h.cell 4
  have K21:∀W,BxS w p a W→W.cell? ⟨w.heap.size,21,none⟩=some (.int .i64 p.code):=fun W h=>h.cell 21
  rw[hn] at K4
  rw[hcc] at K21
  generalize bs (rawA v p)=Z at *
  generalize bs (be n 2)=X at *
  generalize bs (qzno v p.kind (c:Int) p.props)=Y at *
  have HB:=Lib.hid (And.intro hw (And.intro hz hs))
  replace VA:=Lib.hid VA
  replace SH:=Lib.hid SH
  replace PU:=Lib.hid PU
  replace K4:=Lib.hid K4
  replace K21:=Lib.hid K21
  clear hp sp fp hv ho hr h45 h4 hi hm hc0 hc1 hvp lt hn hcc hw hz hs hsl
  go_enter Tryz.func14,Tryz.ntmps14
  go_wp2_with (refine wpList_load_row rfl _ _ rfl w.heap.size rfl 35 _ (0,0) _ S0.out.box Tryz.underlying35 rfl (by rw[C1.out];exact q5nr) ?_)
  refine(VA.out _ S0.out).mono ?_
  rintro e W ⟨rfl,hb⟩
  have S1:=Lib.hid hb
  clear hb S0
  go_upto_region 4 with fail
  refine qqhf (S:=BxS w p a) (B:=w.heap.size) (k:=p.kind) (i:=(n:Int)) (c:=(c:Int)) (A:=a.ps) (n:=p.props.length) (cp:=a.pc) (X:=X) (Y:=Y) (Z:=Z) S1.out.draw HB.out.1 HB.out.2.1 HB.out.2.2 (fun W h=>h.cell 0) K4.out K21.out (fun W h=>h.cell 24) PU.out SH.out ?_
  intro W2 h
  have LO:=Lib.hid h.low
  clear h
  go_wp2_with fail
  go_ret2
  exact⟨rfl,LO.out⟩
 ·rw[if_pos hv]
  generalize qryp v p=R at *
  have hr1:((R:Int)==0)=false:=by simp;omega
  have hr2:((R:Int) != 0)=true:=by simp;omega
  replace VA:=Lib.hid VA
  clear hv hp sp fp
  go_enter Tryz.func14,Tryz.ntmps14
  go_wp2_with (refine wpList_load_row rfl _ _ rfl w.heap.size rfl 35 _ (0,0) _ S0.out.box Tryz.underlying35 rfl (by rw[C1.out];exact q5nr) ?_)
  refine(VA.out _ S0.out).mono ?_
  rintro e W ⟨rfl,hb⟩
  have LO:=Lib.hid hb.low
  clear hb
  go_wp2_with fail
  go_ret2
  exact⟨rfl,LO.out⟩
end Go.Proofs.YthhdhagenmcbeaaGreat
