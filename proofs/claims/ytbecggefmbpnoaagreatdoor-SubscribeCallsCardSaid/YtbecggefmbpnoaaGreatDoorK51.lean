/- What Get tells. No condition. -/
import Derived.Laws.ResultCell
import Derived.Laws.CopyOwn
import Derived.Deep.LoopGhost
import Derived.Deep.RegionHeld3
import Derived.Test.YtbecggefmbpnoaaGreatDoorK34
import Derived.Test.YtbecggefmbpnoaaGreatDoorK24
import Derived.Test.YtbecggefmbpnoaaGreatDoorK10
import Derived.Test.YtbecggefmbpnoaaGreatDoorK50
import Derived.Test.YtbecggefmbpnoaaGreatDoorK30
import Derived.Test.YtbecggefmbpnoaaGreatDoorK14
import Derived.Test.YtbecggefmbpnoaaGreatDoorK47
import Derived.Test.YtbecggefmbpnoaaGreatDoorK16
set_option maxHeartbeats 4000000
set_option maxRecDepth 100000
namespace Go.Proofs.YtbecggefmbpnoaaGreatDoor
open Go.RowKit
def getP(l:List Pr)(id:Int):Pr×Bool:=match l.find? fun p=>p.id==id with
 | some p=>(p,true)
 | none=>(⟨0,0,[],[]⟩,false)
theorem qihu(id:Int):getP [] id=(⟨0,0,[],[]⟩,false):=rfl
theorem q2to(p:Pr)(l:List Pr)(id:Int):getP (p::l) id=if p.id=id then(p,true) else getP l id:=by
 unfold getP
 rw[List.find?_cons]
 by_cases h:p.id=id
 ·have:(p.id==id)=true:=by simpa using h
  rw[this,if_pos h]
 ·have:(p.id==id)=false:=by simpa using h
  rw[this,if_neg h]
theorem qxal(l:List Pr)(id:Int):(getP l id).2=hasP l id:=by
 induction l with
 | nil=>rfl
 | cons p l ih=>
  rw[q2to]
  unfold hasP at ih ⊢
  rw[List.any_cons]
  by_cases h:p.id=id
  ·rw[if_pos h];simp[h]
  ·rw[if_neg h,ih];simp[h]
theorem qi36:(Tryz.prog.info? 81).map (·.size)=some 4:=by kernel_rfl
theorem qbgf{fn:Func}{R:Ending→World→Prop}{a:Act}{W:World}{p u:Tmp}{B:Nat}{cs:Array Value}{v:Value}(h:fn.results=#[.cell p 81,.tmp u])(hp:a.tmps.getD p undef = .pointer (some ⟨B,0,none⟩))(hu:a.tmps.getD u undef=v)(hd:a.defers=[])(hcs:cs.size=4)
 (hg:W.heap[B]? = some (.cells cs 81 (0,0))) (hR:R (.returned (.tuple #[.agg cs,v])) W):bodyPost Tryz.prog fn R .ret a W:=by
 refine bodyPost_ret (v := .tuple #[.agg cs,v]) ?_ hd hR
 rw[results_cell_tmp h,hp,hu]
 have:=run_loadVar_row (P:=Tryz.prog) W B 81 81 cs (0,0) _ hg Tryz.underlying81 rfl (by rw[hcs];kernel_rfl)
 simp[asAddr,this,Result.andThen]
theorem qfah(A:Option Addr)(n c:Nat)(l:List Pr)(id:Int)(w:World)(hl:PL w A l)(hn:l.length=n)(hN:n≤70000) :
 Calls Tryz.prog 174 #[.slice A n c,.int .i64 id] w fun e w'=>e = .returned (.tuple #[qbhk (getP l id).1,.bool (getP l id).2])∧Below w.heap.size w w':=by
 have HL:=Lib.hid hl
 have HN:=Lib.hid hn
 have hN2:(n:Int)≤70000:=by omega
 obtain⟨R,hR⟩:∃R,getP l id=R:=⟨_,rfl⟩
 rw[hR]
 have HR:=Lib.hid hR
 have B0:=Lib.hid (show Below w.heap.size w (w.alloc (.cells #[.int .i64 0,.int .u32 0,.string ⟨#[]⟩,.string ⟨#[]⟩] 81)) from(Below.refl _ _).alloc (Nat.le_refl _) _)
 have Z0:=Lib.hid (heap_alloc_new w (.cells #[.int .i64 0,.int .u32 0,.string ⟨#[]⟩,.string ⟨#[]⟩] 81))
 clear hl hn hN hR
 go_enter Tryz.func174,Tryz.ntmps174
 go_wp2_with fail
 go_loopg [6] n (fun gk s10 wx=>∃k:Nat,k≤n∧gk=n - k∧s10 = .int .i64 (k:Int)∧getP (l.drop k) id=R∧Below w.heap.size w wx∧wx.heap[w.heap.size]? = some (.cells #[.int .i64 0,.int .u32 0,.string ⟨#[]⟩,.string ⟨#[]⟩] 81 (0,0)))
 case atStart=>exact⟨0,by omega,by omega,rfl,HR.out,B0.out,Z0.out⟩
 case round=>
  obtain⟨k,hk,hgk,rfl,hE,hB,hZ⟩:=hrel
  by_cases hlt:k < n
  ·have hkl:k < l.length:=by rw[HN.out];exact hlt
   obtain⟨p,hp⟩:∃p,l[k]? = some p:=⟨_,List.getElem?_eq_getElem hkl⟩
   obtain⟨g,i,e',hg',c0,c1,c2,c3⟩:=(HL.out.below hB).at hp
   subst e'
   have g1:(k:Int) < (n:Int):=by omega
   have hdr:l.drop k=p::l.drop (k+1):=by
    rw[List.drop_eq_getElem_cons hkl];congr 1
    rw[List.getElem?_eq_getElem hkl] at hp;exact Option.some.inj hp
   rw[hdr,q2to] at hE
   have hzl:=lt_of_block hZ
   have HB:=Lib.hid hB
   have HZ:=Lib.hid hZ
   by_cases hq:p.id=id
   ·rw[if_pos hq] at hE
    have q1:(p.id==id)=true:=by simpa using hq
    subst hE
    clear hq hB hdr hp hkl
    go_wp2_with (refine wpList_store_row rfl _ _ _ rfl w.heap.size _ rfl rfl 81 _ hZ qi36 rfl (by simp[Value.oneCell']) ?_)
    (try simp only[Exit.inBlock,Exit.then])
    refine qbgf rfl rfl rfl rfl ?_ (setRow_heap _ _ _ _ _ _ HZ.out) ?_
    ·rfl
    ·exact⟨rfl,q6i6 HB.out (Nat.le_refl _) _⟩
   ·rw[if_neg hq] at hE
    have HE:=Lib.hid hE
    have q1:(p.id==id)=false:=by simpa using hq
    clear hE hq hB hZ hdr hp hkl
    go_wp2_with fail
    go_roundg (n - (k+1))
    case measure=>omega
    case rel=>exact⟨k+1,by omega,rfl,by go_num,HE.out,HB.out,HZ.out⟩
  ·obtain rfl:k=n:=by omega
   have hd1:l.drop k=[]:=List.drop_of_length_le (by rw[HN.out];omega)
   rw[hd1,qihu] at hE
   have HZ:=Lib.hid hZ
   have HB:=Lib.hid hB
   subst hE
   clear hB hd1
   go_wp2_with (refine wpList_store_row rfl _ _ _ rfl w.heap.size _ rfl rfl 81 _ hZ qi36 rfl (by simp[Value.oneCell']) ?_)
   (try simp only[Exit.inBlock,Exit.then])
   refine qbgf rfl rfl rfl rfl ?_ (setRow_heap _ _ _ _ _ _ HZ.out) ?_
   ·rfl
   ·exact⟨rfl,q6i6 HB.out (Nat.le_refl _) _⟩
theorem qdfs(kind:Int)(A:Option Addr)(n c:Nat)(l:List Pr)(id:Int)(w:World)(hl:PL w A l)(hn:l.length=n)(hN:n≤70000) :
 Calls Tryz.prog 145 #[.int .i64 kind,.slice A n c,.int .i64 id] w fun e w'=>e = .returned (.bool (qxv1 kind l id))∧Below w.heap.size w w':=by
 have GT:=qfah A n c l id w hl hn hN
 rw[qxal] at GT
 have MN:=q30m kind id
 unfold qxv1
 generalize (getP l id).1=q at *
 generalize hasP l id=b at *
 generalize quux kind id=m at *
 have GT:=Lib.hid GT
 have MN:=Lib.hid MN
 clear hl hn hN
 cases b<;>cases m<;>
 ·go_enter Tryz.func145,Tryz.ntmps145
  go_wp2_with fail
  refine(GT.out).mono ?_
  rintro e w1 ⟨rfl,hb⟩
  have HB:=Lib.hid (hb.alloc hb.size (.cells #[.int .i64 q.id,.int .u32 q.n,.string (bs q.text),.string (bs q.value)] 81))
  clear hb
  unfold qbhk
  go_wp2_with (go_at_call 175;refine(MN.out _).mono ?_;rintro e w2 ⟨rfl,hb⟩;have HB:=Lib.hid (HB.out.trans (hb.mono HB.out.size));clear hb)
  go_ret
  exact⟨rfl,HB.out⟩
theorem qjco(A:Option Addr)(n c:Nat)(l:List Pr)(w:World)(hl:PL w A l)(hn:l.length=n)(hN:n≤70000) :
 Calls Tryz.prog 146 #[.slice A n c] w fun e w'=>e = .returned (.bool (qwyx l))∧Below w.heap.size w w':=by
 have G1:=fun W (hb:Below w.heap.size w W)=>qfah A n c l 22 W (hl.below hb) hn hN
 have G2:=fun W (hb:Below w.heap.size w W)=>qfah A n c l 21 W (hl.below hb) hn hN
 rw[qxal] at G1 G2
 unfold qwyx
 generalize (getP l 22).1=q at *
 generalize (getP l 21).1=r at *
 generalize hasP l 22=b at *
 generalize hasP l 21=d at *
 have G1:=Lib.hid G1
 have G2:=Lib.hid G2
 clear hl hn hN
 cases b<;>cases d<;>
 ·go_enter Tryz.func146,Tryz.ntmps146
  go_wp2_with fail
  refine(G1.out w (Below.refl _ _)).mono ?_
  rintro e w1 ⟨rfl,hb⟩
  have HB:=Lib.hid (hb.alloc hb.size (.cells #[.int .i64 q.id,.int .u32 q.n,.string (bs q.text),.string (bs q.value)] 81))
  clear hb
  unfold qbhk
  go_wp2_with fail
  refine(G2.out _ HB.out).mono ?_
  rintro e w2 ⟨rfl,hb⟩
  have HB2:=Lib.hid (HB.out.trans (hb.mono HB.out.size))
  have HB:=Lib.hid (HB2.out.alloc HB2.out.size (.cells #[.int .i64 r.id,.int .u32 r.n,.string (bs r.text),.string (bs r.value)] 81))
  clear hb
  unfold qbhk
  go_wp2_with fail
  go_ret
  exact⟨rfl,HB.out⟩
theorem q967(kind:Int)(l:List Pr)(k:Nat)(p:Pr)(hp:l[k]? = some p):q09m kind (l.take k) (l.drop k)=if qr4y kind p≠0 then qr4y kind p else if qxv1 kind (l.take k) p.id then 9 else q09m kind (l.take (k+1)) (l.drop (k+1)):=by
 have hk:=(List.getElem?_eq_some_iff.1 hp).1
 have hd:l.drop k=p::l.drop (k+1):=by
  rw[List.drop_eq_getElem_cons hk];congr 1
  rw[List.getElem?_eq_getElem hk] at hp;exact Option.some.inj hp
 have ht:l.take (k+1)=l.take k++[p]:=by rw[List.take_add_one,hp];rfl
 rw[hd,ht,q09m]
theorem qwwa(kind:Int)(A:Option Addr)(n c:Nat)(l:List Pr)(w:World)(hl:PL w A l)(hn:l.length=n)(hc:n≤c)(hcm:c≤9223372036854775807)(hN:n≤1010)(ht:∀p∈l,p.text.length≤200000) :
 Calls Tryz.prog 102 #[.int .i64 kind,.slice A n c] w fun e w'=>e = .returned (.int .i64 ((qpyu kind l:Nat):Int))∧Below w.heap.size w w':=by
 by_cases h1:1000 < n
 ·have hV:qpyu kind l=4:=by unfold qpyu;rw[if_pos (by omega)]
  have q1:(1000:Int) < (n:Int):=by omega
  rw[hV]
  clear hl hn hc hcm hN ht h1 hV
  go_enter Tryz.func102,Tryz.ntmps102
  go_wp2_with fail
  go_ret
  exact⟨rfl,Below.refl _ _⟩
 have q1:¬(1000:Int) < (n:Int):=by omega
 obtain⟨V,hV⟩:∃V,qpyu kind l=V:=⟨_,rfl⟩
 have hV2:=hV
 unfold qpyu at hV2
 rw[if_neg (by omega)] at hV2
 rw[hV]
 have HV:=Lib.hid hV2
 have HL:=Lib.hid hl
 have HN:=Lib.hid hn
 have HT:=Lib.hid ht
 have HNN:=Lib.hid hN
 have LO:=Lib.hid (fun W (hb:Below w.heap.size w W)=>qjco A n c l W (hl.below hb) hn (by omega))
 have q2:(n:Int)≤(c:Int):=by omega
 have q3:(c:Int)≤9223372036854775807:=by omega
 have q4:(n:Int)≤1010:=by omega
 have TW:=Lib.hid (fun W (hb:Below w.heap.size w W) k id (hk:k≤n)=>qdfs kind A k c (l.take k) id W ((hl.below hb).take k) (by rw[List.length_take];omega) (by omega))
 clear hl hn hc hcm hN ht h1 hV hV2
 go_enter Tryz.func102,Tryz.ntmps102
 go_wp2_with fail
 go_loopg [5] n (fun gk s5 wx=>∃k:Nat,k≤n∧gk=n - k∧s5 = .int .i64 (k:Int)∧q09m kind (l.take k) (l.drop k)=q09m kind [] l∧(∀j p,j < k→l[j]? = some p→qr4y kind p=0)∧Below w.heap.size w wx)
 case atStart=>exact⟨0,Nat.zero_le _,rfl,rfl,rfl,fun j p h=>by omega,Below.refl _ _⟩
 case round=>
  obtain⟨k,hk,rfl,rfl,hE,hC,hB⟩:=hrel
  have HB:=Lib.hid hB
  by_cases hlt:k < n
  ·have hkl:k < l.length:=by rw[HN.out];exact hlt
   obtain⟨p,hp⟩:∃p,l[k]? = some p:=⟨_,List.getElem?_eq_getElem hkl⟩
   obtain⟨g,i,rfl,hg',c0,c1,c2,c3⟩:=(HL.out.below hB).at hp
   rw[q967 kind l k p hp] at hE
   have CK:=fun W=>q9ay kind p W (HT.out p (List.mem_of_getElem? hp))
   obtain⟨E,hEE⟩:∃E,qr4y kind p=E:=⟨_,rfl⟩
   rw[hEE] at CK hE
   have g1:(k:Int) < (n:Int):=by omega
   have g2:(k:Int)≤(c:Int):=by omega
   have g3:(0:Int)≤(k:Int):=by omega
   have MK:=Lib.hid (fun W (h:Below w.heap.size w W)=>(show W.cell? ⟨g,i+k*4,none⟩=some (.int .i64 p.id)∧Below w.heap.size w W from by
    obtain⟨g',i',e',_,d0,d1,d2,d3⟩:=(HL.out.below h).at hp
    cases e'
    exact⟨d0,h⟩))
   have CK:=Lib.hid CK
   have HEE:=Lib.hid hEE
   have HLT:=Lib.hid hlt
   have HP:=Lib.hid hp
   have HC:=Lib.hid hC
   unfold qbhk at CK
   by_cases e0:E=0
   ·subst e0
    rw[if_neg (by simp)] at hE
    have TW1:=Lib.hid (fun W hb=>TW.out W hb k p.id (by omega))
    obtain⟨b,hb⟩:∃b,qxv1 kind (l.take k) p.id=b:=⟨_,rfl⟩
    rw[hb] at hE TW1
    have HE:=Lib.hid hE
    clear hE hb hlt hk hp hkl hC hEE hg' hB
    go_wp2_with fail
    refine(CK.out _).mono ?_
    rintro e w1 ⟨rfl,hb⟩
    have hS:=MK.out w1.drew (qnpu (HB.out.trans (hb.mono HB.out.size)) 1)
    clear hb c0 c1 c2 c3
    go_wp2_with fail
    go_region_held3 (fun w'=>w'.cell? ⟨g,i+k*4,none⟩=some (.int .i64 p.id)∧Below w.heap.size w w')
     (exact hS)
     (first
      | (go_at_call 145;with_reducible refine(TW1.out _ hS.2).mono ?_;rintro e w2 ⟨rfl,hb⟩;have hS:=MK.out _ (hS.2.trans (hb.mono hS.2.size));clear hb))
    rename_i hHeld
    have HB1:=Lib.hid hS.2
    clear hHeld hS
    cases b with
    | true=>
     have hV:=HV.out
     have hE:=HE.out
     rw[if_pos rfl] at hE
     rw[←hE,if_pos (by decide)] at hV
     subst hV
     clear hE
     go_wp2_with fail
     go_ret
     exact⟨rfl,HB1.out⟩
    | false=>
     have hE:=HE.out
     rw[if_neg (by decide)] at hE
     have HE2:=Lib.hid hE
     clear hE
     go_wp2_with fail
     go_roundg (n - (k+1))
     case measure=>have:=HLT.out;omega
     case rel=>
      refine⟨k+1,by have:=HLT.out;omega,rfl,by go_num,HE2.out,fun j q hj hq=>?_,HB1.out⟩
      by_cases hjk:j=k
      ·subst hjk
       have:=hq.symm.trans HP.out
       injection this with this
       rw[this];exact HEE.out
      ·exact HC.out j q (by omega) hq
   ·have n0:(((E:Nat):Int) != 0)=true:=by rw[bne_iff_ne];omega
    rw[if_pos e0] at hE
    have HE:=Lib.hid hE
    have E0:=Lib.hid e0
    clear hE e0 hlt hk hp hkl hC hEE hg' hB
    go_wp2_with fail
    refine(CK.out _).mono ?_
    rintro e w1 ⟨rfl,hb⟩
    have HB1:=Lib.hid (HB.out.trans (hb.mono HB.out.size))
    have hV:=HV.out
    rw[←HE.out,if_pos E0.out] at hV
    subst hV
    clear hb c0 c1 c2 c3
    go_wp2_with fail
    go_ret
    exact⟨rfl,HB1.out⟩
  ·obtain rfl:k=n:=by omega
   have e1:l.take k=l:=List.take_of_length_le (by rw[HN.out];omega)
   have e2:l.drop k=[]:=List.drop_of_length_le (by rw[HN.out];omega)
   rw[e1,e2] at hE
   have h0:q09m kind [] l=0:=by rw[←hE];rfl
   have hV:=HV.out
   rw[if_neg (by simp[h0])] at hV
   have ck:∀p∈l,qr4y kind p=0:=fun p hp=>by
    obtain⟨j,hj⟩:=List.mem_iff_getElem?.1 hp
    exact hC j p (by have:=(List.getElem?_eq_some_iff.1 hj).1;rw[HN.out] at this;exact this) hj
   have BO:=Lib.hid (fun W (hb:Below w.heap.size w W)=>qp37 A k c l W (HL.out.below hb) HN.out HNN.out ck)
   have LO1:=Lib.hid (LO.out wr HB.out)
   cases hlo:qwyx l with
   | true=>
    rw[hlo] at LO1
    rw[hlo,if_pos rfl] at hV
    subst hV
    clear hE h0 ck hlo hC hB hlt hk e1 e2 BO
    go_wp2_with fail
    refine(LO1.out).mono ?_
    rintro e w1 ⟨rfl,hb⟩
    have HB1:=Lib.hid (HB.out.trans (hb.mono HB.out.size))
    clear hb
    go_wp2_with fail
    go_ret
    exact⟨rfl,HB1.out⟩
   | false=>
    rw[hlo] at LO1
    rw[hlo,if_neg (by decide)] at hV
    obtain⟨z,hz⟩:∃z,(bs (q636 l)).size=z:=⟨_,rfl⟩
    have hz2:(q636 l).length=z:=by rw[←hz,q5zk]
    rw[hz2] at hV
    have HVV:=Lib.hid hV
    have HZ:=Lib.hid hz
    clear hE h0 ck hlo hC hB hlt hk e1 e2 hV hz2
    generalize bs (q636 l)=x at *
    go_wp2_with fail
    refine(LO1.out).mono ?_
    rintro e w1 ⟨rfl,hb⟩
    have HB1:=Lib.hid (HB.out.trans (hb.mono HB.out.size))
    clear hb
    go_wp2_with fail
    refine(BO.out _ HB1.out).mono ?_
    rintro e w2 ⟨rfl,hb⟩
    have HB2:=Lib.hid (HB1.out.trans (hb.mono HB1.out.size))
    clear hb BO
    subst hz
    by_cases hb:268435455 < x.size
    ·have hV:=HVV.out
     rw[if_pos hb] at hV
     subst hV
     have q9:(268435455:Int) < (x.size:Int):=by omega
     clear hb
     go_wp2_with fail
     go_ret
     exact⟨rfl,HB2.out⟩
    ·have hV:=HVV.out
     rw[if_neg hb] at hV
     subst hV
     have q9:¬(268435455:Int) < (x.size:Int):=by omega
     clear hb
     go_wp2_with fail
     go_ret
     exact⟨rfl,HB2.out⟩
theorem q6fd(kind:Int)(A:Option Addr)(n c:Nat)(l:List Pr)(w:World)(hl:PL w A l)(hn:l.length=n)(hc:n≤c)(hcm:c≤9223372036854775807)(hN:n≤1010)(ht:∀p∈l,p.text.length≤200000) :
 Calls Tryz.prog 92 #[.int .i64 kind,.slice A n c] w fun e w'=>e = .returned (.tuple #[.string (bs (q5aq kind l).1),.int .i64 ((q5aq kind l).2:Nat)])∧Below w.heap.size w w':=by
 have VA:=qwwa kind A n c l w hl hn hc hcm hN ht
 by_cases hv:qpyu kind l=0
 ·obtain⟨v1,v2,v3,v4⟩:=qpfx hv
  have ck:∀p∈l,qr4y kind p=0:=((qrcn kind l).1 v2).1
  have BO:=Lib.hid (fun W (hb:Below w.heap.size w W)=>qp37 A n c l W (hl.below hb) hn hN ck)
  have RB:=Lib.hid (fun W=>qwha (q636 l).length W v4)
  rw[hv] at VA
  have VA:=Lib.hid VA
  have hb1:(q5aq kind l).1=vb (q636 l).length (sz (q636 l).length)++q636 l:=by unfold q5aq;rw[if_neg (by simp[hv])]
  have hb2:(q5aq kind l).2=0:=by unfold q5aq;rw[if_neg (by simp[hv])]
  have hsz:=qnl4 (q636 l).length v4
  have hs1:(bs (q636 l)).size=(q636 l).length:=q5zk _
  have n1:¬9223372036854775807 < (bs (vb (q636 l).length (sz (q636 l).length))).size+(bs (q636 l)).size:=by rw[q5zk,q5zk,q8sw];omega
  rw[hb1,hb2,←qyv7]
  rw[←hs1] at RB n1 ⊢
  generalize bs (vb ((bs (q636 l)).size:Nat) (sz ((bs (q636 l)).size:Nat)))=x2 at *
  generalize bs (q636 l)=x1 at *
  clear hl hn hc hcm hN ht hv v1 v2 v3 v4 ck hb1 hb2 hsz hs1
  go_enter Tryz.func92,Tryz.ntmps92
  go_wp2_with fail
  refine(VA.out).mono ?_
  rintro e w1 ⟨rfl,hb⟩
  have HB:=Lib.hid hb
  clear hb
  go_wp2_with fail
  refine(BO.out _ HB.out).mono ?_
  rintro e w2 ⟨rfl,hb⟩
  have HB:=Lib.hid (HB.out.trans (hb.mono HB.out.size))
  clear hb
  go_wp2_with fail
  refine(RB.out _).mono ?_
  rintro e w3 ⟨rfl,hb⟩
  have HB:=Lib.hid (HB.out.trans (hb.mono HB.out.size))
  clear hb
  go_wp2_with fail
  go_ret2
  exact⟨rfl,HB.out⟩
 ·have hb1:q5aq kind l=([],qpyu kind l):=by unfold q5aq;rw[if_pos hv]
  rw[hb1]
  generalize qpyu kind l=V at *
  have q1:(((V:Nat):Int) != 0)=true:=by rw[bne_iff_ne];omega
  have VA:=Lib.hid VA
  clear hl hn hc hcm hN ht hv hb1
  go_enter Tryz.func92,Tryz.ntmps92
  go_wp2_with fail
  refine(VA.out).mono ?_
  rintro e w1 ⟨rfl,hb⟩
  have HB:=Lib.hid hb
  clear hb
  go_wp2_with fail
  go_ret2
  exact⟨rfl,HB.out⟩
theorem qyet(v:Int)(w:World):Calls Tryz.prog 57 #[.int .i64 v] w fun e w'=>e = .returned (.bool (versC v))∧w=w':=by
 unfold versC
 by_cases h4:v=4
 ·subst h4
  go_enter Tryz.func57,Tryz.ntmps57
  go_wp2
  go_ret
  exact⟨rfl,rfl⟩
 ·have e4:(v==4)=false:=beq_eq_false_iff_ne.2 h4
  rw[e4]
  go_enter Tryz.func57,Tryz.ntmps57
  go_wp2
  go_ret
  exact⟨rfl,rfl⟩
structure FewP(w:World)(A:Option Addr)(n c:Nat)(l:List Pr):Prop where
 at':PL w A l
 len:l.length=n
 cap:n≤c
 capm:c≤9223372036854775807
 few:n≤1010
 small:∀p∈l,p.text.length≤200000
theorem FewP.below{w w':World}{A:Option Addr}{n c:Nat}{l:List Pr}(h:FewP w A n c l)(hb:Below w.heap.size w w'):FewP w' A n c l:=⟨h.at'.below hb,h.len,h.cap,h.capm,h.few,h.small⟩
theorem q8yx(v kind:Int)(A:Option Addr)(n c:Nat)(l:List Pr)(w:World)(h:FewP w A n c l)(hv:v=4∨v=5):Calls Tryz.prog 55 #[.int .i64 v,.int .i64 kind,.slice A n c] w fun e w'=>e = .returned (.string (bs (qasq v kind l)))∧Below w.heap.size w w':=by
 have B:=Lib.hid (q6fd kind A n c l w h.at' h.len h.cap h.capm h.few h.small)
 clear h
 rcases hv with rfl | rfl
 ·clear B
  have LO:=Lib.hid (Below.refl w.heap.size w)
  rw[show qasq 4 kind l=[] from rfl]
  go_enter Tryz.func55,Tryz.ntmps55
  go_wp2
  go_ret
  exact⟨rfl,LO.out⟩
 ·rw[show qasq 5 kind l=(q5aq kind l).1 from rfl]
  go_enter Tryz.func55,Tryz.ntmps55
  go_wp2_with fail
  refine(B.out).mono ?_
  rintro e W ⟨rfl,hb⟩
  go_wp2_with fail
  go_ret
  exact⟨rfl,hb⟩
theorem q0km(v kind:Int)(A:Option Addr)(n c:Nat)(l:List Pr)(w:World)(h:FewP w A n c l)(hv:v=4∨v=5)(h4:v=4→l=[]):Calls Tryz.prog 68 #[.int .i64 v,.int .i64 kind,.slice A n c] w fun e w'=>e = .returned (.int .i64 ((qfk9 v kind l:Nat):Int))∧Below w.heap.size w w':=by
 have B:=Lib.hid (qwwa kind A n c l w h.at' h.len h.cap h.capm h.few h.small)
 have hn:n=l.length:=h.len.symm
 clear h
 rcases hv with rfl | rfl
 ·rw[h4 rfl] at hn
  obtain rfl:n=0:=hn
  clear B h4
  have LO:=Lib.hid (Below.refl w.heap.size w)
  rw[show qfk9 4 kind l=0 from rfl]
  go_enter Tryz.func68,Tryz.ntmps68
  go_wp2
  go_ret
  exact⟨rfl,LO.out⟩
 ·rw[show qfk9 5 kind l=qpyu kind l from rfl]
  clear h4 hn
  go_enter Tryz.func68,Tryz.ntmps68
  go_wp2_with fail
  refine(B.out).mono ?_
  rintro e W ⟨rfl,hb⟩
  go_wp2_with fail
  go_ret
  exact⟨rfl,hb⟩
theorem qqjl(xn:Nat)(hx:xn < 256)(r:List UInt8):PrOk (qij7 xn r).1:=by
 have hnum:∀c,c≤4→PrOk (numP xn c r).1:=fun c hc=>by
  unfold numP
  split
  ·exact⟨by show _≤(xn:Int);omega,by show(xn:Int)≤_;omega,by show 0 < 4294967296;decide,Nat.zero_le _,Nat.zero_le _⟩
  ·refine⟨by show _≤(xn:Int);omega,by show(xn:Int)≤_;omega,?_,Nat.zero_le _,Nat.zero_le _⟩
   have h1:=qn9h (r.take c)
   have h2:256^(r.take c).length≤256^4:=Nat.pow_le_pow_right (by decide) (by rw[List.length_take];omega)
   have h3:256^4=4294967296:=by decide
   show num _ < _
   omega
 have htx:∀d q,(q91e d q).1.length≤65535:=fun d q=>by
  have h:=(q3gm q).2
  rcases q7jb d q with ⟨_,h2⟩ | ⟨_,_,_,h2⟩ | ⟨_,_,h2⟩
  ·rw[h2];exact Nat.zero_le _
  ·rw[h2];exact Nat.zero_le _
  ·rw[h2];exact h
 have hz:PrOk ⟨(xn:Int),0,[],[]⟩:=⟨by show _≤(xn:Int);omega,by show(xn:Int)≤_;omega,by show 0 < 4294967296;decide,Nat.zero_le _,Nat.zero_le _⟩
 have mk:∀(n:Nat) (a b:List UInt8),n < 4294967296→a.length≤65535→b.length≤65535→PrOk ⟨(xn:Int),n,a,b⟩:=fun n a b h1 h2 h3=>⟨by show _≤(xn:Int);omega,by show(xn:Int)≤_;omega,h1,by show a.length≤_;omega,by show b.length≤_;omega⟩
 unfold qij7
 split
 ·exact hnum 1 (by decide)
 split
 ·exact hnum 2 (by decide)
 split
 ·exact hnum 4 (by decide)
 split
 ·split
  ·exact hz
  ·have:=(qips r).2.1;exact mk _ _ _ (by omega) (by decide) (by decide)
 split
 ·split
  ·exact hz
  split
  ·exact hz
  ·exact mk _ _ _ (by decide) (htx _ _) (htx _ _)
 split
 ·exact hz
 ·exact mk _ _ _ (by decide) (htx _ _) (by decide)
theorem qwhy{W:World}{v:Value}{base nA g i m c:Nat}{L M:List Pr}(ty:TypeId)(hown:W.ownsRow base 81 4 v nA (pcs L))(hM:PL W (some ⟨g,i,none⟩) M)(hm:M.length=m)(hn:nA+m≤3000)(hb:base≤W.heap.size) :
 ∃v' w',(Builtin.append_ #[23,23] ty #[v,.slice (some ⟨g,i,none⟩) m c]).run Tryz.prog W = .ok v' w'∧w'.ownsRow base 81 4 v' (nA+m) (pcs (L++M))∧Below base W w'∧W.grownBy w' v.ownBlock:=by
 obtain⟨i0,hi,hz0,hz1,hz2⟩:=info_parts qvch
 obtain⟨v',w',hr,h2,h3,_,_⟩:=run_append_own_at (P:=Tryz.prog) W base 23 ty 81 i0 (.agg #[.int .i64 0,.int .u32 0,.string .empty,.string .empty]) 4 48 Tryz.underlying23 hi hz0 hz1 hz2 rfl (by decide) v nA (pcs L) hown ⟨g,i,none⟩ m c (pcs M) (by rw[qv9d,hm]) hM.cells (qtvz M) (by simp only[maxLen];omega) (by omega) hb
 rw[←qdoo] at h2
 exact⟨v',w',hr,h2,q58f hown h3 hb,h3⟩
theorem qqad{W:World}{ops:Array Oper}{o:Oper}{a:Act}{K:Act→World→Prop}{Q:Exit→Act→World→Prop}{E:Prop}(hgd:o.guard=none)(s x:Operand)
 (ho:o.op = .call {callee := .builtin .append,args:=#[s,x],argTypes:=#[23,23]})
 {v:Value} {base nA g i m c:Nat} {L M:List Pr} (hs:a.eval s=v) (hx:a.eval x = .slice (some ⟨g,i,none⟩) m c) (hown:W.ownsRow base 81 4 v nA (pcs L)) (hM:PL W (some ⟨g,i,none⟩) M) (hm:M.length=m) (hn:nA+m≤3000) (hb:base≤W.heap.size)
 (h:∀v' w',w'.ownsRow base 81 4 v' (nA+m) (pcs (L++M))→Below base W w'→W.grownBy w' v.ownBlock→K (a.put o.dst v') w'):if Region.wanted o (yielded ops a.tmps)=true then Oper.wp Tryz.prog o a W K Q else E:=by
 have hw:Region.wanted o (yielded ops a.tmps)=true:=by simp[Region.wanted,hgd]
 rw[if_pos hw]
 obtain⟨v',w',hr,h2,h3,h4⟩:=qwhy o.type hown hM hm hn hb
 exact q2qx s x _ ho hs hx hr (h v' w' h2 h3 h4)
structure RfB(w:World)(kind:Int)(R:List Pr×Nat)(out:List Pr)(f:Nat)(lv:ByteArray)(v:Value)(W:World):Prop where
 own:W.ownsRow w.heap.size 81 4 v out.length (pcs out)
 low:Below w.heap.size w W
 len:out.length≤1000
 ok:∀p∈out,PrOk p
 eq:R=qwdr kind f out lv.data.toList
 fu:lv.size≤f
 sz:lv.size≤2000
theorem qx1z(xn:Nat)(r:List UInt8):(qij7 xn r).1.text.length≤70000:=by
 have htx:∀d q,(q91e d q).1.length≤70000:=fun d q=>by
  have h:=(q3gm q).2
  rcases q7jb d q with ⟨_,h2⟩ | ⟨_,_,_,h2⟩ | ⟨_,_,h2⟩
  ·rw[h2];exact Nat.zero_le _
  ·rw[h2];exact Nat.zero_le _
  ·rw[h2];exact Nat.le_trans h (by decide)
 have hnum:∀c,(numP xn c r).1.text.length≤70000:=fun c=>by unfold numP;split<;>exact Nat.zero_le _
 unfold qij7
 repeat' split
 all_goals first | exact hnum _ | exact Nat.zero_le _ | exact htx _ _
theorem RfB.end{w W:World}{kind:Int}{R:List Pr×Nat}{out:List Pr}{f V:Nat}{lv:ByteArray}{v:Value}{x:UInt8}{r:List UInt8}(h:RfB w kind R out f lv v W)(hx:lv.data.toList=x::r)
 (hE:(if qzyg kind out x r≠0 then qzyg kind out x r else if 1000≤out.length then 4 else 0)=V) (h0:V≠0):R=([],V):=by
 have hf:=h.fu
 rw[q4ad,hx,List.length_cons] at hf
 obtain⟨g,rfl⟩:∃g,f=g+1:=⟨f - 1,by omega⟩
 rw[h.eq,hx,q4zj]
 by_cases h1:qzyg kind out x r≠0
 ·rw[if_pos h1] at hE ⊢;rw[hE]
 ·rw[if_neg h1] at hE ⊢
  by_cases h2:1000≤out.length
  ·rw[if_pos h2] at hE ⊢;rw[hE]
  ·rw[if_neg h2] at hE;exact absurd hE.symm h0
theorem RfB.next{w W W':World}{kind:Int}{R:List Pr×Nat}{out:List Pr}{f k:Nat}{lv:ByteArray}{v v':Value}{x:UInt8}{r:List UInt8}{p:Pr}(h:RfB w kind R out f lv v W)(hx:lv.data.toList=x::r)
 (hE:qzyg kind out x r=0) (hl:¬1000≤out.length) (hp:p=(qij7 x.toNat r).1) (hk:k=1+(qij7 x.toNat r).2.1) (hkr:(qij7 x.toNat r).2.1≤r.length) (ok:PrOk p)
 (ho:W'.ownsRow w.heap.size 81 4 v' (out.length+1) (pcs (out++[p]))) (hb:Below w.heap.size w W'):∃f,RfB w kind R (out++[p]) f (lv.extract k lv.size) v' W'∧(lv.extract k lv.size).size < lv.size:=by
 have hf:=h.fu
 rw[q4ad,hx,List.length_cons] at hf
 obtain⟨g,rfl⟩:∃g,f=g+1:=⟨f - 1,by omega⟩
 have he:=h.eq
 rw[hx,q4zj,if_neg (by simp[hE]),if_neg hl] at he
 have hd:(lv.extract k lv.size).data.toList=r.drop (qij7 x.toNat r).2.1:=by
  rw[qh3u,hx,hk,Nat.add_comm,List.drop_succ_cons]
 have hs:(lv.extract k lv.size).size=r.length - (qij7 x.toNat r).2.1:=by rw[q4ad,hd,List.length_drop]
 have hlv:lv.size=r.length+1:=by rw[q4ad,hx,List.length_cons]
 refine⟨g,⟨by rw[List.length_append];exact ho,hb,by rw[List.length_append];simp;omega,?_,?_,by omega,by have:=h.sz;omega⟩,by omega⟩
 ·intro q hq
  rcases List.mem_append.1 hq with hq | hq
  ·exact h.ok q hq
  ·rw[List.mem_singleton.1 hq];exact ok
 ·rw[hd,hp];exact he
theorem qwqg(kind:Int)(s:ByteArray)(w:World)(hm:s.size≤2000)(hk0:-9223372036854775808≤kind)(hk1:kind≤9223372036854775807) :
 Calls Tryz.prog 95 #[.int .i64 kind,.string s] w (PrdP w (qflw kind s.data.toList)):=by
 have RD:=qtpo s w (by omega)
 unfold qwlf q51h at RD
 obtain⟨Q,hQ⟩:∃Q,qflw kind s.data.toList=Q:=⟨_,rfl⟩
 have hQ2:=hQ
 unfold qflw at hQ2
 rw[hQ]
 obtain⟨f1,f2,f3⟩:=qips s.data.toList
 have hsz:s.data.toList.length=s.size:=by rw[q4ad]
 obtain⟨n,hn⟩:∃n,rdN s.data.toList=n:=⟨_,rfl⟩
 obtain⟨v,hv⟩:∃n,rdV s.data.toList=n:=⟨_,rfl⟩
 obtain⟨z,hz⟩:∃n,rdE s.data.toList=n:=⟨_,rfl⟩
 rw[hn,hv,hz] at RD hQ2
 rw[hn,hv,hz] at f3
 rw[hn,hsz] at f1
 rw[hv] at f2
 rw[hsz] at hQ2
 by_cases h0:z=0
 ·subst h0
  rw[if_neg (by simp)] at hQ2
  obtain⟨y,hy⟩:∃y,s.size - n=y:=⟨_,rfl⟩
  have q1:IntKind.i64.wrap ((s.size:Int) - (n:Int))=(y:Int):=by simp only[IntKind.wrap_i64];omega
  by_cases h1:s.size < n+v
  ·rw[if_pos h1] at hQ2
   have q2:(y:Int) < (v:Int):=by omega
   have HQ:=Lib.hid hQ2
   have HR:=Lib.hid RD
   clear RD hQ hQ2 f1 f2 f3 hsz hn hv hz hy h1 hm hk0 hk1
   go_enter Tryz.func95,Tryz.ntmps95
   go_wp2_with fail
   refine(HR.out).mono ?_
   rintro e w1 ⟨rfl,rfl⟩
   go_wp2_with fail
   go_ret3
   exact PrdP.none (Below.refl _ _) HQ.out.symm
  ·rw[if_neg h1] at hQ2
   have q2:¬(y:Int) < (v:Int):=by omega
   obtain⟨t,ht⟩:∃t,n+v=t:=⟨_,rfl⟩
   have q3:IntKind.i64.wrap ((n:Int)+(v:Int))=(t:Int):=by simp only[IntKind.wrap_i64];omega
   have q4:(n:Int)≤(t:Int):=by omega
   have q5:(t:Int)≤(s.size:Int):=by omega
   have q6:(0:Int)≤(n:Int):=by omega
   have he:(s.extract n t).data.toList=(s.data.toList.drop n).take v:=by
    rw[←ht];simp[List.extract_eq_take_drop]
   have hes:(s.extract n t).size=v:=by
    rw[q4ad,he,List.length_take,List.length_drop,hsz];omega
   obtain⟨R,hR⟩:∃R,qwdr kind v [] ((s.data.toList.drop n).take v)=R:=⟨_,rfl⟩
   rw[hR] at hQ2
   have I0:RfB w kind R [] v (s.extract n t) (.slice none 0 0) w:=⟨World.ownsRow_nil _ _ _ _,Below.refl _ _,Nat.zero_le _,fun p h=>(by cases h),by rw[he];exact hR.symm,by omega,by omega⟩
   have HQ:=Lib.hid hQ2
   have HR:=Lib.hid RD
   have HT:=Lib.hid ht
   have I0:=Lib.hid I0
   have K0:=Lib.hid hk0
   have K1:=Lib.hid hk1
   clear RD hQ hQ2 f1 f2 f3 hsz hn hv hz hy h1 hm hk0 hk1 he hes ht hR
   go_enter Tryz.func95,Tryz.ntmps95
   go_wp2_with fail
   refine(HR.out).mono ?_
   rintro e w1 ⟨rfl,rfl⟩
   go_wp2_with fail
   generalize s.extract n t=lv0 at *
   have bq:decide (y < v)=false:=decide_eq_false (by omega)
   rw[bq]
   clear bq
   go_loopg [10,11] lv0.size (fun gk s10 s11 wx=>∃(out:List Pr) (f:Nat) (lv:ByteArray),gk=lv.size∧s11 = .string lv∧RfB w kind R out f lv s10 wx)
   case atStart=>exact⟨[],v,lv0,rfl,rfl,I0.out⟩
   case round=>
    obtain⟨out,f,lv,rfl,rfl,hI⟩:=hrel
    clear q2
    obtain⟨m,hmm⟩:∃m,out.length=m:=⟨_,rfl⟩
    have own':=hI.own
    rw[hmm] at own'
    obtain⟨A,c,rfl,hcc,hP,_⟩:=PL.owned own' hmm.symm
    have I:=Lib.hid hI
    have HP:=Lib.hid hP
    have HL:=Lib.hid hI.len
    have HM:=Lib.hid hmm
    clear hI hP hcc I0 own'
    cases hx:lv.data.toList with
    | nil=>
     have hlv:lv=⟨#[]⟩:=by rw[←qhho lv,hx];rfl
     subst hlv
     have hRR:R=(out,0):=by rw[I.out.eq];show qwdr kind f out []=_;exact qrvb _ _ _
     have hq:=HQ.out
     rw[hRR] at hq
     simp only[ne_eq,not_true_eq_false,if_false] at hq
     have LO:=qjco A m c out wr HP.out hmm (by have:=HL.out;omega)
     obtain⟨b,hb⟩:∃b,qwyx out=b:=⟨_,rfl⟩
     rw[hb] at hq LO
     have LO:=Lib.hid LO
     have HQ2:=Lib.hid hq
     clear hx hRR hq hb hmm
     cases b with
     | true=>
      go_wp2_with fail
      refine(LO.out).mono ?_
      rintro e w2 ⟨rfl,hb⟩
      have HB:=Lib.hid (I.out.low.trans (hb.mono I.out.low.size))
      clear hb
      go_wp2_with fail
      go_ret3
      have hq:=HQ2.out
      (try simp only[if_true] at hq)
      exact PrdP.none HB.out hq.symm
     | false=>
      go_wp2_with fail
      refine(LO.out).mono ?_
      rintro e w2 ⟨rfl,hb⟩
      have HB:=Lib.hid (I.out.low.trans (hb.mono I.out.low.size))
      have OW:=Lib.hid (qzd3 I.out.own hb)
      clear hb
      go_wp2_with fail
      go_ret3
      have hq:=HQ2.out
      (try simp only[Bool.false_eq_true,if_false] at hq)
      rw[HT.out] at hq
      subst hq
      refine⟨HB.out,I.out.ok,HL.out,_,rfl,?_⟩
      exact OW.out
    | cons x r=>
     have hls:lv.size=r.length+1:=by rw[q4ad,hx,List.length_cons]
     have h0:0 < lv.size:=by omega
     have hlx:lv[0]'h0=x:=by
      have e:lv.data.toList[0]? = some (lv[0]'h0):=by rw[List.getElem?_eq_getElem (by rw[←q4ad];exact h0)];rfl
      rw[hx] at e
      exact(Option.some.inj e).symm
     obtain⟨xn,hxn⟩:∃xn,x.toNat=xn:=⟨_,rfl⟩
     have hxx:(((lv[0]'h0).toNat:Nat):Int)=((xn:Nat):Int):=by rw[hlx,hxn]
     have hxl:=x.toNat_lt
     have wx:IntKind.i64.wrap ((xn:Nat):Int)=((xn:Nat):Int):=by simp only[IntKind.wrap_i64];omega
     have k1:(lv.toList==[])=false:=by rw[qrze,hx];rfl
     have k2:lv.toList.isEmpty=false:=by rw[qrze,hx];rfl
     have g0:(0:Int) < (lv.size:Int):=by omega
     have e0:¬lv=ByteArray.empty:=fun e=>by rw[e] at h0;exact absurd h0 (by decide)
     have MY:=q9my kind xn
     have hsz7:lv.size≤70000:=by have:=I.out.sz;omega
     obtain⟨M,hM⟩:∃M,mayP kind xn=M:=⟨_,rfl⟩
     rw[hM] at MY
     have MY:=Lib.hid MY
     have HX:=Lib.hid hx
     have HXN:=Lib.hid hxn
     cases M with
     | false=>
      have hRR:R=([],9):=I.out.end (V:=9) hx (by unfold qzyg;rw[hxn,if_pos hM];rfl) (by decide)
      have hq:=HQ.out
      rw[hRR] at hq
      simp only[ne_eq,show ¬(9:Nat)=0 by decide,not_false_eq_true,if_true] at hq
      have HQ2:=Lib.hid hq
      clear hRR hq hx hls hlx hxn hxl hsz7 hM hmm
      go_wp2_with fail
      refine(MY.out _).mono ?_
      rintro e w2 ⟨rfl,hb⟩
      have HB:=Lib.hid (I.out.low.trans (hb.mono I.out.low.size))
      clear hb
      go_wp2_with fail
      go_ret3
      exact PrdP.none HB.out HQ2.out.symm
     | true=>
      have row:=qznl hM
      have NX:=Lib.hid (fun W=>qvny lv x r hx hsz7 (by rw[hxn];exact row.1) (by rw[hxn];exact row.2.1) W)
      have HMM:=Lib.hid hM
      have HLS:=Lib.hid hls
      clear hx hls hlx hxn hxl hsz7 hM hmm row
      go_wp2_with fail
      refine(MY.out _).mono ?_
      rintro e w2 ⟨rfl,hb⟩
      have HB:=Lib.hid (I.out.low.trans (hb.mono I.out.low.size))
      have OW:=Lib.hid (qzd3 I.out.own hb)
      have HWW:=Lib.hid hb
      clear hb k1 k2
      go_wp2_with fail
      refine(NX.out _).mono ?_
      rintro e w3 ⟨p,n',E,rfl,hb,hE,hok⟩
      have HB:=Lib.hid (HB.out.trans (hb.mono HB.out.size))
      have OW:=Lib.hid (qzd3 OW.out hb)
      have HWW:=Lib.hid (HWW.out.trans (hb.mono HWW.out.size))
      have W3S:=Lib.hid HWW.out.size
      have HE:=Lib.hid hE
      have HO:=Lib.hid hok
      clear hb hE hok NX g0 e0 wx hxx
      unfold qbhk
      by_cases z0:E=0
      ·subst z0
       obtain⟨hp1,hp2,hp3⟩:=HO.out rfl
       have hid:p.id=(xn:Int):=by rw[hp1,HXN.out];exact qdd2 _ _
       have ok:PrOk p:=by rw[hp1,HXN.out];exact qqjl xn (by rw[←HXN.out];exact x.toNat_lt) r
       obtain⟨kk,hkk⟩:∃kk,1+(qij7 x.toNat r).2.1=kk:=⟨_,rfl⟩
       rw[hkk] at hp2
       subst hp2
       have hst:qzyg kind out x r=qx3j kind out p:=by
        unfold qzyg
        rw[hp1,HXN.out,if_neg (by rw[HMM.out];decide),if_neg (by rw[←HXN.out,←HE.out];decide)]
       obtain⟨C,hC⟩:∃C,qr4y kind p=C:=⟨_,rfl⟩
       have CK:=fun W=>q9ay kind p W (by
        have h1:=(q3gm r).2
        have:=(qqjl xn (by rw[←HXN.out];exact x.toNat_lt) r)
        have h2:p.text.length≤70000:=by rw[hp1,HXN.out];exact qx1z xn r
        omega)
       rw[hC] at CK
       unfold qbhk at CK
       have CK:=Lib.hid CK
       have HST:=Lib.hid hst
       have OKP:=Lib.hid ok
       have HID:=Lib.hid hid
       have HP1:=Lib.hid hp1
       have HP3:=Lib.hid hp3
       have HKK:=Lib.hid hkk
       have HC:=Lib.hid hC
       have PB:=Lib.hid (heap_alloc_new w3 (.cells #[.int .i64 p.id,.int .u32 p.n,.string (bs p.text),.string (bs p.value)] 81))
       have HB:=Lib.hid (HB.out.alloc HB.out.size (.cells #[.int .i64 p.id,.int .u32 p.n,.string (bs p.text),.string (bs p.value)] 81))
       have OW:=Lib.hid (OW.out.alloc (.cells #[.int .i64 p.id,.int .u32 p.n,.string (bs p.text),.string (bs p.value)] 81))
       have HWW:=Lib.hid (HWW.out.alloc HWW.out.size (.cells #[.int .i64 p.id,.int .u32 p.n,.string (bs p.text),.string (bs p.value)] 81))
       clear hp1 hp3 hid ok hkk hst hC HO
       by_cases c0':C=0
       ·subst c0'
        obtain⟨b,hb⟩:∃b,qxv1 kind out p.id=b:=⟨_,rfl⟩
        have TW:=Lib.hid (fun W (h:Below wr.heap.size wr W)=>qdfs kind A m c out p.id W (HP.out.below h) HM.out (by have:=HL.out;rw[HM.out] at this;omega))
        rw[hb] at TW
        have HTW:=Lib.hid hb
        clear hb
        go_wp2_with fail
        refine(CK.out _).mono ?_
        rintro e w4 ⟨rfl,hb⟩
        have HB:=Lib.hid (HB.out.trans (hb.mono HB.out.size))
        have OW:=Lib.hid (qzd3 OW.out hb)
        have PB:=Lib.hid ((hb.block _ (lt_of_block PB.out)).trans PB.out)
        have HW:=Lib.hid (HWW.out.trans (hb.mono HWW.out.size))
        clear hb
        have d0:=cell_of_row _ w3.heap.size 0 _ _ _ PB.out
        go_wp2_with fail
        refine(TW.out _ HW.out).mono ?_
        rintro e w5 ⟨rfl,hb⟩
        have HB:=Lib.hid (HB.out.trans (hb.mono HB.out.size))
        have OW:=Lib.hid (qzd3 OW.out hb)
        have PB:=Lib.hid ((hb.block _ (lt_of_block PB.out)).trans PB.out)
        clear hb d0
        have TC:qx3j kind out p=if b=true then 9 else 0:=by
         unfold qx3j
         rw[HC.out,if_neg (by simp),HTW.out]
        have TCH:=Lib.hid TC
        clear TC
        cases b with
        | true=>
         have hRR:R=([],9):=I.out.end (V:=9) HX.out (by rw[HST.out,TCH.out];rfl) (by decide)
         have hq:=HQ.out
         rw[hRR] at hq
         simp only[ne_eq,show ¬(9:Nat)=0 by decide,not_false_eq_true,if_true] at hq
         have HQ2:=Lib.hid hq
         clear hRR hq
         go_wp2_with fail
         go_ret3
         exact PrdP.none HB.out HQ2.out.symm
        | false=>
         by_cases h1000:1000≤m
         ·have q9:(1000:Int)≤(m:Int):=by omega
          have H1:=Lib.hid h1000
          clear h1000
          have hRR:R=([],4):=I.out.end (V:=4) HX.out (by rw[HST.out,TCH.out];show(if (0:Nat)≠0 then _ else _)=4;rw[if_neg (by decide),HM.out,if_pos H1.out]) (by decide)
          have hq:=HQ.out
          rw[hRR] at hq
          simp only[ne_eq,show ¬(4:Nat)=0 by decide,not_false_eq_true,if_true] at hq
          have HQ2:=Lib.hid hq
          clear hRR hq
          go_wp2_with fail
          go_ret3
          exact PrdP.none HB.out HQ2.out.symm
         ·have q9:¬(1000:Int)≤(m:Int):=by omega
          have H1:=Lib.hid h1000
          have q7:(kk:Int)≤(lv.size:Int):=by have:=HKK.out;have:=HP3.out;have:=HLS.out;omega
          have q8:(0:Int)≤(kk:Int):=by omega
          have PA:PL (w5.alloc (.cells #[.int .i64 p.id,.int .u32 p.n,.string (bs p.text),.string (bs p.value)] 81)).drew (some ⟨w5.heap.size,0,none⟩) [p]:=PL.made w5 [p] _ _ rfl
          have OA:=Lib.hid (OW.out.alloc (.cells #[.int .i64 p.id,.int .u32 p.n,.string (bs p.text),.string (bs p.value)] 81)).drew
          have PA:=Lib.hid PA
          have BA:=Lib.hid (qnpu (HB.out.alloc HB.out.size (.cells #[.int .i64 p.id,.int .u32 p.n,.string (bs p.text),.string (bs p.value)] 81)) 1)
          have N3:=Lib.hid (show out.length+1≤3000 by rw[HM.out];omega)
          have PBK:=Lib.hid (fun W (h:Below w5.heap.size w5 W)=>(h.block _ (lt_of_block PB.out)).trans PB.out)
          have MK:=Lib.hid (fun W (h:Below w.heap.size w W) (h2:W.heap[w3.heap.size]? = some (.cells #[.int .i64 p.id,.int .u32 p.n,.string (bs p.text),.string (bs p.value)] 81 (0,0)))=>(show W.cell? ⟨w3.heap.size,0,none⟩=some (.int .i64 p.id)∧W.cell? ⟨w3.heap.size,1,none⟩=some (.int .u32 p.n)∧W.cell? ⟨w3.heap.size,2,none⟩=some (.string (bs p.text))∧W.cell? ⟨w3.heap.size,3,none⟩=some (.string (bs p.value))∧Below w.heap.size w W from
           ⟨cell_of_row _ _ _ _ _ _ h2,cell_of_row _ _ _ _ _ _ h2,cell_of_row _ _ _ _ _ _ h2,cell_of_row _ _ _ _ _ _ h2,h⟩))
          have hS:=MK.out w5.drew (qnpu HB.out 1) PB.out
          have hA0:=MK.out (w5.alloc (.cells #[.int .i64 p.id,.int .u32 p.n,.string (bs p.text),.string (bs p.value)] 81)).drew BA.out ((heap_alloc_old w5 (.cells #[.int .i64 p.id,.int .u32 p.n,.string (bs p.text),.string (bs p.value)] 81) (lt_of_block PB.out)).trans PB.out)
          have HA0:=Lib.hid hA0
          have GN:=Lib.hid (fun W (h:(w5.alloc (.cells #[.int .i64 p.id,.int .u32 p.n,.string (bs p.text),.string (bs p.value)] 81)).drew.grownBy W (Value.slice A m c).ownBlock)=>(show W.heap[w3.heap.size]? = some (.cells #[.int .i64 p.id,.int .u32 p.n,.string (bs p.text),.string (bs p.value)] 81 (0,0)) from
           (h.block w3.heap.size (by show _ < (w5.alloc _).heap.size;rw[World.size_alloc];have:=lt_of_block PB.out;omega) (fun e=>by have:=(I.out.own.lt _ e.symm).2;have:=W3S.out;omega)).trans ((heap_alloc_old w5 (.cells #[.int .i64 p.id,.int .u32 p.n,.string (bs p.text),.string (bs p.value)] 81) (lt_of_block PB.out)).trans PB.out)))
          clear hA0 h1000
          go_wp2_with fail
          go_region_held3 (fun w'=>w'.cell? ⟨w3.heap.size,0,none⟩=some (.int .i64 p.id)∧w'.cell? ⟨w3.heap.size,1,none⟩=some (.int .u32 p.n)∧w'.cell? ⟨w3.heap.size,2,none⟩=some (.string (bs p.text))∧w'.cell? ⟨w3.heap.size,3,none⟩=some (.string (bs p.value))∧Below w.heap.size w w')
           (first | exact hS | exact HA0.out)
           (first
            | (refine qqad (by rfl) _ _ (by rfl) (by rfl) (by rfl) OA.out PA.out rfl N3.out BA.out.size ?_;intro v6 w6 ho6 hb6 hg6;have hS:=MK.out _ (BA.out.trans hb6) (GN.out _ hg6)))
          rename_i hHeld
          have HB6:=Lib.hid hS.2.2.2.2
          have HO6:=Lib.hid ho6
          clear hHeld hS ho6 hb6 hg6
          go_wp2_with fail
          obtain⟨f',hF,hlt⟩:=I.out.next HX.out (by rw[HST.out,TCH.out];rfl) (by rw[HM.out];exact H1.out) HP1.out HKK.out.symm HP3.out OKP.out HO6.out HB6.out
          go_roundg (lv.extract kk lv.size).size
          case measure=>exact hlt
          case rel=>exact⟨_,f',_,rfl,rfl,hF⟩
       ·have n0:(((C:Nat):Int) != 0)=true:=by rw[bne_iff_ne];omega
        have n1:(((C:Nat):Int)==0)=false:=by rw[beq_eq_false_iff_ne];omega
        have hRR:R=([],C):=I.out.end (V:=C) HX.out (by
         have h2:qzyg kind out x r=C:=by
          rw[HST.out];unfold qx3j;rw[HC.out,if_pos c0']
         rw[h2,if_pos c0']) c0'
        have hq:=HQ.out
        rw[hRR] at hq
        simp only[ne_eq,c0',not_false_eq_true,if_true] at hq
        have HQ2:=Lib.hid hq
        clear hRR hq c0'
        go_wp2_with fail
        refine(CK.out _).mono ?_
        rintro e w4 ⟨rfl,hb⟩
        have HB:=Lib.hid (HB.out.trans (hb.mono HB.out.size))
        clear hb
        go_wp2_with fail
        go_ret3
        exact PrdP.none HB.out HQ2.out.symm
      ·have n0:(((E:Nat):Int) != 0)=true:=by rw[bne_iff_ne];omega
       have n1:(((E:Nat):Int)==0)=false:=by rw[beq_eq_false_iff_ne];omega
       have hRR:R=([],E):=I.out.end (V:=E) HX.out (by
        have h2:qzyg kind out x r=E:=by
         unfold qzyg;rw[HXN.out] at HE ⊢;rw[if_neg (by rw[HMM.out];decide),←HE.out,if_pos z0]
        rw[h2,if_pos z0]) z0
       have hq:=HQ.out
       rw[hRR] at hq
       simp only[ne_eq,z0,not_false_eq_true,if_true] at hq
       have HQ2:=Lib.hid hq
       clear hRR hq z0
       go_wp2_with fail
       go_ret3
       exact PrdP.none (HB.out.alloc HB.out.size _) HQ2.out.symm
 ·have q1:(((z:Nat):Int) != 0)=true:=by simp;exact h0
  rw[if_pos h0] at hQ2
  have HQ:=Lib.hid hQ2
  have HR:=Lib.hid RD
  clear RD hQ hQ2 f1 f2 f3 hsz hn hv hz h0 hm hk0 hk1
  go_enter Tryz.func95,Tryz.ntmps95
  go_wp2_with fail
  refine(HR.out).mono ?_
  rintro e w1 ⟨rfl,rfl⟩
  go_wp2_with fail
  go_ret3
  exact PrdP.none (Below.refl _ _) HQ.out.symm
theorem qtrv{W:World}{base n c:Nat}{A:Option Addr}{l:List Value}{t:TypeId}(h:W.ownsRow base t 4 (.slice A n c) n l):c≤9223372036854775807:=by
 rcases h.2 with ⟨e,_⟩ | ⟨g,cap,cur,e,_,_,_,hm,_⟩
 ·cases e;exact Nat.zero_le _
 ·cases e;unfold maxLen at hm;omega
section
variable{w W W':World}{cb:Nat}{s:ByteArray}{x:Cs}
theorem qlo7(v kind:Int)(hv:v=4∨v=5)(hk0:-9223372036854775808≤kind)(hk1:kind≤9223372036854775807)(hm:s.size≤2000)(h:RsAt w cb s x) :
 Calls Tryz.prog 61 #[.int .i64 v,.int .i64 kind,.pointer (some ⟨cb,0,none⟩)] w fun e w'=>(∃A c,e = .returned (.slice A (x.props v kind).1.length c)∧(x.props v kind).1.length≤c∧c≤9223372036854775807∧PL w' A (x.props v kind).1∧∀g i,A=some ⟨g,i,none⟩→w.heap.size≤g)∧RsAt w' cb s (x.props v kind).2∧w.grownBy w' (some cb):=by
 have hcb:=h.lt
 have HH:=Lib.hid h
 obtain⟨i,hi,hc,hr⟩:=h
 have hl:x.r.length=s.size - i:=by rw[←hr,List.length_drop,←q4ad]
 have h2:=hc.c2
 rcases hv with rfl | rfl
 ·have e1:x.props 4 kind=([],x):=by unfold Cs.props;rw[if_pos (.inr (by decide))]
  rw[e1]
  clear hc hr hi hl e1 h2
  go_enter Tryz.func61,Tryz.ntmps61
  go_wp2_with fail
  go_ret
  exact⟨⟨none,0,rfl,Nat.zero_le _,Nat.zero_le _,(fun e=>absurd rfl e),(fun g i e=>by cases e)⟩,HH.out,World.grownBy.refl _ _⟩
 ·by_cases he:x.e=0
  ·rw[he] at hc h2
   have RS:=qv27 hc hi
   rw[qo1z s i hi,hr] at RS
   have RD:=fun W=>qwqg kind (bs x.r) W (by rw[q5zk];omega) hk0 hk1
   rw[qkd1] at RD
   have e1:x.props 5 kind=((qflw kind x.r).1,⟨x.r.drop (qflw kind x.r).2.1,(qflw kind x.r).2.2⟩):=by unfold Cs.props;rw[if_neg (by rw[he];decide)]
   rw[e1]
   have hz:(qflw kind x.r).2.1≤x.r.length:=by
    by_cases hF:(qflw kind x.r).2.2=0
    ·exact(qugf (show qflw kind x.r=((qflw kind x.r).1,(qflw kind x.r).2.1,0) by rw[←hF])).2.1
    ·rw[qjfk hF];exact Nat.zero_le _
   unfold PrdP at RD
   obtain⟨z,hzz⟩:∃z,(qflw kind x.r).2.1=z:=⟨_,rfl⟩
   obtain⟨f,hf⟩:∃f,(qflw kind x.r).2.2=f:=⟨_,rfl⟩
   rw[hzz] at hz RD ⊢
   rw[hf] at RD ⊢
   generalize (qflw kind x.r).1=L at *
   have hw:IntKind.i64.wrap ((i:Int)+(z:Int))=((i+z:Nat):Int):=by rw[IntKind.wrap_i64];omega
   have h1:=hc.c1
   have f1:=hc.fr 1
   have f2:=hc.fr 2
   have HC:=Lib.hid hc
   have RS:=Lib.hid RS
   have RD:=Lib.hid RD
   have HR:=Lib.hid hr
   have HZ:=Lib.hid hz
   have HL:=Lib.hid hl
   have HI:=Lib.hid hi
   have CB:=Lib.hid hcb
   clear hc hr hz hl hi he hzz hf e1 hcb
   go_enter Tryz.func61,Tryz.ntmps61
   go_wp2_with fail
   refine(RS.out).mono ?_
   rintro e W ⟨rfl,n,rfl⟩
   go_wp2_with fail
   refine(RD.out _).mono ?_
   rintro e W ⟨hb,_,_,vv,rfl,ho⟩
   obtain⟨A,c,rfl,hc,hP,hg⟩:=PL.owned ho rfl
   have hcm:=qtrv ho
   have HC2:=Lib.hid ((HC.out.draws n).of_block (hb.block cb CB.out))
   have h1:W.cell? ⟨cb,1,none⟩=some (.int .i64 i):=HC2.out.c1
   have h2:W.cell? ⟨cb,2,none⟩=some (.int .i64 0):=HC2.out.c2
   have f1:=HC2.out.fr 1
   have f2:=HC2.out.fr 2
   have GB:=Lib.hid (qgju (n:=n) (q9cp hb (some cb)))
   have HP:=Lib.hid hP
   have HG:=Lib.hid hg
   have HX:=Lib.hid (And.intro hc hcm)
   clear hb ho hc hP hg hcm
   go_wp2_with fail
   go_ret
   have GK:W.grownBy ((W.setCell ⟨cb,2,none⟩ (.int .i64 f)).setCell ⟨cb,1,none⟩ (.int .i64 ((i+z:Nat):Int))) (some cb):=qo6d (q99v _ _ _ _) (q99v _ _ _ _)
   refine⟨⟨A,c,rfl,HX.out.1,HX.out.2,HP.out.grown GK (fun g j e=>by have:=HG.out g j e;have:=CB.out;intro e2;subst e2;exact absurd (HG.out g j e) (by show ¬w.heap.size≤g;omega)),HG.out⟩,⟨i+z,by have:=HI.out;have:=HZ.out;have:=HL.out;omega,(HC2.out.fail f).to (i+z),by rw[←HR.out,List.drop_drop]⟩,qo6d GB.out GK⟩
  ·have e1:x.props 5 kind=([],x):=by unfold Cs.props;rw[if_pos (.inl he)]
   rw[e1]
   have he2:(((x.e:Nat):Int)==0)=false:=by simp;omega
   have he3:(((x.e:Nat):Int) != 0)=true:=by simp;omega
   clear hc hr hi hl e1 he
   go_enter Tryz.func61,Tryz.ntmps61
   go_wp2_with fail
   go_ret
   exact⟨⟨none,0,rfl,Nat.zero_le _,Nat.zero_le _,(fun e=>absurd rfl e),(fun g i e=>by cases e)⟩,HH.out,World.grownBy.refl _ _⟩
end
end Go.Proofs.YtbecggefmbpnoaaGreatDoor
