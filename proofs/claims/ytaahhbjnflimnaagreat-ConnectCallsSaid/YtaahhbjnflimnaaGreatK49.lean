/- What Get tells. No condition. -/
import Derived.Laws.ResultCell
import Derived.Laws.CopyOwn
import Derived.Deep.LoopGhost
import Derived.Deep.RegionHeld3
import Derived.Deep.DeepCutAuto
import Derived.BigQuiet
import Derived.Test.YtaahhbjnflimnaaGreatK37
import Derived.Test.YtaahhbjnflimnaaGreatK24
import Derived.Test.YtaahhbjnflimnaaGreatK07
import Derived.Test.YtaahhbjnflimnaaGreatK42
import Derived.Test.YtaahhbjnflimnaaGreatK35
import Derived.Test.YtaahhbjnflimnaaGreatK10
import Derived.Test.YtaahhbjnflimnaaGreatK41
import Derived.Test.YtaahhbjnflimnaaGreatK08
import Derived.Test.YtaahhbjnflimnaaGreatK28
import Derived.Test.YtaahhbjnflimnaaGreatK19
import Derived.Test.YtaahhbjnflimnaaGreatK26
import Derived.Test.YtaahhbjnflimnaaGreatK33
import Derived.Test.YtaahhbjnflimnaaGreatK27
set_option maxHeartbeats 4000000
set_option maxRecDepth 100000
namespace Go.Proofs.YtaahhbjnflimnaaGreat
open Go.RowKit
def getP(l:List Pr)(id:Int):Pr×Bool:=match l.find? fun p=>p.id==id with
 | some p=>(p,true)
 | none=>(⟨0,0,[],[]⟩,false)
theorem qihu(id:Int):getP [] id=(⟨0,0,[],[]⟩,false):=rfl
theorem q2to(p:Pr)(l:List Pr)(id:Int):getP (p::l) id=if p.id=id then(p,true) else getP l id:=by
 unfold getP
 rw[List.find?_cons]
 by_cases h:p.id=id
 ·have:(p.id==id)=true:=by simpa using h
  rw[this,if_pos h]
 ·have:(p.id==id)=false:=by simpa using h
  rw[this,if_neg h]
theorem qxal(l:List Pr)(id:Int):(getP l id).2=hasP l id:=by
 induction l with
 | nil=>rfl
 | cons p l ih=>
  rw[q2to]
  unfold hasP at ih ⊢
  rw[List.any_cons]
  by_cases h:p.id=id
  ·rw[if_pos h];simp[h]
  ·rw[if_neg h,ih];simp[h]
theorem qi36:(Tryz.prog.info? 46).map (·.size)=some 4:=by kernel_rfl
theorem qbgf{fn:Func}{R:Ending→World→Prop}{a:Act}{W:World}{p u:Tmp}{B:Nat}{cs:Array Value}{v:Value}(h:fn.results=#[.cell p 46,.tmp u])(hp:a.tmps.getD p undef = .pointer (some ⟨B,0,none⟩))(hu:a.tmps.getD u undef=v)(hd:a.defers=[])(hcs:cs.size=4)
 (hg:W.heap[B]? = some (.cells cs 46 (0,0))) (hR:R (.returned (.tuple #[.agg cs,v])) W):bodyPost Tryz.prog fn R .ret a W:=by
 refine bodyPost_ret (v := .tuple #[.agg cs,v]) ?_ hd hR
 rw[results_cell_tmp h,hp,hu]
 have:=run_loadVar_row (P:=Tryz.prog) W B 46 46 cs (0,0) _ hg Tryz.underlying46 rfl (by rw[hcs];kernel_rfl)
 simp[asAddr,this,Result.andThen]
theorem qfah(A:Option Addr)(n c:Nat)(l:List Pr)(id:Int)(w:World)(hl:PL w A l)(hn:l.length=n)(hN:n≤70000) :
 Calls Tryz.prog 104 #[.slice A n c,.int .i64 id] w fun e w'=>e = .returned (.tuple #[qbhk (getP l id).1,.bool (getP l id).2])∧Below w.heap.size w w':=by
 have HL:=Lib.hid hl
 have HN:=Lib.hid hn
 have hN2:(n:Int)≤70000:=by omega
 obtain⟨R,hR⟩:∃R,getP l id=R:=⟨_,rfl⟩
 rw[hR]
 have HR:=Lib.hid hR
 have B0:=Lib.hid (show Below w.heap.size w (w.alloc (.cells #[.int .i64 0,.int .u32 0,.string ⟨#[]⟩,.string ⟨#[]⟩] 46)) from(Below.refl _ _).alloc (Nat.le_refl _) _)
 have Z0:=Lib.hid (heap_alloc_new w (.cells #[.int .i64 0,.int .u32 0,.string ⟨#[]⟩,.string ⟨#[]⟩] 46))
 clear hl hn hN hR
 go_enter Tryz.func104,Tryz.ntmps104
 go_wp2_with fail
 go_loopg [6] n (fun gk s10 wx=>∃k:Nat,k≤n∧gk=n - k∧s10 = .int .i64 (k:Int)∧getP (l.drop k) id=R∧Below w.heap.size w wx∧wx.heap[w.heap.size]? = some (.cells #[.int .i64 0,.int .u32 0,.string ⟨#[]⟩,.string ⟨#[]⟩] 46 (0,0)))
 case atStart=>exact⟨0,by omega,by omega,rfl,HR.out,B0.out,Z0.out⟩
 case round=>
  obtain⟨k,hk,hgk,rfl,hE,hB,hZ⟩:=hrel
  by_cases hlt:k < n
  ·have hkl:k < l.length:=by rw[HN.out];exact hlt
   obtain⟨p,hp⟩:∃p,l[k]? = some p:=⟨_,List.getElem?_eq_getElem hkl⟩
   obtain⟨g,i,e',hg',c0,c1,c2,c3⟩:=(HL.out.below hB).at hp
   subst e'
   have g1:(k:Int) < (n:Int):=by omega
   have hdr:l.drop k=p::l.drop (k+1):=by
    rw[List.drop_eq_getElem_cons hkl];congr 1
    rw[List.getElem?_eq_getElem hkl] at hp;exact Option.some.inj hp
   rw[hdr,q2to] at hE
   have hzl:=lt_of_block hZ
   have HB:=Lib.hid hB
   have HZ:=Lib.hid hZ
   by_cases hq:p.id=id
   ·rw[if_pos hq] at hE
    have q1:(p.id==id)=true:=by simpa using hq
    subst hE
    clear hq hB hdr hp hkl
    go_wp2_with (refine wpList_store_row rfl _ _ _ rfl w.heap.size _ rfl rfl 46 _ hZ qi36 rfl (by simp[Value.oneCell']) ?_)
    (try simp only[Exit.inBlock,Exit.then])
    refine qbgf rfl rfl rfl rfl ?_ (setRow_heap _ _ _ _ _ _ HZ.out) ?_
    ·rfl
    ·exact⟨rfl,q6i6 HB.out (Nat.le_refl _) _⟩
   ·rw[if_neg hq] at hE
    have HE:=Lib.hid hE
    have q1:(p.id==id)=false:=by simpa using hq
    clear hE hq hB hZ hdr hp hkl
    go_wp2_with fail
    go_roundg (n - (k+1))
    case measure=>omega
    case rel=>exact⟨k+1,by omega,rfl,by go_num,HE.out,HB.out,HZ.out⟩
  ·obtain rfl:k=n:=by omega
   have hd1:l.drop k=[]:=List.drop_of_length_le (by rw[HN.out];omega)
   rw[hd1,qihu] at hE
   have HZ:=Lib.hid hZ
   have HB:=Lib.hid hB
   subst hE
   clear hB hd1
   go_wp2_with (refine wpList_store_row rfl _ _ _ rfl w.heap.size _ rfl rfl 46 _ hZ qi36 rfl (by simp[Value.oneCell']) ?_)
   (try simp only[Exit.inBlock,Exit.then])
   refine qbgf rfl rfl rfl rfl ?_ (setRow_heap _ _ _ _ _ _ HZ.out) ?_
   ·rfl
   ·exact⟨rfl,q6i6 HB.out (Nat.le_refl _) _⟩
theorem qdfs(kind:Int)(A:Option Addr)(n c:Nat)(l:List Pr)(id:Int)(w:World)(hl:PL w A l)(hn:l.length=n)(hN:n≤70000) :
 Calls Tryz.prog 178 #[.int .i64 kind,.slice A n c,.int .i64 id] w fun e w'=>e = .returned (.bool (qxv1 kind l id))∧Below w.heap.size w w':=by
 have GT:=qfah A n c l id w hl hn hN
 rw[qxal] at GT
 have MN:=q30m kind id
 unfold qxv1
 generalize (getP l id).1=q at *
 generalize hasP l id=b at *
 generalize quux kind id=m at *
 have GT:=Lib.hid GT
 have MN:=Lib.hid MN
 clear hl hn hN
 cases b<;>cases m<;>
 ·go_enter Tryz.func178,Tryz.ntmps178
  go_wp2_with fail
  refine(GT.out).mono ?_
  rintro e w1 ⟨rfl,hb⟩
  have HB:=Lib.hid (hb.alloc hb.size (.cells #[.int .i64 q.id,.int .u32 q.n,.string (bs q.text),.string (bs q.value)] 46))
  clear hb
  unfold qbhk
  go_wp2_with (go_at_call 213;refine(MN.out _).mono ?_;rintro e w2 ⟨rfl,hb⟩;have HB:=Lib.hid (HB.out.trans (hb.mono HB.out.size));clear hb)
  go_ret
  exact⟨rfl,HB.out⟩
theorem qjco(A:Option Addr)(n c:Nat)(l:List Pr)(w:World)(hl:PL w A l)(hn:l.length=n)(hN:n≤70000) :
 Calls Tryz.prog 179 #[.slice A n c] w fun e w'=>e = .returned (.bool (qwyx l))∧Below w.heap.size w w':=by
 have G1:=fun W (hb:Below w.heap.size w W)=>qfah A n c l 22 W (hl.below hb) hn hN
 have G2:=fun W (hb:Below w.heap.size w W)=>qfah A n c l 21 W (hl.below hb) hn hN
 rw[qxal] at G1 G2
 unfold qwyx
 generalize (getP l 22).1=q at *
 generalize (getP l 21).1=r at *
 generalize hasP l 22=b at *
 generalize hasP l 21=d at *
 have G1:=Lib.hid G1
 have G2:=Lib.hid G2
 clear hl hn hN
 cases b<;>cases d<;>
 ·go_enter Tryz.func179,Tryz.ntmps179
  go_wp2_with fail
  refine(G1.out w (Below.refl _ _)).mono ?_
  rintro e w1 ⟨rfl,hb⟩
  have HB:=Lib.hid (hb.alloc hb.size (.cells #[.int .i64 q.id,.int .u32 q.n,.string (bs q.text),.string (bs q.value)] 46))
  clear hb
  unfold qbhk
  go_wp2_with fail
  refine(G2.out _ HB.out).mono ?_
  rintro e w2 ⟨rfl,hb⟩
  have HB2:=Lib.hid (HB.out.trans (hb.mono HB.out.size))
  have HB:=Lib.hid (HB2.out.alloc HB2.out.size (.cells #[.int .i64 r.id,.int .u32 r.n,.string (bs r.text),.string (bs r.value)] 46))
  clear hb
  unfold qbhk
  go_wp2_with fail
  go_ret
  exact⟨rfl,HB.out⟩
theorem q967(kind:Int)(l:List Pr)(k:Nat)(p:Pr)(hp:l[k]? = some p):q09m kind (l.take k) (l.drop k)=if qr4y kind p≠0 then qr4y kind p else if qxv1 kind (l.take k) p.id then 9 else q09m kind (l.take (k+1)) (l.drop (k+1)):=by
 have hk:=(List.getElem?_eq_some_iff.1 hp).1
 have hd:l.drop k=p::l.drop (k+1):=by
  rw[List.drop_eq_getElem_cons hk];congr 1
  rw[List.getElem?_eq_getElem hk] at hp;exact Option.some.inj hp
 have ht:l.take (k+1)=l.take k++[p]:=by rw[List.take_add_one,hp];rfl
 rw[hd,ht,q09m]
theorem qwwa(kind:Int)(A:Option Addr)(n c:Nat)(l:List Pr)(w:World)(hl:PL w A l)(hn:l.length=n)(hc:n≤c)(hcm:c≤9223372036854775807)(hN:n≤1010)(ht:∀p∈l,p.text.length≤200000) :
 Calls Tryz.prog 137 #[.int .i64 kind,.slice A n c] w fun e w'=>e = .returned (.int .i64 ((qpyu kind l:Nat):Int))∧Below w.heap.size w w':=by
 by_cases h1:1000 < n
 ·have hV:qpyu kind l=4:=by unfold qpyu;rw[if_pos (by omega)]
  have q1:(1000:Int) < (n:Int):=by omega
  rw[hV]
  clear hl hn hc hcm hN ht h1 hV
  go_enter Tryz.func137,Tryz.ntmps137
  go_wp2_with fail
  go_ret
  exact⟨rfl,Below.refl _ _⟩
 have q1:¬(1000:Int) < (n:Int):=by omega
 obtain⟨V,hV⟩:∃V,qpyu kind l=V:=⟨_,rfl⟩
 have hV2:=hV
 unfold qpyu at hV2
 rw[if_neg (by omega)] at hV2
 rw[hV]
 have HV:=Lib.hid hV2
 have HL:=Lib.hid hl
 have HN:=Lib.hid hn
 have HT:=Lib.hid ht
 have HNN:=Lib.hid hN
 have LO:=Lib.hid (fun W (hb:Below w.heap.size w W)=>qjco A n c l W (hl.below hb) hn (by omega))
 have q2:(n:Int)≤(c:Int):=by omega
 have q3:(c:Int)≤9223372036854775807:=by omega
 have q4:(n:Int)≤1010:=by omega
 have TW:=Lib.hid (fun W (hb:Below w.heap.size w W) k id (hk:k≤n)=>qdfs kind A k c (l.take k) id W ((hl.below hb).take k) (by rw[List.length_take];omega) (by omega))
 clear hl hn hc hcm hN ht h1 hV hV2
 go_enter Tryz.func137,Tryz.ntmps137
 go_wp2_with fail
 go_loopg [5] n (fun gk s5 wx=>∃k:Nat,k≤n∧gk=n - k∧s5 = .int .i64 (k:Int)∧q09m kind (l.take k) (l.drop k)=q09m kind [] l∧(∀j p,j < k→l[j]? = some p→qr4y kind p=0)∧Below w.heap.size w wx)
 case atStart=>exact⟨0,Nat.zero_le _,rfl,rfl,rfl,fun j p h=>by omega,Below.refl _ _⟩
 case round=>
  obtain⟨k,hk,rfl,rfl,hE,hC,hB⟩:=hrel
  have HB:=Lib.hid hB
  by_cases hlt:k < n
  ·have hkl:k < l.length:=by rw[HN.out];exact hlt
   obtain⟨p,hp⟩:∃p,l[k]? = some p:=⟨_,List.getElem?_eq_getElem hkl⟩
   obtain⟨g,i,rfl,hg',c0,c1,c2,c3⟩:=(HL.out.below hB).at hp
   rw[q967 kind l k p hp] at hE
   have CK:=fun W=>q9ay kind p W (HT.out p (List.mem_of_getElem? hp))
   obtain⟨E,hEE⟩:∃E,qr4y kind p=E:=⟨_,rfl⟩
   rw[hEE] at CK hE
   have g1:(k:Int) < (n:Int):=by omega
   have g2:(k:Int)≤(c:Int):=by omega
   have g3:(0:Int)≤(k:Int):=by omega
   have MK:=Lib.hid (fun W (h:Below w.heap.size w W)=>(show W.cell? ⟨g,i+k*4,none⟩=some (.int .i64 p.id)∧Below w.heap.size w W from by
    obtain⟨g',i',e',_,d0,d1,d2,d3⟩:=(HL.out.below h).at hp
    cases e'
    exact⟨d0,h⟩))
   have CK:=Lib.hid CK
   have HEE:=Lib.hid hEE
   have HLT:=Lib.hid hlt
   have HP:=Lib.hid hp
   have HC:=Lib.hid hC
   unfold qbhk at CK
   by_cases e0:E=0
   ·subst e0
    rw[if_neg (by simp)] at hE
    have TW1:=Lib.hid (fun W hb=>TW.out W hb k p.id (by omega))
    obtain⟨b,hb⟩:∃b,qxv1 kind (l.take k) p.id=b:=⟨_,rfl⟩
    rw[hb] at hE TW1
    have HE:=Lib.hid hE
    clear hE hb hlt hk hp hkl hC hEE hg' hB
    go_wp2_with fail
    refine(CK.out _).mono ?_
    rintro e w1 ⟨rfl,hb⟩
    have hS:=MK.out w1.drew (qnpu (HB.out.trans (hb.mono HB.out.size)) 1)
    clear hb c0 c1 c2 c3
    go_wp2_with fail
    go_region_held3 (fun w'=>w'.cell? ⟨g,i+k*4,none⟩=some (.int .i64 p.id)∧Below w.heap.size w w')
     (exact hS)
     (first
      | (go_at_call 178;with_reducible refine(TW1.out _ hS.2).mono ?_;rintro e w2 ⟨rfl,hb⟩;have hS:=MK.out _ (hS.2.trans (hb.mono hS.2.size));clear hb))
    rename_i hHeld
    have HB1:=Lib.hid hS.2
    clear hHeld hS
    cases b with
    | true=>
     have hV:=HV.out
     have hE:=HE.out
     rw[if_pos rfl] at hE
     rw[←hE,if_pos (by decide)] at hV
     subst hV
     clear hE
     go_wp2_with fail
     go_ret
     exact⟨rfl,HB1.out⟩
    | false=>
     have hE:=HE.out
     rw[if_neg (by decide)] at hE
     have HE2:=Lib.hid hE
     clear hE
     go_wp2_with fail
     go_roundg (n - (k+1))
     case measure=>have:=HLT.out;omega
     case rel=>
      refine⟨k+1,by have:=HLT.out;omega,rfl,by go_num,HE2.out,fun j q hj hq=>?_,HB1.out⟩
      by_cases hjk:j=k
      ·subst hjk
       have:=hq.symm.trans HP.out
       injection this with this
       rw[this];exact HEE.out
      ·exact HC.out j q (by omega) hq
   ·have n0:(((E:Nat):Int) != 0)=true:=by rw[bne_iff_ne];omega
    rw[if_pos e0] at hE
    have HE:=Lib.hid hE
    have E0:=Lib.hid e0
    clear hE e0 hlt hk hp hkl hC hEE hg' hB
    go_wp2_with fail
    refine(CK.out _).mono ?_
    rintro e w1 ⟨rfl,hb⟩
    have HB1:=Lib.hid (HB.out.trans (hb.mono HB.out.size))
    have hV:=HV.out
    rw[←HE.out,if_pos E0.out] at hV
    subst hV
    clear hb c0 c1 c2 c3
    go_wp2_with fail
    go_ret
    exact⟨rfl,HB1.out⟩
  ·obtain rfl:k=n:=by omega
   have e1:l.take k=l:=List.take_of_length_le (by rw[HN.out];omega)
   have e2:l.drop k=[]:=List.drop_of_length_le (by rw[HN.out];omega)
   rw[e1,e2] at hE
   have h0:q09m kind [] l=0:=by rw[←hE];rfl
   have hV:=HV.out
   rw[if_neg (by simp[h0])] at hV
   have ck:∀p∈l,qr4y kind p=0:=fun p hp=>by
    obtain⟨j,hj⟩:=List.mem_iff_getElem?.1 hp
    exact hC j p (by have:=(List.getElem?_eq_some_iff.1 hj).1;rw[HN.out] at this;exact this) hj
   have BO:=Lib.hid (fun W (hb:Below w.heap.size w W)=>qp37 A k c l W (HL.out.below hb) HN.out HNN.out ck)
   have LO1:=Lib.hid (LO.out wr HB.out)
   cases hlo:qwyx l with
   | true=>
    rw[hlo] at LO1
    rw[hlo,if_pos rfl] at hV
    subst hV
    clear hE h0 ck hlo hC hB hlt hk e1 e2 BO
    go_wp2_with fail
    refine(LO1.out).mono ?_
    rintro e w1 ⟨rfl,hb⟩
    have HB1:=Lib.hid (HB.out.trans (hb.mono HB.out.size))
    clear hb
    go_wp2_with fail
    go_ret
    exact⟨rfl,HB1.out⟩
   | false=>
    rw[hlo] at LO1
    rw[hlo,if_neg (by decide)] at hV
    obtain⟨z,hz⟩:∃z,(bs (q636 l)).size=z:=⟨_,rfl⟩
    have hz2:(q636 l).length=z:=by rw[←hz,q5zk]
    rw[hz2] at hV
    have HVV:=Lib.hid hV
    have HZ:=Lib.hid hz
    clear hE h0 ck hlo hC hB hlt hk e1 e2 hV hz2
    generalize bs (q636 l)=x at *
    go_wp2_with fail
    refine(LO1.out).mono ?_
    rintro e w1 ⟨rfl,hb⟩
    have HB1:=Lib.hid (HB.out.trans (hb.mono HB.out.size))
    clear hb
    go_wp2_with fail
    refine(BO.out _ HB1.out).mono ?_
    rintro e w2 ⟨rfl,hb⟩
    have HB2:=Lib.hid (HB1.out.trans (hb.mono HB1.out.size))
    clear hb BO
    subst hz
    by_cases hb:268435455 < x.size
    ·have hV:=HVV.out
     rw[if_pos hb] at hV
     subst hV
     have q9:(268435455:Int) < (x.size:Int):=by omega
     clear hb
     go_wp2_with fail
     go_ret
     exact⟨rfl,HB2.out⟩
    ·have hV:=HVV.out
     rw[if_neg hb] at hV
     subst hV
     have q9:¬(268435455:Int) < (x.size:Int):=by omega
     clear hb
     go_wp2_with fail
     go_ret
     exact⟨rfl,HB2.out⟩
theorem q6fd(kind:Int)(A:Option Addr)(n c:Nat)(l:List Pr)(w:World)(hl:PL w A l)(hn:l.length=n)(hc:n≤c)(hcm:c≤9223372036854775807)(hN:n≤1010)(ht:∀p∈l,p.text.length≤200000) :
 Calls Tryz.prog 112 #[.int .i64 kind,.slice A n c] w fun e w'=>e = .returned (.tuple #[.string (bs (q5aq kind l).1),.int .i64 ((q5aq kind l).2:Nat)])∧Below w.heap.size w w':=by
 have VA:=qwwa kind A n c l w hl hn hc hcm hN ht
 by_cases hv:qpyu kind l=0
 ·obtain⟨v1,v2,v3,v4⟩:=qpfx hv
  have ck:∀p∈l,qr4y kind p=0:=((qrcn kind l).1 v2).1
  have BO:=Lib.hid (fun W (hb:Below w.heap.size w W)=>qp37 A n c l W (hl.below hb) hn hN ck)
  have RB:=Lib.hid (fun W=>qwha (q636 l).length W v4)
  rw[hv] at VA
  have VA:=Lib.hid VA
  have hb1:(q5aq kind l).1=vb (q636 l).length (sz (q636 l).length)++q636 l:=by unfold q5aq;rw[if_neg (by simp[hv])]
  have hb2:(q5aq kind l).2=0:=by unfold q5aq;rw[if_neg (by simp[hv])]
  have hsz:=qnl4 (q636 l).length v4
  have hs1:(bs (q636 l)).size=(q636 l).length:=q5zk _
  have n1:¬9223372036854775807 < (bs (vb (q636 l).length (sz (q636 l).length))).size+(bs (q636 l)).size:=by rw[q5zk,q5zk,q8sw];omega
  rw[hb1,hb2,←qyv7]
  rw[←hs1] at RB n1 ⊢
  generalize bs (vb ((bs (q636 l)).size:Nat) (sz ((bs (q636 l)).size:Nat)))=x2 at *
  generalize bs (q636 l)=x1 at *
  clear hl hn hc hcm hN ht hv v1 v2 v3 v4 ck hb1 hb2 hsz hs1
  go_enter Tryz.func112,Tryz.ntmps112
  go_wp2_with fail
  refine(VA.out).mono ?_
  rintro e w1 ⟨rfl,hb⟩
  have HB:=Lib.hid hb
  clear hb
  go_wp2_with fail
  refine(BO.out _ HB.out).mono ?_
  rintro e w2 ⟨rfl,hb⟩
  have HB:=Lib.hid (HB.out.trans (hb.mono HB.out.size))
  clear hb
  go_wp2_with fail
  refine(RB.out _).mono ?_
  rintro e w3 ⟨rfl,hb⟩
  have HB:=Lib.hid (HB.out.trans (hb.mono HB.out.size))
  clear hb
  go_wp2_with fail
  go_ret2
  exact⟨rfl,HB.out⟩
 ·have hb1:q5aq kind l=([],qpyu kind l):=by unfold q5aq;rw[if_pos hv]
  rw[hb1]
  generalize qpyu kind l=V at *
  have q1:(((V:Nat):Int) != 0)=true:=by rw[bne_iff_ne];omega
  have VA:=Lib.hid VA
  clear hl hn hc hcm hN ht hv hb1
  go_enter Tryz.func112,Tryz.ntmps112
  go_wp2_with fail
  refine(VA.out).mono ?_
  rintro e w1 ⟨rfl,hb⟩
  have HB:=Lib.hid hb
  clear hb
  go_wp2_with fail
  go_ret2
  exact⟨rfl,HB.out⟩
theorem qyet(v:Int)(w:World):Calls Tryz.prog 55 #[.int .i64 v] w fun e w'=>e = .returned (.bool (versC v))∧w=w':=by
 unfold versC
 by_cases h4:v=4
 ·subst h4
  go_enter Tryz.func55,Tryz.ntmps55
  go_wp2
  go_ret
  exact⟨rfl,rfl⟩
 ·have e4:(v==4)=false:=beq_eq_false_iff_ne.2 h4
  rw[e4]
  go_enter Tryz.func55,Tryz.ntmps55
  go_wp2
  go_ret
  exact⟨rfl,rfl⟩
theorem qp37g(b:Bool)(n:Int)(w:World):Calls Tryz.prog 45 #[.bool b,.int .i64 n] w fun e w'=>e = .returned (.int .i64 (if b then n else 0))∧w=w':=by
 cases b
 all_goals
  go_enter Tryz.func45,Tryz.ntmps45
  go_wp2
  go_ret
  exact⟨rfl,rfl⟩
theorem q6hpk(s:ByteArray)(w:World)(h:s.size≤65535):Calls Tryz.prog 47 #[.string s] w fun e w'=>e = .returned (.string (bs (enc2 s.data.toList)))∧Below w.heap.size w w':=by
 have B:=Lib.hid (q5pn s w h)
 clear h
 go_enter Tryz.func47,Tryz.ntmps47
 go_wp2_with fail
 refine(B.out).mono ?_
 rintro e W ⟨rfl,hb⟩
 go_wp2_with fail
 go_ret
 exact⟨rfl,hb⟩
structure FewP(w:World)(A:Option Addr)(n c:Nat)(l:List Pr):Prop where
 at':PL w A l
 len:l.length=n
 cap:n≤c
 capm:c≤9223372036854775807
 few:n≤1010
 small:∀p∈l,p.text.length≤200000
theorem FewP.below{w w':World}{A:Option Addr}{n c:Nat}{l:List Pr}(h:FewP w A n c l)(hb:Below w.heap.size w w'):FewP w' A n c l:=⟨h.at'.below hb,h.len,h.cap,h.capm,h.few,h.small⟩
theorem q8yx(v kind:Int)(A:Option Addr)(n c:Nat)(l:List Pr)(w:World)(h:FewP w A n c l)(hv:v=4∨v=5):Calls Tryz.prog 46 #[.int .i64 v,.int .i64 kind,.slice A n c] w fun e w'=>e = .returned (.string (bs (qasq v kind l)))∧Below w.heap.size w w':=by
 have B:=Lib.hid (q6fd kind A n c l w h.at' h.len h.cap h.capm h.few h.small)
 clear h
 rcases hv with rfl | rfl
 ·clear B
  have LO:=Lib.hid (Below.refl w.heap.size w)
  rw[show qasq 4 kind l=[] from rfl]
  go_enter Tryz.func46,Tryz.ntmps46
  go_wp2
  go_ret
  exact⟨rfl,LO.out⟩
 ·rw[show qasq 5 kind l=(q5aq kind l).1 from rfl]
  go_enter Tryz.func46,Tryz.ntmps46
  go_wp2_with fail
  refine(B.out).mono ?_
  rintro e W ⟨rfl,hb⟩
  go_wp2_with fail
  go_ret
  exact⟨rfl,hb⟩
theorem q0km(v kind:Int)(A:Option Addr)(n c:Nat)(l:List Pr)(w:World)(h:FewP w A n c l)(hv:v=4∨v=5)(h4:v=4→l=[]):Calls Tryz.prog 72 #[.int .i64 v,.int .i64 kind,.slice A n c] w fun e w'=>e = .returned (.int .i64 ((qfk9 v kind l:Nat):Int))∧Below w.heap.size w w':=by
 have B:=Lib.hid (qwwa kind A n c l w h.at' h.len h.cap h.capm h.few h.small)
 have hn:n=l.length:=h.len.symm
 clear h
 rcases hv with rfl | rfl
 ·rw[h4 rfl] at hn
  obtain rfl:n=0:=hn
  clear B h4
  have LO:=Lib.hid (Below.refl w.heap.size w)
  rw[show qfk9 4 kind l=0 from rfl]
  go_enter Tryz.func72,Tryz.ntmps72
  go_wp2
  go_ret
  exact⟨rfl,LO.out⟩
 ·rw[show qfk9 5 kind l=qpyu kind l from rfl]
  clear h4 hn
  go_enter Tryz.func72,Tryz.ntmps72
  go_wp2_with fail
  refine(B.out).mono ?_
  rintro e W ⟨rfl,hb⟩
  go_wp2_with fail
  go_ret
  exact⟨rfl,hb⟩
theorem qewb(v:Int)(n:Nat)(w:World)(hn:n < 256):Calls Tryz.prog 119 #[.int .i64 v,.int .i64 (n:Int)] w fun e w'=>e = .returned (.bool (qoy6 v n))∧w=w':=by
 obtain⟨R,hR⟩:∃R,qoy6 v n=R:=⟨_,rfl⟩
 have hw7:R=true↔(n%2=1∨n / 8%4=3∨(n / 4%2=0∧¬n / 8%8=0)∨(v=4∧n / 64=1)):=by
  rw[←hR]
  simp only[qoy6,Bool.or_eq_true,Bool.and_eq_true,beq_iff_eq,bne_iff_ne,or_assoc]
 rw[hR]
 have HW7:=Lib.hid hw7
 have hn0:(n:Int) < 256:=by omega
 clear hR hw7
 go_enter Tryz.func119,Tryz.ntmps119
 go_wp2_with fail
 all_goals
  go_ret
  refine⟨congrArg (fun b=>Ending.returned (Value.bool b)) ?_,rfl⟩
  rw[Bool.eq_iff_iff,HW7.out]
  first | (simp;done) | (simp;omega)
theorem qriz{w:World}{p:Pk}{a:Ad}(h:PkAt w p a):PkAt w (qm70 p) (q8wh p a):=by
 unfold qm70 q8wh rf1A
 by_cases h2:p.kind=2
 ·rw[if_pos h2,if_pos h2]
  exact⟨fun e=>absurd rfl e,fun e=>absurd rfl e,fun e=>absurd rfl e,h.ps⟩
 ·rw[if_neg h2,if_neg h2]
  refine⟨?_,fun e=>absurd rfl e,fun e=>absurd rfl e,h.ps⟩
  cases p.hasWill
  ·exact fun e=>absurd rfl e
  ·exact h.w
theorem qzz3{p:Pk}(h:q21o p):q21o (qm70 p):=by
 unfold qm70
 by_cases h2:p.kind=2
 ·rw[if_pos h2]
  exact⟨Nat.zero_le _,Nat.zero_le _,h.2.2.1,Nat.zero_le _⟩
 ·rw[if_neg h2]
  refine⟨Nat.zero_le _,Nat.zero_le _,h.2.2.1,?_⟩
  cases p.hasWill
  ·exact Nat.zero_le _
  ·exact h.2.2.2
theorem qojb(v:Int)(p:Pk)(a:Ad)(w:World)(hp:PkAt w p a)(sp:q21o p) :
 Calls Tryz.prog 70 #[.int .i64 v,.agg (pkC p a)] w fun e w'=>e = .returned (.bool (okC v p))∧Below w.heap.size w w':=by
 have S0:=Lib.hid (BxS.made w p a)
 have C1:=Lib.hid (qwmp p a)
 have VE:∀W,BxS w p a W→Calls Tryz.prog 55 #[.int .i64 v] W fun e w'=>e = .returned (.bool (versC v))∧BxS w p a w':=fun W h=>(qyet v W).mono fun e w' ⟨he,hw⟩=>⟨he,hw▸h⟩
 have US:∀W,BxS w p a W→Calls Tryz.prog 133 #[.int .i64 v,.agg (pkC p a)] W fun e w'=>e = .returned (.agg (pkC (qm70 p) (q8wh p a)))∧BxS w p a w':=fun W h=>(qhtc v p a W).mono fun e w' ⟨he,hb⟩=>⟨he,h.call hb⟩
 have SM:∀W,BxS w p a W→Calls Tryz.prog 106 #[.agg (pkC p a),.agg (pkC (qm70 p) (q8wh p a))] W fun e w'=>e = .returned (.bool (decide (p=qm70 p)))∧BxS w p a w':=fun W h=>(qkl7 p (qm70 p) a (q8wh p a) W (hp.below h.low) (qriz (hp.below h.low)) sp (qzz3 sp)).mono fun e w' ⟨he,hb⟩=>⟨he,h.call hb⟩
 have P0:∀W,BxS w p a W→W.cell? ⟨w.heap.size,0,none⟩=some (.int .i64 p.kind):=fun W h=>h.cell 0
 have HP0:=Lib.hid P0
 clear hp sp P0
 rw[qmc6]
 cases hv:versC v with
 | false=>
  rw[hv] at VE
  have VE:=Lib.hid VE
  clear US SM hv
  go_enter Tryz.func70,Tryz.ntmps70
  go_upto_region 1 with fail
  refine qtjd (S:=BxS w p a) (B:=w.heap.size) S0.out.draw VE.out ?_
  intro W h
  have L:=Lib.hid h.low
  clear h
  go_wp2_with fail
  go_ret
  exact⟨rfl,L.out⟩
 | true=>
  rw[hv] at VE
  have VE:=Lib.hid VE
  have hv4:v=4∨v=5:=by simpa [versC] using hv
  clear hv
  by_cases hk:p.kind≠1∧p.kind≠2
  ·have h1:(p.kind != 1)=true:=by simpa using hk.1
   have h2:(p.kind != 2)=true:=by simpa using hk.2
   have hz:(p.kind==1 || p.kind==2)=false:=by simpa using hk
   rw[hz]
   have H1:=Lib.hid h1
   have H2:=Lib.hid h2
   clear US SM hk h1 h2 hz hv4
   go_enter Tryz.func70,Tryz.ntmps70
   go_upto_region 1 with fail
   refine qb6c (S:=BxS w p a) (B:=w.heap.size) (k:=p.kind) S0.out.draw VE.out HP0.out H1.out H2.out ?_
   intro W h
   have L:=Lib.hid h.low
   clear h
   go_wp2_with fail
   go_ret
   exact⟨rfl,L.out⟩
  ·have hk:p.kind=1∨p.kind=2:=by omega
   have hz:(p.kind==1 || p.kind==2)=true:=by simpa using hk
   rw[hz]
   have US:=Lib.hid US
   clear hz
   cases hm:decide (p=qm70 p) with
   | false=>
    rw[hm] at SM
    have SM:=Lib.hid SM
    clear hm hv4
    rcases hk with hk | hk
    ·have H1:=Lib.hid (show(p.kind != 1)=false by rw[hk];rfl)
     clear hk
     go_enter Tryz.func70,Tryz.ntmps70
     go_upto_region 1 with fail
     refine qtqq (S:=BxS w p a) (B:=w.heap.size) (k:=p.kind) S0.out.draw VE.out HP0.out H1.out C1.out (fun W h=>h.box) US.out SM.out ?_
     intro W h
     have L:=Lib.hid h.low
     clear h
     go_wp2_with fail
     go_ret
     exact⟨rfl,L.out⟩
    ·have H1:=Lib.hid (show(p.kind != 1)=true by rw[hk];rfl)
     have H2:=Lib.hid (show(p.kind != 2)=false by rw[hk];rfl)
     clear hk
     go_enter Tryz.func70,Tryz.ntmps70
     go_upto_region 1 with fail
     refine qj32 (S:=BxS w p a) (B:=w.heap.size) (k:=p.kind) S0.out.draw VE.out HP0.out H1.out H2.out C1.out (fun W h=>h.box) US.out SM.out ?_
     intro W h
     have L:=Lib.hid h.low
     clear h
     go_wp2_with fail
     go_ret
     exact⟨rfl,L.out⟩
   | true=>
    rw[hm] at SM
    have SM:=Lib.hid SM
    clear hm
    obtain⟨n,hn⟩:∃n,p.props.length=n:=⟨_,rfl⟩
    obtain⟨m,hm⟩:∃m,p.wProps.length=m:=⟨_,rfl⟩
    have hpe:p.props.isEmpty=decide (n=0):=by rw[←hn];cases p.props<;>simp
    have hwe:p.wProps.isEmpty=decide (m=0):=by rw[←hm];cases p.wProps<;>simp
    have K24:∀W,BxS w p a W→W.cell? ⟨w.heap.size,24,none⟩=some (.slice a.ps n a.pc):=fun W h=>by rw[←hn];exact h.cell 24
    have K19:∀W,BxS w p a W→W.cell? ⟨w.heap.size,19,none⟩=some (.slice a.w m a.wc):=fun W h=>by rw[←hm];exact h.cell 19
    rw[hpe,hwe]
    have K24:=Lib.hid K24
    have K19:=Lib.hid K19
    clear hn hm hpe hwe
    rcases hk with hk | hk
    ·have H1:=Lib.hid (show(p.kind != 1)=false by rw[hk];rfl)
     obtain⟨B,hB⟩:∃B,(true&&true&&(true&&!(v==4&&!(decide (n=0)&&decide (m=0))))&&qqa5 v p)=B:=⟨_,rfl⟩
     have hB2:B=true↔((v=4→n=0∧m=0∧(p.client=[]→p.clean=true)∧(p.hasPass=true→p.hasUser=true))∧0≤p.keep∧p.keep≤65535∧0≤p.wQos∧p.wQos≤2):=by
      rw[←hB,qqa5,if_neg (by omega)]
      by_cases h4:v=4<;>simp[h4]<;>grind
     rw[hB]
     have HB:=Lib.hid hB2
     have HK:=Lib.hid hk
     clear hB hB2 hk
     go_enter Tryz.func70,Tryz.ntmps70
     go_upto_region 1 with fail
     refine qtqq (S:=BxS w p a) (B:=w.heap.size) (k:=p.kind) S0.out.draw VE.out HP0.out H1.out C1.out (fun W h=>h.box) US.out SM.out ?_
     intro W h
     have L:=Lib.hid h.low
     have k24:=K24.out W h
     have k19:=K19.out W h
     have k0:W.cell? ⟨w.heap.size,0,none⟩=some (.int .i64 1):=by rw[←HK.out];exact h.cell 0
     have k9:W.cell? ⟨w.heap.size,9,none⟩=some (.string (bs p.client)):=h.cell 9
     have k7:W.cell? ⟨w.heap.size,7,none⟩=some (.bool p.clean):=h.cell 7
     have k12:W.cell? ⟨w.heap.size,12,none⟩=some (.bool p.hasPass):=h.cell 12
     have k10:W.cell? ⟨w.heap.size,10,none⟩=some (.bool p.hasUser):=h.cell 10
     have k8:W.cell? ⟨w.heap.size,8,none⟩=some (.int .i64 p.keep):=h.cell 8
     have k17:W.cell? ⟨w.heap.size,17,none⟩=some (.int .i64 p.wQos):=h.cell 17
     have hce:((bs p.client).toList==[])=p.client.isEmpty:=by rw[q0c6];cases p.client<;>rfl
     clear h HP0 C1 S0 VE US SM K24 K19 H1 HK
     go_wp2_with fail
     all_goals
      go_ret
      refine⟨congrArg (fun b=>Ending.returned (Value.bool b)) ?_,L.out⟩
      rw[Bool.eq_iff_iff,HB.out]
      first | (simp;done) | (simp;omega) | grind
    ·have H1:=Lib.hid (show(p.kind != 1)=true by rw[hk];rfl)
     have H2:=Lib.hid (show(p.kind != 2)=false by rw[hk];rfl)
     have HK:=Lib.hid hk
     have RR:=Lib.hid (fun W=>qama p.code W)
     have RM:=Lib.hid (fun W=>q6zo 2 p.code W)
     obtain⟨B,hB⟩:∃B,(true&&true&&(true&&!(v==4&&!(decide (n=0)&&decide (m=0))))&&qqa5 v p)=B:=⟨_,rfl⟩
     have hB2:B=true↔((v=4→n=0∧m=0)∧(if v=4 then qfn3 p.code else mayR 2 p.code)=true∧(p.session=true→p.code=0)):=by
      rw[←hB,qqa5,if_pos hk]
      by_cases h4:v=4<;>simp[h4]<;>grind
     rw[hB]
     clear hB hk
     rcases hv4 with rfl | rfl
     ·rw[if_pos rfl] at hB2
      obtain⟨r,hr⟩:∃r,qfn3 p.code=r:=⟨_,rfl⟩
      rw[hr] at RR hB2
      have HB:=Lib.hid hB2
      have RR:=Lib.hid RR.out
      clear hB2 hr RM
      go_enter Tryz.func70,Tryz.ntmps70
      go_upto_region 1 with fail
      refine qj32 (S:=BxS w p a) (B:=w.heap.size) (k:=p.kind) S0.out.draw VE.out HP0.out H1.out H2.out C1.out (fun W h=>h.box) US.out SM.out ?_
      intro W h
      have SH:=Lib.hid h
      have k24:=K24.out W h
      have k19:=K19.out W h
      have k0:W.cell? ⟨w.heap.size,0,none⟩=some (.int .i64 2):=by rw[←HK.out];exact h.cell 0
      have k20:W.cell? ⟨w.heap.size,20,none⟩=some (.bool p.session):=h.cell 20
      have k21:W.cell? ⟨w.heap.size,21,none⟩=some (.int .i64 p.code):=h.cell 21
      clear h HP0 C1 S0 VE US SM K24 K19 H1 H2 HK
      go_wp2_with fail
      all_goals first
       | (
        refine(RR.out _).mono ?_
        rintro e W2 ⟨rfl,rfl⟩
        go_wp2_with fail
        all_goals
         go_ret
         refine⟨congrArg (fun b=>Ending.returned (Value.bool b)) ?_,SH.out.low⟩
         rw[Bool.eq_iff_iff,HB.out]
         first | (simp;done) | (simp;omega) | grind)
       | (
        go_ret
        refine⟨congrArg (fun b=>Ending.returned (Value.bool b)) ?_,SH.out.low⟩
        rw[Bool.eq_iff_iff,HB.out]
        first | (simp;done) | (simp;omega) | grind)
     ·rw[if_neg (by decide)] at hB2
      obtain⟨r,hr⟩:∃r,mayR 2 p.code=r:=⟨_,rfl⟩
      rw[hr] at RM hB2
      have HB:=Lib.hid hB2
      have RM:=Lib.hid RM.out
      clear hB2 hr RR
      go_enter Tryz.func70,Tryz.ntmps70
      go_upto_region 1 with fail
      refine qj32 (S:=BxS w p a) (B:=w.heap.size) (k:=p.kind) S0.out.draw VE.out HP0.out H1.out H2.out C1.out (fun W h=>h.box) US.out SM.out ?_
      intro W h
      have SH:=Lib.hid h
      have k24:=K24.out W h
      have k19:=K19.out W h
      have k0:W.cell? ⟨w.heap.size,0,none⟩=some (.int .i64 2):=by rw[←HK.out];exact h.cell 0
      have k20:W.cell? ⟨w.heap.size,20,none⟩=some (.bool p.session):=h.cell 20
      have k21:W.cell? ⟨w.heap.size,21,none⟩=some (.int .i64 p.code):=h.cell 21
      clear h HP0 C1 S0 VE US SM K24 K19 H1 H2 HK
      go_wp2_with fail
      refine(RM.out _).mono ?_
      rintro e W2 ⟨rfl,hb⟩
      have SH:=Lib.hid (SH.out.call hb)
      have k20:W2.cell? ⟨w.heap.size,20,none⟩=some (.bool p.session):=SH.out.cell 20
      have k21:W2.cell? ⟨w.heap.size,21,none⟩=some (.int .i64 p.code):=SH.out.cell 21
      clear hb
      go_wp2_with fail
      all_goals
       go_ret
       refine⟨congrArg (fun b=>Ending.returned (Value.bool b)) ?_,SH.out.low⟩
       rw[Bool.eq_iff_iff,HB.out]
       first | (simp;done) | (simp;omega) | grind
structure RfP(p:Pk)(a:Ad):Prop where
 few:p.props.length≤1010∧p.wProps.length≤1010
 cap:p.props.length≤a.pc∧p.wProps.length≤a.wc
 capm:a.pc≤9223372036854775807∧a.wc≤9223372036854775807
 small:(∀x∈p.props,x.text.length≤200000)∧∀x∈p.wProps,x.text.length≤200000
 topic:p.wTopic.length≤200000
theorem RfP.ps{p:Pk}{a:Ad}(h:RfP p a)(w:World)(hp:PkAt w p a):FewP w a.ps p.props.length a.pc p.props:=⟨hp.ps,rfl,h.cap.1,h.capm.1,h.few.1,h.small.1⟩
theorem RfP.ws{p:Pk}{a:Ad}(h:RfP p a)(w:World)(hp:PkAt w p a):FewP w a.w p.wProps.length a.wc p.wProps:=⟨hp.w,rfl,h.cap.2,h.capm.2,h.few.2,h.small.2⟩
theorem qvbv(v:Int)(p:Pk)(a:Ad)(w:World)(hp:PkAt w p a)(sp:q21o p)(fp:RfP p a) :
 Calls Tryz.prog 17 #[.int .i64 v,.agg (pkC p a)] w fun e w'=>e = .returned (.int .i64 ((validC v p:Nat):Int))∧Below w.heap.size w w':=by
 have S0:=Lib.hid (BxS.made w p a)
 have FI:=qojb v p a
 have FI:=fun W (h:BxS w p a W)=>FI W (hp.below h.low) sp
 have VC:=fun W=>(qcip (bs p.client) W).mono fun e w' (hh:_∧W=w')=>(⟨hh.1,hh.2▸Below.refl _ _⟩:_∧Below W.heap.size W w')
 have VU:=fun W=>(qcip (bs p.user) W).mono fun e w' (hh:_∧W=w')=>(⟨hh.1,hh.2▸Below.refl _ _⟩:_∧Below W.heap.size W w')
 have NT:=fun W=>(qxw2 (bs p.wTopic) W (by rw[q5zk];exact fp.topic)).mono fun e w' (hh:_∧W=w')=>(⟨hh.1,hh.2▸Below.refl _ _⟩:_∧Below W.heap.size W w')
 rw[qkd1] at VC VU NT
 have QP:=fun W (h:BxS w p a W)=>(fp.ps W (hp.below h.low))
 have QW:=fun W (h:BxS w p a W)=>(fp.ws W (hp.below h.low))
 obtain⟨R,hR⟩:∃R,validC v p=R:=⟨_,rfl⟩
 rw[hR]
 have hL1:(bs p.wPayload).size=p.wPayload.length:=qkrc _
 have hL2:(bs p.pass).size=p.pass.length:=qkrc _
 have C1:=Lib.hid (qwmp p a)
 cases hok:okC v p with
 | false=>
  have HR:=Lib.hid (show 2=R by rw[←hR,validC,if_pos hok])
  rw[hok] at FI
  have FI:=Lib.hid FI
  clear hok hR VC VU NT QP QW hL1 hL2
  go_enter Tryz.func17,Tryz.ntmps17
  go_wp2_with (refine wpList_load_row rfl _ _ rfl w.heap.size rfl 28 _ (0,0) _ S0.out.box Tryz.underlying28 rfl (by rw[C1.out];exact q5nr) ?_)
  refine(FI.out _ S0.out).mono ?_
  rintro e W ⟨rfl,hb⟩
  have LO:=Lib.hid (qxh2 S0.out.low hb)
  clear hb
  go_wp2_with fail
  go_ret
  exact⟨congrArg (fun n:Nat=>Ending.returned (Value.int .i64 (n:Int))) HR.out,LO.out⟩
 | true=>
  obtain⟨b1,h1⟩:∃b,(!qecx p.client || !qecx p.user)=b:=⟨_,rfl⟩
  obtain⟨b2,h2⟩:∃b,(p.hasWill&&!q95c p.wTopic)=b:=⟨_,rfl⟩
  obtain⟨b3,h3⟩:∃b,(decide (65535 < p.wPayload.length) || decide (65535 < p.pass.length))=b:=⟨_,rfl⟩
  have hv:=(ok_c hok).1
  have h4:=(ok_c hok).2.2.2.1
  have PV:=fun W (h:BxS w p a W)=>q0km v p.kind a.ps p.props.length a.pc p.props W (QP W h) hv (fun e=>(h4 e).1)
  have WV:=fun W (h:BxS w p a W)=>q0km v 16 a.w p.wProps.length a.wc p.wProps W (QW W h) hv (fun e=>(h4 e).2)
  obtain⟨X,hX⟩:∃X,qfk9 v p.kind p.props=X:=⟨_,rfl⟩
  obtain⟨Y,hY⟩:∃Y,qfk9 v 16 p.wProps=Y:=⟨_,rfl⟩
  have hr:R=if b1=true then 6 else if b2=true then 10 else if b3=true then 2 else if X≠0 then X else Y:=by
   rw[←hR,validC,if_neg (by rw[hok];decide),←h1,←h2,←h3,←hX,←hY]
   have e1:((qecx p.client&&qecx p.user)=false)=((!qecx p.client || !qecx p.user)=true):=by
    cases qecx p.client<;>cases qecx p.user<;>simp
   have e3:(65535 < p.wPayload.length∨65535 < p.pass.length)=((decide (65535 < p.wPayload.length) || decide (65535 < p.pass.length))=true):=by simp
   simp only[e1,e3]
  rw[hok] at FI
  rw[hX] at PV
  rw[hY] at WV
  have HR:=Lib.hid hr
  have H1:=Lib.hid h1
  have H2:=Lib.hid h2
  have H3:=Lib.hid h3
  have FI:=Lib.hid FI
  have PV:=Lib.hid PV
  have WV:=Lib.hid WV
  have HL1:=Lib.hid hL1
  have HL2:=Lib.hid hL2
  generalize qecx p.client=cl at *
  generalize qecx p.user=us at *
  generalize q95c p.wTopic=nm at *
  have VC:=Lib.hid VC
  have VU:=Lib.hid VU
  have NT:=Lib.hid NT
  clear hok hR QP QW hL1 hL2 h1 h2 h3 hX hY hr hv h4 hp sp fp
  go_enter Tryz.func17,Tryz.ntmps17
  go_upto_region 1 with fail
  go_wp2_with (refine wpList_load_row rfl _ _ rfl w.heap.size rfl 28 _ (0,0) _ S0.out.box Tryz.underlying28 rfl (by rw[C1.out];exact q5nr) ?_)
  refine(FI.out _ S0.out).mono ?_
  rintro e W ⟨rfl,hb⟩
  have S1:=Lib.hid (S0.out.call hb)
  clear hb
  have k9:W.cell? ⟨w.heap.size,9,none⟩=some (.string (bs p.client)):=S1.out.cell 9
  go_upto_region 3 with fail
  go_cut [11] (fun s11 wx=>s11 = .bool b1∧BxS w p a wx)
  case first=>
   cases cl with
   | false=>
    have HB:=Lib.hid (show true=b1 by rw[←H1.out];rfl)
    go_wp2_with fail
    refine(VC.out _).mono ?_
    rintro e W2 ⟨rfl,hb⟩
    have S2:=Lib.hid (S1.out.call hb)
    clear hb
    go_wp2_with fail
    go_meet
    exact⟨congrArg Value.bool HB.out,S2.out⟩
   | true=>
    have HB:=Lib.hid (show(!us)=b1 by rw[←H1.out];rfl)
    go_wp2_with fail
    refine(VC.out _).mono ?_
    rintro e W2 ⟨rfl,hb⟩
    have S2:=Lib.hid (S1.out.call hb)
    clear hb
    have k11:W2.cell? ⟨w.heap.size,11,none⟩=some (.string (bs p.user)):=S2.out.cell 11
    go_wp2_with fail
    refine(VU.out _).mono ?_
    rintro e W3 ⟨rfl,hb⟩
    have S3:=Lib.hid (S2.out.call hb)
    clear hb
    go_wp2_with fail
    go_meet
    exact⟨congrArg Value.bool HB.out,S3.out⟩
  case rest=>
   clear k9 S1 S0
   obtain⟨rfl,hS⟩:=hcut
   have S1:=Lib.hid hS
   clear hS
   cases b1 with
   | true=>
    have HRa:=Lib.hid (show 6=R by rw[HR.out];rfl)
    have LO:=Lib.hid S1.out.low
    go_wp2_with fail
    go_ret
    exact⟨congrArg (fun n:Nat=>Ending.returned (Value.int .i64 (n:Int))) HRa.out,LO.out⟩
   | false=>
    have k14:wc.cell? ⟨w.heap.size,14,none⟩=some (.bool p.hasWill):=S1.out.cell 14
    have k15:wc.cell? ⟨w.heap.size,15,none⟩=some (.string (bs p.wTopic)):=S1.out.cell 15
    go_upto_region 5 with fail
    go_cut [22] (fun s22 wx=>s22 = .bool b2∧BxS w p a wx)
    case first=>
     cases hw:p.hasWill with
     | false=>
      rw[hw] at k14
      have HB:=Lib.hid (show false=b2 by rw[←H2.out,hw];rfl)
      clear hw
      go_wp2_with fail
      go_meet
      exact⟨congrArg Value.bool HB.out,S1.out⟩
     | true=>
      rw[hw] at k14
      have HB:=Lib.hid (show(!nm)=b2 by rw[←H2.out,hw];rfl)
      clear hw
      go_wp2_with fail
      refine(NT.out _).mono ?_
      rintro e W3 ⟨rfl,hb⟩
      have S3:=Lib.hid (S1.out.call hb)
      clear hb
      go_wp2_with fail
      go_meet
      exact⟨congrArg Value.bool HB.out,S3.out⟩
    case rest=>
     clear k14 k15 S1
     obtain⟨rfl,hS⟩:=hcut
     have S1:=Lib.hid hS
     clear hS
     cases b2 with
     | true=>
      have HRa:=Lib.hid (show 10=R by rw[HR.out];rfl)
      have LO:=Lib.hid S1.out.low
      go_wp2_with fail
      go_ret
      exact⟨congrArg (fun n:Nat=>Ending.returned (Value.int .i64 (n:Int))) HRa.out,LO.out⟩
     | false=>
      have k16:wc.cell? ⟨w.heap.size,16,none⟩=some (.string (bs p.wPayload)):=S1.out.cell 16
      have k13:wc.cell? ⟨w.heap.size,13,none⟩=some (.string (bs p.pass)):=S1.out.cell 13
      go_upto_region 7 with fail
      go_cut [32] (fun s32 wx=>s32 = .bool b3∧BxS w p a wx)
      case first=>
       by_cases l1:65535 < p.wPayload.length
       ·have HB:=Lib.hid (show true=b3 by rw[←H3.out,decide_eq_true l1];rfl)
        have l1':decide ((65535:Int) < ((bs p.wPayload).size:Int))=true:=decide_eq_true (by rw[HL1.out];omega)
        clear l1
        go_wp2_with fail
        go_meet
        exact⟨congrArg Value.bool HB.out,S1.out⟩
       ·have l1':decide ((65535:Int) < ((bs p.wPayload).size:Int))=false:=decide_eq_false (by rw[HL1.out];omega)
        have HB:=Lib.hid (show decide (65535 < p.pass.length)=b3 by rw[←H3.out,decide_eq_false l1];rfl)
        clear l1
        by_cases l2:65535 < p.pass.length
        ·have l2':decide ((65535:Int) < ((bs p.pass).size:Int))=true:=decide_eq_true (by rw[HL2.out];omega)
         rw[decide_eq_true l2] at HB
         clear l2
         go_wp2_with fail
         go_meet
         exact⟨congrArg Value.bool HB.out,S1.out⟩
        ·have l2':decide ((65535:Int) < ((bs p.pass).size:Int))=false:=decide_eq_false (by rw[HL2.out];omega)
         rw[decide_eq_false l2] at HB
         clear l2
         go_wp2_with fail
         go_meet
         exact⟨congrArg Value.bool HB.out,S1.out⟩
      case rest=>
       clear k16 k13 S1
       obtain⟨rfl,hS⟩:=hcut
       have S1:=Lib.hid hS
       clear hS
       cases b3 with
       | true=>
        have HRa:=Lib.hid (show 2=R by rw[HR.out];rfl)
        have LO:=Lib.hid S1.out.low
        go_wp2_with fail
        go_ret
        exact⟨congrArg (fun n:Nat=>Ending.returned (Value.int .i64 (n:Int))) HRa.out,LO.out⟩
       | false=>
        have k0:wc.cell? ⟨w.heap.size,0,none⟩=some (.int .i64 p.kind):=S1.out.cell 0
        have k24:wc.cell? ⟨w.heap.size,24,none⟩=some (.slice a.ps p.props.length a.pc):=S1.out.cell 24
        have HRb:=Lib.hid (show R=if X≠0 then X else Y by rw[HR.out];rfl)
        go_wp2_with fail
        refine(PV.out _ S1.out).mono ?_
        rintro e W4 ⟨rfl,hb⟩
        have S4:=Lib.hid (S1.out.call hb)
        clear hb k0 k24
        by_cases hx:X=0
        ·have HRa:=Lib.hid (show Y=R by rw[HRb.out,if_neg (by simpa using hx)])
         subst hx
         have k19:W4.cell? ⟨w.heap.size,19,none⟩=some (.slice a.w p.wProps.length a.wc):=S4.out.cell 19
         go_wp2_with fail
         refine(WV.out _ S4.out).mono ?_
         rintro e W5 ⟨rfl,hb⟩
         have LO:=Lib.hid (qxh2 S4.out.low hb)
         clear hb
         go_wp2_with fail
         go_ret
         exact⟨congrArg (fun n:Nat=>Ending.returned (Value.int .i64 (n:Int))) HRa.out,LO.out⟩
        ·have HRa:=Lib.hid (show X=R by rw[HRb.out,if_pos hx])
         have hx':((X:Int)==0)=false:=by simp;omega
         have hx2:((X:Int) != 0)=true:=by simp;omega
         have LO:=Lib.hid S4.out.low
         clear hx
         go_wp2_with fail
         go_ret
         exact⟨congrArg (fun n:Nat=>Ending.returned (Value.int .i64 (n:Int))) HRa.out,LO.out⟩
theorem q7x5:∀(u a r h c:Bool) (q:Nat),q < 4→
 (if u then 128 else 0)+(if a then 64 else 0)+(if r then 32 else 0)+(q:Int)*8+(if h then 4 else 0)+(if c then 2 else 0)=
  ((bitC u 128+bitC a 64+bitC r 32+8*q+bitC h 4+bitC c 2:Nat):Int):=by
 intro u a r h c q hq
 cases u<;>cases a<;>cases r<;>cases h<;>cases c<;>simp[bitC]<;>omega
theorem q602(n:Int)(_h0:-9223372036854775808≤n)(_h1:n≤9223372036854775807):IntKind.i64.wrap (n.tmod 4+4)=n.tmod 4+4∧(n.tmod 4+4).tmod 4=n%4:=by
 have e0:=@Int.tmod_eq_emod n 4
 have b1:=Int.emod_nonneg n (show(4:Int)≠0 by decide)
 have b2:=Int.emod_lt_of_pos n (show(0:Int) < 4 by decide)
 have h:0 < n.tmod 4+4:=by split at e0<;>omega
 have h2:n.tmod 4+4 < 8:=by split at e0<;>omega
 refine⟨by rw[IntKind.wrap_i64];omega,?_⟩
 rw[Int.tmod_eq_emod_of_nonneg (by omega)]
 split at e0<;>omega
theorem qyrz(p:Pk)(a:Ad)(w:World)(hw:-9223372036854775808≤p.wQos∧p.wQos≤9223372036854775807) :
 Calls Tryz.prog 19 #[pkV p a] w fun e w'=>e = .returned (.int .i64 ((qc61 p:Nat):Int))∧Below w.heap.size w w':=by
 have B0:=Lib.hid (qybm (w:=w) (.cells (pkC p a) 28))
 have G:=heap_alloc_new w (.cells (pkC p a) 28)
 have CE:∀j,(w.alloc (.cells (pkC p a) 28)).cell? ⟨w.heap.size,j,none⟩=(pkC p a)[j]? := fun j=>cell_of_row _ _ j _ _ _ G
 have k0:(w.alloc (.cells (pkC p a) 28)).cell? ⟨w.heap.size,0,none⟩=some (.int .i64 p.kind):=CE 0
 unfold pkV
 by_cases hk:p.kind=1
 ·have k7:(w.alloc (.cells (pkC p a) 28)).cell? ⟨w.heap.size,7,none⟩=some (.bool p.clean):=CE 7
  have k10:(w.alloc (.cells (pkC p a) 28)).cell? ⟨w.heap.size,10,none⟩=some (.bool p.hasUser):=CE 10
  have k12:(w.alloc (.cells (pkC p a) 28)).cell? ⟨w.heap.size,12,none⟩=some (.bool p.hasPass):=CE 12
  have k14:(w.alloc (.cells (pkC p a) 28)).cell? ⟨w.heap.size,14,none⟩=some (.bool p.hasWill):=CE 14
  have k17:(w.alloc (.cells (pkC p a) 28)).cell? ⟨w.heap.size,17,none⟩=some (.int .i64 p.wQos):=CE 17
  have k18:(w.alloc (.cells (pkC p a) 28)).cell? ⟨w.heap.size,18,none⟩=some (.bool p.wRetain):=CE 18
  have hf:qc61 p=bitC p.hasUser 128+bitC p.hasPass 64+bitC p.wRetain 32+8*(p.wQos%4).toNat+bitC p.hasWill 4+bitC p.clean 2:=by rw[qc61,if_pos hk]
  obtain⟨t1,t2⟩:=q602 p.wQos hw.1 hw.2
  have hq:p.wQos%4=((p.wQos%4).toNat:Int):=by omega
  have hq4:(p.wQos%4).toNat < 4:=by omega
  rw[hq] at t2
  generalize (p.wQos%4).toNat=q at *
  have ho:=q7x5 p.hasUser p.hasPass p.wRetain p.hasWill p.clean q hq4
  rw[←hf] at ho
  rw[hk] at k0
  have B1:=Lib.hid (qp37g p.hasUser 128)
  have B2:=Lib.hid (qp37g p.hasPass 64)
  have B3:=Lib.hid (qp37g p.wRetain 32)
  have B4:=Lib.hid (qp37g p.hasWill 4)
  have B5:=Lib.hid (qp37g p.clean 2)
  have i1:0≤(if p.hasUser=true then(128:Int) else 0)∧(if p.hasUser=true then(128:Int) else 0)≤128:=by split<;>decide
  have i2:0≤(if p.hasPass=true then(64:Int) else 0)∧(if p.hasPass=true then(64:Int) else 0)≤64:=by split<;>decide
  have i3:0≤(if p.wRetain=true then(32:Int) else 0)∧(if p.wRetain=true then(32:Int) else 0)≤32:=by split<;>decide
  have i4:0≤(if p.hasWill=true then(4:Int) else 0)∧(if p.hasWill=true then(4:Int) else 0)≤4:=by split<;>decide
  have i5:0≤(if p.clean=true then(2:Int) else 0)∧(if p.clean=true then(2:Int) else 0)≤2:=by split<;>decide
  generalize (if p.hasUser=true then(128:Int) else 0)=x1 at *
  generalize (if p.hasPass=true then(64:Int) else 0)=x2 at *
  generalize (if p.wRetain=true then(32:Int) else 0)=x3 at *
  generalize (if p.hasWill=true then(4:Int) else 0)=x4 at *
  generalize (if p.clean=true then(2:Int) else 0)=x5 at *
  have HO:=Lib.hid ho
  have w1:IntKind.i64.wrap (x1+x2)=x1+x2:=by rw[IntKind.wrap_i64];omega
  have w2:IntKind.i64.wrap (x1+x2+x3)=x1+x2+x3:=by rw[IntKind.wrap_i64];omega
  have w3:IntKind.i64.wrap ((q:Int)*8)=(q:Int)*8:=by rw[IntKind.wrap_i64];omega
  have w4:IntKind.i64.wrap (x1+x2+x3+(q:Int)*8)=x1+x2+x3+(q:Int)*8:=by rw[IntKind.wrap_i64];omega
  have w5:IntKind.i64.wrap (x1+x2+x3+(q:Int)*8+x4)=x1+x2+x3+(q:Int)*8+x4:=by rw[IntKind.wrap_i64];omega
  have w6:IntKind.i64.wrap (x1+x2+x3+(q:Int)*8+x4+x5)=x1+x2+x3+(q:Int)*8+x4+x5:=by rw[IntKind.wrap_i64];omega
  clear ho hf hk hq hq4 CE G i1 i2 i3 i4 i5 hw
  go_enter Tryz.func19,Tryz.ntmps19
  go_wp2_with fail
  go_quiet (first
   | (go_at_call 45;exact(B1.out _).mono fun _ _ h=>⟨h.1,_,h.2.symm⟩)
   | (go_at_call 45;exact(B2.out _).mono fun _ _ h=>⟨h.1,_,h.2.symm⟩)
   | (go_at_call 45;exact(B3.out _).mono fun _ _ h=>⟨h.1,_,h.2.symm⟩)
   | (go_at_call 45;exact(B4.out _).mono fun _ _ h=>⟨h.1,_,h.2.symm⟩)
   | (go_at_call 45;exact(B5.out _).mono fun _ _ h=>⟨h.1,_,h.2.symm⟩))
  go_wp2_with fail
  go_ret
  exact⟨congrArg (fun n:Int=>Ending.returned (Value.int .i64 n)) HO.out,qnpu B0.out _⟩
 ·have hk':(p.kind==1)=false:=beq_eq_false_iff_ne.2 hk
  have hk2:(p.kind != 1)=true:=by rw[show(p.kind != 1)=!(p.kind==1) from rfl,hk'];rfl
  have HF:=Lib.hid (show(0:Nat)=qc61 p by rw[qc61,if_neg hk])
  clear hk hk' CE G
  go_enter Tryz.func19,Tryz.ntmps19
  go_wp2_with fail
  go_ret
  exact⟨congrArg (fun n:Nat=>Ending.returned (Value.int .i64 (n:Int))) HF.out,B0.out⟩
end Go.Proofs.YtaahhbjnflimnaaGreat
