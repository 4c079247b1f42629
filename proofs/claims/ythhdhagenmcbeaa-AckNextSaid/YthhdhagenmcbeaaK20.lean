/- A packet that has no lists. No condition. -/
import Derived.Deep.LoopGhost
import Derived.Deep.QuietTactic
import Derived.Test.YthhdhagenmcbeaaK16
import Derived.Test.YthhdhagenmcbeaaK14
set_option maxHeartbeats 2000000
set_option maxRecDepth 100000
namespace Go.Proofs.Ythhdhagenmcbeaa
open Go.RowKit
theorem qa3p(W:World):PkAt W Pk.zero adZ:=⟨fun e=>absurd rfl e,fun e=>absurd rfl e,fun e=>absurd rfl e,fun e=>absurd rfl e⟩
theorem qx9v(p:Pk)(W:World)(h:p.wProps=[]∧p.codes=[]∧p.filters=[]∧p.props=[]):PkAt W p adZ:=
 ⟨by rw[h.1];exact fun e=>absurd rfl e,by rw[h.2.1];exact fun e=>absurd rfl e,by rw[h.2.2.1];exact fun e=>absurd rfl e,by rw[h.2.2.2];exact fun e=>absurd rfl e⟩
theorem qj9k(p:Pk)(a:Ad)(w:World):Calls Try.prog 11 #[.agg (pkC p a)] w fun e w'=>e = .returned (.tuple #[.agg (pkC (qo1u p).1 adZ),.bool (qo1u p).2])∧Below w.heap.size w w':=by
 obtain⟨D,hD⟩:∃D,pkC (qo1u p).1 adZ=D:=⟨_,rfl⟩
 rw[hD]
 have hD1:D.size=25:=by rw[←hD];exact qwmp _ _
 have hD2:D.all (·.oneCell')=true:=by rw[←hD];exact qmz0 _ _
 have HD1:=Lib.hid hD1
 have HD2:=Lib.hid hD2
 have HZ:=Lib.hid qbwp
 have hzv:=qrai
 have hne:¬pkZ=#[]:=by intro h;have:=qbwp;rw[h] at this;cases this
 have GB:=heap_alloc2_old w (.cells (pkC p a) 31) (.cells pkZ 31)
 have GR:=heap_alloc2_new w (.cells (pkC p a) 31) (.cells pkZ 31)
 have LO:=q8xz (qxh2 (qybm (w:=w) (.cells (pkC p a) 31)) (qybm (.cells pkZ 31))) (show w.heap.size≤w.heap.size+1 by omega) D
 have k0:((w.alloc (.cells (pkC p a) 31)).alloc (.cells pkZ 31)).cell? ⟨w.heap.size,0,none⟩=some (.int .i64 p.kind):=cell_of_row _ _ 0 _ _ _ GB
 have k4:((w.alloc (.cells (pkC p a) 31)).alloc (.cells pkZ 31)).cell? ⟨w.heap.size,4,none⟩=some (.int .i64 p.id):=cell_of_row _ _ 4 _ _ _ GB
 have k21:((w.alloc (.cells (pkC p a) 31)).alloc (.cells pkZ 31)).cell? ⟨w.heap.size,21,none⟩=some (.int .i64 p.code):=cell_of_row _ _ 21 _ _ _ GB
 have GR:=Lib.hid GR
 have LO:=Lib.hid LO
 clear hD1 hD2 GB
 unfold qo1u at hD ⊢
 by_cases h5:p.kind=5
 ·rw[h5] at k0 hD ⊢
  by_cases hc:p.code < 128
  ·rw[if_pos ⟨rfl,hc⟩] at hD ⊢
   have g:decide ((128:Int)≤p.code)=false:=decide_eq_false (by omega)
   have HD:=Lib.hid hD
   clear hD hc h5
   generalize p.code=c at *
   go_enter Try.func11,Try.ntmps11
   go_wp2_with (first
    | (refine wpList_buildTo rfl 31 _ rfl (some _) rfl D (by rw[←HD.out];kernel_rfl) ?_)
    | (refine wpList_store_row rfl _ _ _ rfl (w.heap.size+1) D rfl rfl 31 _ GR.out (by rw[HD1.out];exact q5nr) (by rw[HZ.out,HD1.out]) HD2.out ?_))
   exact q8iy (cs:=D) rfl rfl rfl rfl Try.underlying31 rfl (by rw[HD1.out];exact q5nr) (setRow_heap _ _ _ _ _ _ GR.out) ⟨rfl,LO.out⟩
  ·rw[if_neg (fun h=>hc h.2),if_neg (by decide)] at hD ⊢
   have g:decide ((128:Int)≤p.code)=true:=decide_eq_true (by omega)
   have HD:=Lib.hid hD
   clear hD hc h5
   generalize p.code=c at *
   go_enter Try.func11,Try.ntmps11
   go_wp2_with (first
    | (refine wpList_buildTo rfl 31 _ rfl (some _) rfl D (by rw[←HD.out];kernel_rfl) ?_)
    | (refine wpList_store_row rfl _ _ _ rfl (w.heap.size+1) D rfl rfl 31 _ GR.out (by rw[HD1.out];exact q5nr) (by rw[HZ.out,HD1.out]) HD2.out ?_))
   exact q8iy (cs:=D) rfl rfl rfl rfl Try.underlying31 rfl (by rw[HD1.out];exact q5nr) (setRow_heap _ _ _ _ _ _ GR.out) ⟨rfl,LO.out⟩
 ·rw[if_neg (fun h=>h5 h.1)] at hD ⊢
  by_cases h6:p.kind=6
  ·rw[if_pos h6] at hD ⊢
   rw[h6] at k0
   have HD:=Lib.hid hD
   clear hD h5 h6
   go_enter Try.func11,Try.ntmps11
   go_wp2_with (first
    | (refine wpList_buildTo rfl 31 _ rfl (some _) rfl D (by rw[←HD.out];kernel_rfl) ?_)
    | (refine wpList_store_row rfl _ _ _ rfl (w.heap.size+1) D rfl rfl 31 _ GR.out (by rw[HD1.out];exact q5nr) (by rw[HZ.out,HD1.out]) HD2.out ?_))
   exact q8iy (cs:=D) rfl rfl rfl rfl Try.underlying31 rfl (by rw[HD1.out];exact q5nr) (setRow_heap _ _ _ _ _ _ GR.out) ⟨rfl,LO.out⟩
  ·rw[if_neg h6] at hD ⊢
   have e5:(p.kind==5)=false:=by simpa using h5
   have e6:(p.kind==6)=false:=by simpa using h6
   have HD:=Lib.hid hD
   clear hD h5 h6
   generalize p.kind=k at *
   go_enter Try.func11,Try.ntmps11
   go_wp2_with (first
    | (refine wpList_buildTo rfl 31 _ rfl (some _) rfl D (by rw[←HD.out];kernel_rfl) ?_)
    | (refine wpList_store_row rfl _ _ _ rfl (w.heap.size+1) D rfl rfl 31 _ GR.out (by rw[HD1.out];exact q5nr) (by rw[HZ.out,HD1.out]) HD2.out ?_))
   exact q8iy (cs:=D) rfl rfl rfl rfl Try.underlying31 rfl (by rw[HD1.out];exact q5nr) (setRow_heap _ _ _ _ _ _ GR.out) ⟨rfl,LO.out⟩
theorem qgtk(A B:Option Addr)(na nb c d:Nat)(l m:List Pr)(w:World)(hA:PL w A l)(hB:PL w B m)(hla:l.length=na)(hlb:m.length=nb)(hN:na≤70000)(hM:nb≤70000) :
 Calls Try.prog 35 #[.slice A na c,.slice B nb d] w fun e w'=>e = .returned (.bool (decide (l=m)))∧∃k,w'=w.drewN k:=by
 by_cases hn:na=nb
 ·subst hn
  obtain⟨D,hD⟩:∃D,decide (l=m)=D:=⟨_,rfl⟩
  rw[hD]
  have HD:=Lib.hid hD
  have HA:=Lib.hid hA
  have HB:=Lib.hid hB
  have HLA:=Lib.hid hla
  have HLB:=Lib.hid hlb
  have q0:(na:Int)≤70000:=by omega
  clear hA hB hla hlb hN hM hD
  go_enter Try.func35,Try.ntmps35
  go_wp2_with fail
  go_loopg [5] na (fun gk i wr=>∃k x:Nat,k≤na∧gk=na - k∧i = .int .i64 (k:Int)∧wr=w.drewN x∧∀j p q,j < k→l[j]? = some p→m[j]? = some q→p=q)
  case atStart=>exact⟨0,0,Nat.zero_le _,rfl,rfl,rfl,fun j p q h=>by omega⟩
  case round=>
   obtain⟨k,x,hk,rfl,rfl,rfl,hS⟩:=hrel
   have HS:=Lib.hid hS
   by_cases hlt:k < na
   ·have hkl:k < l.length:=by rw[HLA.out];exact hlt
    have hkm:k < m.length:=by rw[HLB.out];exact hlt
    obtain⟨p,hp⟩:∃p,l[k]? = some p:=⟨_,List.getElem?_eq_getElem hkl⟩
    obtain⟨q,hq⟩:∃q,m[k]? = some q:=⟨_,List.getElem?_eq_getElem hkm⟩
    obtain⟨ga,ia,rfl,_,a0,a1,a2,a3⟩:=HA.out.at hp
    obtain⟨gb,ib,rfl,_,b0,b1,b2,b3⟩:=HB.out.at hq
    have HP:=Lib.hid hp
    have HQ:=Lib.hid hq
    have HL:=Lib.hid hlt
    have g1:(k:Int) < (na:Int):=by omega
    have hno:p≠q→D=false:=fun h=>by
     rw[←HD.out]
     exact decide_eq_false fun e=>h (by subst e;exact Option.some.inj (HP.out.symm.trans HQ.out))
    have HNO:=Lib.hid hno
    clear hS hkl hkm hp hq hlt hk hno
    rcases qzlf p q with h | h | ⟨h1,h2⟩ | ⟨h1,h2,h3⟩ | ⟨h1,h2,h3,h4⟩
    ·subst h
     generalize p.id=x0 at a0 b0
     generalize ((p.n:Nat):Int)=x1 at a1 b1
     generalize bs p.text=x2 at a2 b2
     generalize bs p.value=x3 at a3 b3
     go_wp2_with fail
     go_quiet (fail)
     go_wp2_with fail
     go_roundg (na - (k+1))
     case measure=>have:=HL.out;omega
     case rel=>
      refine⟨k+1,_,by have:=HL.out;omega,rfl,by go_num,rfl,fun j u v hj hu hv=>?_⟩
      by_cases hjk:j=k
      ·subst hjk
       exact Option.some.inj ((hu.symm.trans HP.out).trans (HQ.out.symm.trans hv))
      ·exact HS.out j u v (by omega) hu hv
    ·have hD:=HNO.out (fun e=>by rw[e] at h;simp at h)
     subst hD
     generalize p.id=x0 at *
     generalize ((p.n:Nat):Int)=x1 at *
     generalize bs p.text=x2 at *
     generalize bs p.value=x3 at *
     generalize q.id=y0 at *
     generalize ((q.n:Nat):Int)=y1 at *
     generalize bs q.text=y2 at *
     generalize bs q.value=y3 at *
     go_wp2_with fail
     go_quiet (fail)
     go_wp2_with fail
     go_ret
     exact⟨rfl,_,qgiq _ _ _⟩
    ·have hD:=HNO.out (fun e=>by rw[e] at h2;simp at h2)
     subst hD
     rw[h1] at a0
     clear h1
     generalize p.id=x0 at *
     generalize ((p.n:Nat):Int)=x1 at *
     generalize bs p.text=x2 at *
     generalize bs p.value=x3 at *
     generalize q.id=y0 at *
     generalize ((q.n:Nat):Int)=y1 at *
     generalize bs q.text=y2 at *
     generalize bs q.value=y3 at *
     go_wp2_with fail
     go_quiet (fail)
     go_wp2_with fail
     go_ret
     exact⟨rfl,_,qgiq _ _ _⟩
    ·have hD:=HNO.out (fun e=>by rw[e] at h3;simp at h3)
     subst hD
     rw[h1] at a0
     rw[h2] at a1
     clear h1 h2
     generalize p.id=x0 at *
     generalize ((p.n:Nat):Int)=x1 at *
     generalize bs p.text=x2 at *
     generalize bs p.value=x3 at *
     generalize q.id=y0 at *
     generalize ((q.n:Nat):Int)=y1 at *
     generalize bs q.text=y2 at *
     generalize bs q.value=y3 at *
     go_wp2_with fail
     go_quiet (fail)
     go_wp2_with fail
     go_ret
     exact⟨rfl,_,qgiq _ _ _⟩
    ·have hD:=HNO.out (fun e=>by rw[e] at h4;simp at h4)
     subst hD
     rw[h1] at a0
     rw[h2] at a1
     rw[h3] at a2
     clear h1 h2 h3
     generalize p.id=x0 at *
     generalize ((p.n:Nat):Int)=x1 at *
     generalize bs p.text=x2 at *
     generalize bs p.value=x3 at *
     generalize q.id=y0 at *
     generalize ((q.n:Nat):Int)=y1 at *
     generalize bs q.text=y2 at *
     generalize bs q.value=y3 at *
     go_wp2_with fail
     go_quiet (fail)
     go_wp2_with fail
     go_ret
     exact⟨rfl,_,qgiq _ _ _⟩
   ·obtain rfl:k=na:=by omega
    have hD:D=true:=by rw[←HD.out];exact decide_eq_true (qs8g HLA.out HLB.out hS)
    subst hD
    clear hS hlt hk
    go_wp2_with fail
    go_ret
    exact⟨rfl,_,rfl⟩
 ·have hD:decide (l=m)=false:=decide_eq_false fun e=>hn (by rw[←hla,←hlb,e])
  have q0:((na:Int) != (nb:Int))=true:=by rw[bne_iff_ne];omega
  rw[hD]
  clear hA hB hla hlb hN hM hD hn
  go_enter Try.func35,Try.ntmps35
  go_wp2_with fail
  go_ret
  exact⟨rfl,0,rfl⟩
end Go.Proofs.Ythhdhagenmcbeaa
