/- The contracts of ack's known, necessary, used and Next. Condition: none. -/
import Derived.Great.BuildSlice
import Derived.Deep.DeepCutAuto
import Derived.Test.YtbklidpadffpgaaK15
import Derived.Test.YtbklidpadffpgaaK10
import Derived.Test.YtbklidpadffpgaaK06
import Derived.Test.YtbklidpadffpgaaK13
import Derived.Test.YtbklidpadffpgaaK18
set_option maxRecDepth 100000
set_option maxHeartbeats 2000000
namespace Go.Proofs.Ytbklidpadffpgaa
open Go.RowKit
theorem qnzz(v k:Int)(w:World):Calls Try.prog 30 #[.int .i64 v,.int .i64 k] w fun e w'=>e = .returned (.bool (versC v&&qvya k))∧w=w':=by
 unfold versC qvya
 have hv:v=4∨v=5∨((v==4)=false∧(v==5)=false):=by
  by_cases h4:v=4
  ·exact .inl h4
  by_cases h5:v=5
  ·exact .inr (.inl h5)
  exact .inr (.inr ⟨beq_eq_false_iff_ne.2 h4,beq_eq_false_iff_ne.2 h5⟩)
 have hk:decide (4≤k)=true∨decide (4≤k)=false:=by cases decide (4≤k)<;>simp
 rcases hv with rfl | rfl | ⟨h4,h5⟩
 ·rcases hk with k1 | k1
  all_goals
   rw[k1]
   go_enter Try.func30,Try.ntmps30
   go_wp2
   go_ret
   exact⟨by first | rfl | simp,rfl⟩
 ·rcases hk with k1 | k1
  all_goals
   rw[k1]
   go_enter Try.func30,Try.ntmps30
   go_wp2
   go_ret
   exact⟨by first | rfl | simp,rfl⟩
 ·rw[h4,h5]
  go_enter Try.func30,Try.ntmps30
  go_wp2
  go_ret
  exact⟨by first | rfl | simp,rfl⟩
theorem q6c0(p:Pk)(a:Ad)(w:World):Calls Try.prog 17 #[.agg (pkC p a)] w fun e w'=>e = .returned (.int .i64 (necA p:Nat))∧Below w.heap.size w w':=by
 have S0:=Lib.hid (BxS.made w p a)
 have c24:(w.alloc (.cells (pkC p a) 30)).cell? ⟨w.heap.size,24,none⟩=some (.slice a.ps p.props.length a.pc):=S0.out.cell 24
 have c21:(w.alloc (.cells (pkC p a) 30)).cell? ⟨w.heap.size,21,none⟩=some (.int .i64 p.code):=S0.out.cell 21
 unfold necA
 by_cases hl:p.props=[]
 ·have hz:p.props.length=0:=by rw[hl];rfl
  rw[if_neg (by simpa using hl)]
  rw[hz] at c24
  by_cases hc:p.code=0
  ·rw[if_neg (by simpa using hc)]
   rw[hc] at c21
   clear hl hc hz
   go_enter Try.func17,Try.ntmps17
   go_wp2_with fail
   go_ret
   exact⟨rfl,S0.out.low⟩
  ·rw[if_pos hc]
   have e1:(p.code==0)=false:=by simpa using hc
   have e2:(p.code != 0)=true:=by simpa using hc
   clear hl hc hz
   generalize p.code=c at *
   go_enter Try.func17,Try.ntmps17
   go_wp2_with fail
   go_ret
   exact⟨rfl,S0.out.low⟩
 ·rw[if_pos hl]
  have hz:0 < p.props.length:=List.length_pos_iff.2 hl
  clear hl
  generalize p.props.length=n at *
  go_enter Try.func17,Try.ntmps17
  go_wp2_with fail
  go_ret
  exact⟨rfl,S0.out.low⟩
def qo3o(v:Int)(p:Pk):Pk:={Pk.zero with kind:=p.kind,id:=p.id,code:=if v=5 then p.code else 0,props:=if v=5 then p.props else []}
def qi8p(v:Int)(a:Ad):Ad:={adZ with ps:=if v=5 then a.ps else none,pc:=if v=5 then a.pc else 0}
theorem qvqb{w:World}{p:Pk}{a:Ad}(v:Int)(h:PkAt w p a):PkAt w (qo3o v p) (qi8p v a):=by
 refine⟨fun e=>absurd rfl e,fun e=>absurd rfl e,fun e=>absurd rfl e,?_⟩
 unfold qo3o qi8p
 by_cases h5:v=5
 ·simp only[if_pos h5];exact h.ps
 ·simp only[if_neg h5];exact fun e=>absurd rfl e
theorem q9mw{p:Pk}(v:Int)(h:q21o p):q21o (qo3o v p):=by
 refine⟨Nat.zero_le _,Nat.zero_le _,?_,Nat.zero_le _⟩
 unfold qo3o
 by_cases h5:v=5
 ·simp only[if_pos h5];exact h.2.2.1
 ·simp only[if_neg h5];exact Nat.zero_le _
def us0A(p:Pk):Pk:={Pk.zero with kind:=p.kind,id:=p.id}
theorem qbym(v:Int)(p:Pk)(a:Ad)(w:World):Calls Try.prog 33 #[.int .i64 v,.agg (pkC p a)] w fun e w'=>e = .returned (.agg (pkC (qo3o v p) (qi8p v a)))∧Below w.heap.size w w':=by
 have Z0:((w.alloc (.cells (pkC p a) 30)).alloc (.cells pkZ 30)).heap.size=w.heap.size+1+1:=by simp
 have GN:(((w.alloc (.cells (pkC p a) 30)).alloc (.cells pkZ 30)).alloc (.cells pkZ 30)).heap[w.heap.size+1+1]? = some (.cells pkZ 30 (0,0)):=by
  have:=heap_alloc_new ((w.alloc (.cells (pkC p a) 30)).alloc (.cells pkZ 30)) (.cells pkZ 30)
  rw[Z0] at this;exact this
 have S0:UsS w p a (us0A p) adZ ((((w.alloc (.cells (pkC p a) 30)).alloc (.cells pkZ 30)).alloc (.cells pkZ 30)).setRow (w.heap.size+1+1) (pkC (us0A p) adZ)):=by
  refine⟨q8xz (qxh2 (qxh2 (qybm _) (qybm _)) (qybm _)) (by omega) _,?_,?_,setRow_heap _ _ _ _ _ _ GN⟩
  ·exact(setRow_other _ _ _ _ (by omega)).trans ((heap_alloc_old _ _ (by rw[Z0];omega)).trans (heap_alloc2_old _ _ _))
  ·exact(setRow_other _ _ _ _ (by omega)).trans ((heap_alloc_old _ _ (by rw[Z0];omega)).trans (heap_alloc2_new _ _ _))
 have hzv:=qrai
 have hne:¬pkZ=#[]:=by intro h;have:=qbwp;rw[h] at this;cases this
 have HZ:=Lib.hid qbwp
 have GN:=Lib.hid GN
 have hD1:=qwmp (us0A p) adZ
 have hD2:=qmz0 (us0A p) adZ
 obtain⟨D,hD⟩:∃D,pkC (us0A p) adZ=D:=⟨_,rfl⟩
 rw[hD] at hD1 hD2 S0
 have HD:=Lib.hid hD
 have HD1:=Lib.hid hD1
 have HD2:=Lib.hid hD2
 have HS0:=Lib.hid S0
 have k0:((w.alloc (.cells (pkC p a) 30)).alloc (.cells pkZ 30)).cell? ⟨w.heap.size,0,none⟩=some (.int .i64 p.kind):=cell_of_row _ _ 0 _ _ _ (heap_alloc2_old _ _ _)
 have k4:((w.alloc (.cells (pkC p a) 30)).alloc (.cells pkZ 30)).cell? ⟨w.heap.size,4,none⟩=some (.int .i64 p.id):=cell_of_row _ _ 4 _ _ _ (heap_alloc2_old _ _ _)
 clear S0 hD hD1 hD2 Z0
 go_enter Try.func33,Try.ntmps33
 go_upto_if 12 with (first
  | (refine wpList_buildTo rfl 30 _ rfl (some _) rfl D (by rw[←HD.out];kernel_rfl) ?_)
  | (refine wpList_store_row rfl _ _ _ rfl (w.heap.size+1+1) D rfl rfl 30 _ GN.out (by rw[HD1.out];exact q5nr) (by rw[HZ.out,HD1.out]) HD2.out ?_))
 clear k0 k4 GN HZ hne hzv
 go_cut [] (fun wx=>UsS w p a (qo3o v p) (qi8p v a) wx)
 case first=>
  generalize (((w.alloc (.cells (pkC p a) 30)).alloc (.cells pkZ 30)).alloc (.cells pkZ 30)).setRow (w.heap.size+1+1) D=W at *
  by_cases h5:v=5
  ·subst h5
   have S1:=Lib.hid ((HS0.out.put 21 (.int .i64 p.code) (x':={us0A p with code:=p.code}) (b':=adZ) rfl).put 24 (.slice a.ps p.props.length a.pc) (x':=qo3o 5 p) (b':=qi8p 5 a) rfl)
   have k21:W.cell? ⟨w.heap.size,21,none⟩=some (.int .i64 p.code):=HS0.out.cell 21
   have k24:W.cell? ⟨w.heap.size,24,none⟩=some (.slice a.ps p.props.length a.pc):=HS0.out.cell 24
   have n21:W.cell? ⟨w.heap.size+1+1,21,none⟩=some (.int .i64 0):=HS0.out.ncell 21
   have n24:W.cell? ⟨w.heap.size+1+1,24,none⟩=some (.slice none 0 0):=HS0.out.ncell 24
   have f21:=HS0.out.fr 21
   have f24:=HS0.out.fr 24
   clear HS0
   go_upto_region 3 with fail
   go_region
   go_wp2_with fail
   go_meet
   exact S1.out.drew
  ·have h5':(v==5)=false:=beq_eq_false_iff_ne.2 h5
   have SB:=Lib.hid (show UsS w p a (qo3o v p) (qi8p v a) W by
    unfold qo3o qi8p
    rw[if_neg h5,if_neg h5,if_neg h5,if_neg h5];exact HS0.out)
   clear HS0 h5
   go_wp2_with fail
   go_meet
   exact SB.out
 case rest=>
  have HS:=Lib.hid hcut
  clear hcut HS0
  have GB:=HS.out.new
  have GR:=Lib.hid HS.out.res
  have LO:=Lib.hid HS.out.low
  have hR1:=qwmp (qo3o v p) (qi8p v a)
  have hR2:=qmz0 (qo3o v p) (qi8p v a)
  obtain⟨R,hR⟩:∃R,pkC (qo3o v p) (qi8p v a)=R:=⟨_,rfl⟩
  rw[hR] at GB hR1 hR2
  have HR:=Lib.hid hR
  have GB:=Lib.hid GB
  have HR1:=Lib.hid hR1
  have HR2:=Lib.hid hR2
  clear hR1 hR2 HS hR
  go_wp2_with (first
   | (refine wpList_load_row rfl _ _ rfl (w.heap.size+1+1) rfl 30 R (0,0) _ GB.out Try.underlying30 rfl (by rw[HR1.out];exact q5nr) ?_)
   | (refine wpList_store_row rfl _ _ _ rfl (w.heap.size+1) R rfl rfl 30 _ GR.out (by rw[HR1.out];exact q5nr) (by rw[qbwp,HR1.out]) HR2.out ?_))
  exact q7wi (cs:=R) rfl rfl rfl Try.underlying30 rfl (by rw[HR1.out];exact q5nr) (setRow_heap _ _ _ _ _ _ GR.out) ⟨by rw[HR.out],q8xz LO.out (by omega) _⟩
end Go.Proofs.Ytbklidpadffpgaa
