/- The contracts of control.byKind and control.tailed. Condition: kind and version are ints. -/
import Derived.Laws.ResultCell
import Derived.Test.YtbklidpadffpgaaK02
import Derived.Test.YtbklidpadffpgaaK14
import Derived.Test.YtbklidpadffpgaaK03
import Derived.Test.YtbklidpadffpgaaK10
import Derived.Test.YtbklidpadffpgaaK15
import Derived.Test.YtbklidpadffpgaaK06
set_option maxRecDepth 100000
set_option maxHeartbeats 4000000
namespace Go.Proofs.Ytbklidpadffpgaa
open Go.RowKit
def qv0k(f:Nat):Value := .func (.func f) #[.agg #[]] #[]
def qo38:List (Int×Value):=[(15,qv0k 58),(14,qv0k 57),(13,qv0k 56),(12,qv0k 56)]
def qvwa(w:World)(b:Nat):Prop:=qwau Try.prog 3 w b .nilFunc qo38
theorem qa1p(w:World):Calls Try.prog 34 #[] w fun e w'=>∃b,e = .returned (.map (some b))∧qvwa w' b∧Below w.heap.size w w':=by
 have hmf:∀(fn:Fn) (first cap:Array Value) (w:World),(Instr.makeFunc fn first cap).run Try.prog w = .ok (.func fn first cap) w:=fun _ _ _ _=>rfl
 have hmm:=@run_makeMap Try.prog
 have hG:qpdk Try.prog 3 w ((w.alloc (.cells #[] 108)).alloc (.map #[] 0)) (w.heap.size+1) .nilFunc []:=by
  have h:=qwau.made (w.alloc (.cells #[] 108)) Try.prog 3 .nilFunc
  rw[show(w.alloc (.cells #[] 108)).heap.size=w.heap.size+1 by simp] at h
  exact⟨h,((Below.refl _ _).alloc (Nat.le_refl _) _).alloc (by simp) _,Nat.le_succ _⟩
 go_enter Try.func34,Try.ntmps34
 go_wp2_with (refine q6d2 rfl _ _ _ 74 rfl 3 72 Try.underlying3 Try.underlying74 _ _ _ rfl hG (by simp[maxLen]) _ _ rfl rfl (by decide) ?_;clear hG;intro w1 hG)
 go_ret
 exact⟨_,rfl,hG.1,hG.2.1⟩
theorem qena(x:Int)(w:World):Calls Try.prog 56 #[.agg #[],.int .i64 x] w fun e w'=>e = .returned (.tuple #[.bool false,.int .i64 0])∧Below w.heap.size w w':=by
 go_enter Try.func56,Try.ntmps56
 go_wp2_with fail
 go_ret2
 exact⟨rfl,qybm _⟩
theorem qugm(x:Int)(w:World):Calls Try.prog 57 #[.agg #[],.int .i64 x] w fun e w'=>e = .returned (.tuple #[.bool (x==5),.int .i64 0])∧Below w.heap.size w w':=by
 go_enter Try.func57,Try.ntmps57
 go_wp2_with fail
 go_ret2
 exact⟨rfl,qybm _⟩
theorem qtnb(x:Int)(w:World):Calls Try.prog 58 #[.agg #[],.int .i64 x] w fun e w'=>e = .returned (.tuple #[.bool (x==5),.int .i64 (if x=5 then 0 else 8)])∧Below w.heap.size w w':=by
 by_cases h5:x=5
 ·subst h5
  go_enter Try.func58,Try.ntmps58
  go_wp2_with fail
  go_ret2
  exact⟨rfl,qybm _⟩
 ·have h1:(x==5)=false:=beq_eq_false_iff_ne.2 h5
  have h2:(x != 5)=true:=by simpa using h5
  rw[if_neg h5,h1]
  clear h5
  go_enter Try.func58,Try.ntmps58
  go_wp2_with fail
  go_ret2
  exact⟨rfl,qybm _⟩
theorem q24b(W:World):(zeroValue 72).run Try.prog W = .ok .nilFunc W:=by kernel_rfl
theorem qv3n{n:Int}(h0:-9223372036854775808≤n)(h1:n≤9223372036854775807):(Lit.int .i64 n).wf=true:=by
 simp[Lit.wf,IntKind.min,IntKind.max,IntKind.signed,IntKind.bits];omega
theorem q2qrj{k:Int}(hk0:-9223372036854775808≤k)(hk1:k≤9223372036854775807)(W:World)(b:Nat)(h:qvwa W b) :
 (Instr.lookup 74 (.map (some b)) (.int .i64 k) true).run Try.prog W = .ok (.tuple #[q1n3 .nilFunc qo38 k,.bool (hasK qo38 k)]) W:=
 h.look Try.underlying3 Try.underlying74 (q24b W) (qv3n hk0 hk1)
theorem qkgb(v k:Int)(w:World)(hk0:-9223372036854775808≤k)(hk1:k≤9223372036854775807) :
 Calls Try.prog 21 #[.int .i64 v,.int .i64 k] w fun e w'=>e = .returned (.tuple #[.bool (qyjk v k).1,.int .i64 ((qyjk v k).2:Nat)])∧Below w.heap.size w w':=by
 have LK:=q2qrj hk0 hk1
 have hv:(v=4∨v=5)∨((v==4)=false∧(v==5)=false)∧(v != 4)=true∧(v != 5)=true∧versC v=false:=by
  by_cases h4:v=4
  ·exact .inl (.inl h4)
  by_cases h5:v=5
  ·exact .inl (.inr h5)
  exact .inr ⟨⟨beq_eq_false_iff_ne.2 h4,beq_eq_false_iff_ne.2 h5⟩,by simpa using h4,by simpa using h5,by simp[versC,h4,h5]⟩
 have hk:(k=12∨k=13∨k=14∨k=15)∨q1n3 .nilFunc qo38 k = .nilFunc∧hasK qo38 k=false∧q5t0 k=false:=by
  by_cases h:k=12∨k=13∨k=14∨k=15
  ·exact .inl h
  ·refine .inr ⟨?_,?_,?_⟩
   ·simp only[qo38,q1n3];rw[if_neg (by omega),if_neg (by omega),if_neg (by omega),if_neg (by omega)]
   ·simp only[qo38,hasK];rw[if_neg (by omega),if_neg (by omega),if_neg (by omega),if_neg (by omega)]
   ·simp only[q5t0,Bool.and_eq_false_iff,decide_eq_false_iff_not];omega
 have PI:=Lib.hid qena
 have DI:=Lib.hid qugm
 have AU:=Lib.hid qtnb
 have KD:=Lib.hid qa1p
 rcases hk with hk | ⟨l1,l2,l3⟩
 ·rcases hv with hv | ⟨⟨v1,v2⟩,v3,v4,v5⟩
  ·rcases hk with rfl | rfl | rfl | rfl
   case' inl=>
    have hh:hasK qo38 12=true:=rfl
    have hl:q1n3 .nilFunc qo38 12 = .func (.func 56) #[.agg #[]] #[]:=rfl
   case' inr.inl=>
    have hh:hasK qo38 13=true:=rfl
    have hl:q1n3 .nilFunc qo38 13 = .func (.func 56) #[.agg #[]] #[]:=rfl
   case' inr.inr.inl=>
    have hh:hasK qo38 14=true:=rfl
    have hl:q1n3 .nilFunc qo38 14 = .func (.func 57) #[.agg #[]] #[]:=rfl
   case' inr.inr.inr=>
    have hh:hasK qo38 15=true:=rfl
    have hl:q1n3 .nilFunc qo38 15 = .func (.func 58) #[.agg #[]] #[]:=rfl
   all_goals
    rw[hh,hl] at LK
    have LKH:=Lib.hid LK
    clear LK hh hl hk0 hk1
    rcases hv with rfl | rfl
    all_goals
     go_enter Try.func21,Try.ntmps21
     go_wp2_with fail
     refine(KD.out _).mono ?_
     rintro e W ⟨b,rfl,hK,hb⟩
     have lk:=LKH.out W b hK
     have LO:=Lib.hid hb
     clear hb hK
     go_wp2_with fail
     first
      | with_reducible refine(PI.out _ _).mono ?_
      | with_reducible refine(DI.out _ _).mono ?_
      | with_reducible refine(AU.out _ _).mono ?_
     rintro e W2 ⟨rfl,hb⟩
     have LO2:=Lib.hid (qxh2 LO.out hb)
     clear hb LO
     go_wp2_with fail
     go_ret2
     exact⟨rfl,LO2.out⟩
  ·have ht:qyjk v k=(false,2):=by simp[qyjk,v5]
   rw[ht]
   clear ht v5
   obtain⟨hh,f,hl⟩:hasK qo38 k=true∧∃f,q1n3 .nilFunc qo38 k = .func (.func f) #[.agg #[]] #[]:=by
    rcases hk with rfl | rfl | rfl | rfl
    all_goals exact⟨rfl,_,rfl⟩
   rw[hh,hl] at LK
   have LKH:=Lib.hid LK
   clear LK hh hl hk hk0 hk1
   go_enter Try.func21,Try.ntmps21
   go_wp2_with fail
   refine(KD.out _).mono ?_
   rintro e W ⟨b,rfl,hK,hb⟩
   have lk:=LKH.out W b hK
   have LO:=Lib.hid hb
   clear hb hK
   go_wp2_with fail
   go_ret2
   exact⟨rfl,LO.out⟩
 ·have ht:qyjk v k=(false,2):=by simp[qyjk,l3]
  rw[ht]
  rw[l1,l2] at LK
  have LKH:=Lib.hid LK
  clear LK ht l1 l2 l3 hv hk0 hk1
  go_enter Try.func21,Try.ntmps21
  go_wp2_with fail
  refine(KD.out _).mono ?_
  rintro e W ⟨b,rfl,hK,hb⟩
  have lk:=LKH.out W b hK
  have LO:=Lib.hid hb
  clear hb hK
  go_wp2_with fail
  go_ret2
  exact⟨rfl,LO.out⟩
theorem qx9v(p:Pk)(W:World)(h:p.wProps=[]∧p.codes=[]∧p.filters=[]∧p.props=[]):PkAt W p adZ:=
 ⟨by rw[h.1];exact fun e=>absurd rfl e,by rw[h.2.1];exact fun e=>absurd rfl e,by rw[h.2.2.1];exact fun e=>absurd rfl e,by rw[h.2.2.2];exact fun e=>absurd rfl e⟩
structure UsS(w:World)(p:Pk)(a:Ad)(x:Pk)(b:Ad)(W:World):Prop where
 low:Below w.heap.size w W
 box:W.heap[w.heap.size]? = some (.cells (pkC p a) 30 (0,0))
 res:W.heap[w.heap.size+1]? = some (.cells pkZ 30 (0,0))
 new:W.heap[w.heap.size+1+1]? = some (.cells (pkC x b) 30 (0,0))
section
variable{w W W':World}{p x:Pk}{a b:Ad}
theorem UsS.cell(h:UsS w p a x b W)(j:Nat):W.cell? ⟨w.heap.size,j,none⟩=(pkC p a)[j]? := cell_of_row _ _ j _ _ _ h.box
theorem UsS.ncell(h:UsS w p a x b W)(j:Nat):W.cell? ⟨w.heap.size+1+1,j,none⟩=(pkC x b)[j]? := cell_of_row _ _ j _ _ _ h.new
theorem UsS.fr(h:UsS w p a x b W)(j:Nat):W.frozen? ⟨w.heap.size+1+1,j,none⟩=false:=frozen_of_row _ _ _ _ _ h.new
theorem UsS.put(h:UsS w p a x b W)(j:Nat)(u:Value){x':Pk}{b':Ad}(he:(pkC x b).setIfInBounds j u=pkC x' b'):UsS w p a x' b' (W.setCell ⟨w.heap.size+1+1,j,none⟩ u):=
 ⟨h.low.setCell (by show _≤w.heap.size+1+1;omega) u,(heap_setCell_other W ⟨w.heap.size+1+1,j,none⟩ _ u (by show w.heap.size≠w.heap.size+1+1;omega)).trans h.box,(heap_setCell_other W ⟨w.heap.size+1+1,j,none⟩ _ u (by show w.heap.size+1≠w.heap.size+1+1;omega)).trans h.res,
  by have:=qlvy h.new j u;rw[he] at this;exact this⟩
theorem UsS.call(h:UsS w p a x b W)(hb:Below W.heap.size W W'):UsS w p a x b W':=
 ⟨qxh2 h.low hb,(hb.block _ (lt_of_block h.box)).trans h.box,(hb.block _ (lt_of_block h.res)).trans h.res,(hb.block _ (lt_of_block h.new)).trans h.new⟩
theorem UsS.drew(h:UsS w p a x b W):UsS w p a x b W.drew:=⟨h.low.drew,h.box,h.res,h.new⟩
end
end Go.Proofs.Ytbklidpadffpgaa
