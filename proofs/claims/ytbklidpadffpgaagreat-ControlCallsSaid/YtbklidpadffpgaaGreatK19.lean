/- The contracts of control.byKind and control.tailed. Condition: kind and version are ints. -/
import Derived.StillTailTactics
import Derived.IntWalk
import Derived.Deep.LoopGhost
import Derived.Deep.QuietTactic
import Derived.WalkSmall
import Derived.Test.YtbklidpadffpgaaGreatK03
import Derived.Test.YtbklidpadffpgaaGreatK12
import Derived.Test.YtbklidpadffpgaaGreatK04
import Derived.Test.YtbklidpadffpgaaGreatK11
import Derived.Test.YtbklidpadffpgaaGreatK18
import Derived.Test.YtbklidpadffpgaaGreatK05
import Derived.Test.YtbklidpadffpgaaGreatK06
import Derived.Test.YtbklidpadffpgaaGreatK10
import Derived.Test.YtbklidpadffpgaaGreatK17
import Derived.Test.YtbklidpadffpgaaGreatK08
set_option maxRecDepth 100000
set_option maxHeartbeats 4000000
namespace Go.Proofs.YtbklidpadffpgaaGreat
open Go.RowKit
def qv0k(f:Nat):Value := .func (.func f) #[.agg #[]] #[]
def qo38:List (Int×Value):=[(15,qv0k 75),(14,qv0k 74),(13,qv0k 73),(12,qv0k 73)]
def qvwa(w:World)(b:Nat):Prop:=qwau Tryz.prog 3 w b .nilFunc qo38
theorem qa1p(w:World):Calls Tryz.prog 43 #[] w fun e w'=>∃b,e = .returned (.map (some b))∧qvwa w' b∧Below w.heap.size w w':=by
 have hmf:∀(fn:Fn) (first cap:Array Value) (w:World),(Instr.makeFunc fn first cap).run Tryz.prog w = .ok (.func fn first cap) w:=fun _ _ _ _=>rfl
 have hmm:=@run_makeMap Tryz.prog
 have hG:qpdk Tryz.prog 3 w ((w.alloc (.cells #[] 108)).alloc (.map #[] 0)) (w.heap.size+1) .nilFunc []:=by
  have h:=qwau.made (w.alloc (.cells #[] 108)) Tryz.prog 3 .nilFunc
  rw[show(w.alloc (.cells #[] 108)).heap.size=w.heap.size+1 by simp] at h
  exact⟨h,((Below.refl _ _).alloc (Nat.le_refl _) _).alloc (by simp) _,Nat.le_succ _⟩
 go_enter Tryz.func43,Tryz.ntmps43
 go_wp2_with (refine q6d2 rfl _ _ _ 73 rfl 3 71 Tryz.underlying3 Tryz.underlying73 _ _ _ rfl hG (by simp[maxLen]) _ _ rfl rfl (by decide) ?_;clear hG;intro w1 hG)
 go_ret
 exact⟨_,rfl,hG.1,hG.2.1⟩
theorem qena(x:Int)(w:World):Calls Tryz.prog 73 #[.agg #[],.int .i64 x] w fun e w'=>e = .returned (.tuple #[.bool false,.int .i64 0])∧Below w.heap.size w w':=by
 go_enter Tryz.func73,Tryz.ntmps73
 go_wp2_with fail
 go_ret2
 exact⟨rfl,qybm _⟩
theorem qugm(x:Int)(w:World):Calls Tryz.prog 74 #[.agg #[],.int .i64 x] w fun e w'=>e = .returned (.tuple #[.bool (x==5),.int .i64 0])∧Below w.heap.size w w':=by
 go_enter Tryz.func74,Tryz.ntmps74
 go_wp2_with fail
 go_ret2
 exact⟨rfl,qybm _⟩
theorem qtnb(x:Int)(w:World):Calls Tryz.prog 75 #[.agg #[],.int .i64 x] w fun e w'=>e = .returned (.tuple #[.bool (x==5),.int .i64 (if x=5 then 0 else 8)])∧Below w.heap.size w w':=by
 by_cases h5:x=5
 ·subst h5
  go_enter Tryz.func75,Tryz.ntmps75
  go_wp2_with fail
  go_ret2
  exact⟨rfl,qybm _⟩
 ·have h1:(x==5)=false:=beq_eq_false_iff_ne.2 h5
  have h2:(x != 5)=true:=by simpa using h5
  rw[if_neg h5,h1]
  clear h5
  go_enter Tryz.func75,Tryz.ntmps75
  go_wp2_with fail
  go_ret2
  exact⟨rfl,qybm _⟩
theorem q24b(W:World):(zeroValue 71).run Tryz.prog W = .ok .nilFunc W:=by kernel_rfl
theorem qv3n{n:Int}(h0:-9223372036854775808≤n)(h1:n≤9223372036854775807):(Lit.int .i64 n).wf=true:=by
 simp[Lit.wf,IntKind.min,IntKind.max,IntKind.signed,IntKind.bits];omega
theorem q2qrj{k:Int}(hk0:-9223372036854775808≤k)(hk1:k≤9223372036854775807)(W:World)(b:Nat)(h:qvwa W b) :
 (Instr.lookup 73 (.map (some b)) (.int .i64 k) true).run Tryz.prog W = .ok (.tuple #[q1n3 .nilFunc qo38 k,.bool (hasK qo38 k)]) W:=
 h.look Tryz.underlying3 Tryz.underlying73 (q24b W) (qv3n hk0 hk1)
theorem qkgb(v k:Int)(w:World)(hk0:-9223372036854775808≤k)(hk1:k≤9223372036854775807) :
 Calls Tryz.prog 20 #[.int .i64 v,.int .i64 k] w fun e w'=>e = .returned (.tuple #[.bool (qyjk v k).1,.int .i64 ((qyjk v k).2:Nat)])∧Below w.heap.size w w':=by
 have LK:=q2qrj hk0 hk1
 have hv:(v=4∨v=5)∨((v==4)=false∧(v==5)=false)∧(v != 4)=true∧(v != 5)=true∧qulp v=false:=by
  by_cases h4:v=4
  ·exact .inl (.inl h4)
  by_cases h5:v=5
  ·exact .inl (.inr h5)
  exact .inr ⟨⟨beq_eq_false_iff_ne.2 h4,beq_eq_false_iff_ne.2 h5⟩,by simpa using h4,by simpa using h5,by simp[qulp,h4,h5]⟩
 have hk:(k=12∨k=13∨k=14∨k=15)∨q1n3 .nilFunc qo38 k = .nilFunc∧hasK qo38 k=false∧q5t0 k=false:=by
  by_cases h:k=12∨k=13∨k=14∨k=15
  ·exact .inl h
  ·refine .inr ⟨?_,?_,?_⟩
   ·simp only[qo38,q1n3];rw[if_neg (by omega),if_neg (by omega),if_neg (by omega),if_neg (by omega)]
   ·simp only[qo38,hasK];rw[if_neg (by omega),if_neg (by omega),if_neg (by omega),if_neg (by omega)]
   ·simp only[q5t0,Bool.and_eq_false_iff,decide_eq_false_iff_not];omega
 have PI:=Lib.hid qena
 have DI:=Lib.hid qugm
 have AU:=Lib.hid qtnb
 have KD:=Lib.hid qa1p
 rcases hk with hk | ⟨l1,l2,l3⟩
 ·rcases hv with hv | ⟨⟨v1,v2⟩,v3,v4,v5⟩
  ·rcases hk with rfl | rfl | rfl | rfl
   case' inl=>
    have hh:hasK qo38 12=true:=rfl
    have hl:q1n3 .nilFunc qo38 12 = .func (.func 73) #[.agg #[]] #[]:=rfl
   case' inr.inl=>
    have hh:hasK qo38 13=true:=rfl
    have hl:q1n3 .nilFunc qo38 13 = .func (.func 73) #[.agg #[]] #[]:=rfl
   case' inr.inr.inl=>
    have hh:hasK qo38 14=true:=rfl
    have hl:q1n3 .nilFunc qo38 14 = .func (.func 74) #[.agg #[]] #[]:=rfl
   case' inr.inr.inr=>
    have hh:hasK qo38 15=true:=rfl
    have hl:q1n3 .nilFunc qo38 15 = .func (.func 75) #[.agg #[]] #[]:=rfl
   all_goals
    rw[hh,hl] at LK
    have LKH:=Lib.hid LK
    clear LK hh hl hk0 hk1
    rcases hv with rfl | rfl
    all_goals
     go_enter Tryz.func20,Tryz.ntmps20
     go_wp2_with fail
     refine(KD.out _).mono ?_
     rintro e W ⟨b,rfl,hK,hb⟩
     have lk:=LKH.out W b hK
     have LO:=Lib.hid hb
     clear hb hK
     go_wp2_with fail
     first
      | with_reducible refine(PI.out _ _).mono ?_
      | with_reducible refine(DI.out _ _).mono ?_
      | with_reducible refine(AU.out _ _).mono ?_
     rintro e W2 ⟨rfl,hb⟩
     have LO2:=Lib.hid (qxh2 LO.out hb)
     clear hb LO
     go_wp2_with fail
     go_ret2
     exact⟨rfl,LO2.out⟩
  ·have ht:qyjk v k=(false,2):=by simp[qyjk,v5]
   rw[ht]
   clear ht v5
   obtain⟨hh,f,hl⟩:hasK qo38 k=true∧∃f,q1n3 .nilFunc qo38 k = .func (.func f) #[.agg #[]] #[]:=by
    rcases hk with rfl | rfl | rfl | rfl
    all_goals exact⟨rfl,_,rfl⟩
   rw[hh,hl] at LK
   have LKH:=Lib.hid LK
   clear LK hh hl hk hk0 hk1
   go_enter Tryz.func20,Tryz.ntmps20
   go_wp2_with fail
   refine(KD.out _).mono ?_
   rintro e W ⟨b,rfl,hK,hb⟩
   have lk:=LKH.out W b hK
   have LO:=Lib.hid hb
   clear hb hK
   go_wp2_with fail
   go_ret2
   exact⟨rfl,LO.out⟩
 ·have ht:qyjk v k=(false,2):=by simp[qyjk,l3]
  rw[ht]
  rw[l1,l2] at LK
  have LKH:=Lib.hid LK
  clear LK ht l1 l2 l3 hv hk0 hk1
  go_enter Tryz.func20,Tryz.ntmps20
  go_wp2_with fail
  refine(KD.out _).mono ?_
  rintro e W ⟨b,rfl,hK,hb⟩
  have lk:=LKH.out W b hK
  have LO:=Lib.hid hb
  clear hb hK
  go_wp2_with fail
  go_ret2
  exact⟨rfl,LO.out⟩
theorem qa3p(W:World):PkAt W Pk.zero adZ:=⟨fun e=>absurd rfl e,fun e=>absurd rfl e,fun e=>absurd rfl e,fun e=>absurd rfl e⟩
theorem qx9v(p:Pk)(W:World)(h:p.wProps=[]∧p.codes=[]∧p.filters=[]∧p.props=[]):PkAt W p adZ:=
 ⟨by rw[h.1];exact fun e=>absurd rfl e,by rw[h.2.1];exact fun e=>absurd rfl e,by rw[h.2.2.1];exact fun e=>absurd rfl e,by rw[h.2.2.2];exact fun e=>absurd rfl e⟩
theorem qnz1(b:UInt8)(n:Nat)(w:World) :
 Calls Tryz.prog 140 #[.int .u8 b.toNat,.int .i64 n] w fun e w'=>e = .returned (.int .i64 (nxt b n))∧w=w':=by
 have hb:=b.toNat_lt
 have ha:=qm1s b
 by_cases h1:128≤b.toNat
 ·rw[if_pos h1] at ha
  by_cases h2:n=4
  ·subst h2
   have e:nxt b 4=2:=qt6b.2 (.inl ⟨h1,rfl⟩)
   rw[e];clear e
   go_enter Tryz.func140,Tryz.ntmps140
   go_wp2
   go_ret
   exact⟨rfl,rfl⟩
  ·have e:nxt b n=0:=qv8z.2 ⟨h1,h2⟩
   rw[e];clear e
   have h3:((n:Int)==4)=false:=by simp;omega
   go_enter Tryz.func140,Tryz.ntmps140
   go_wp2
   go_ret
   exact⟨rfl,rfl⟩
 ·rw[if_neg h1] at ha
  by_cases h2:b.toNat=0
  ·by_cases h3:1 < n
   ·have e:nxt b n=2:=qt6b.2 (.inr ⟨h2,h3⟩)
    rw[e];clear e
    rw[h2] at ha
    rw[h2]
    have h4:decide ((1:Int) < (n:Int))=true:=by simp;omega
    go_enter Tryz.func140,Tryz.ntmps140
    go_wp2
    go_ret
    exact⟨rfl,rfl⟩
   ·have e:nxt b n=1:=qicf.2 ⟨by omega,.inr (by omega)⟩
    rw[e];clear e
    rw[h2] at ha
    rw[h2]
    have h4:decide ((1:Int) < (n:Int))=false:=by simp;omega
    go_enter Tryz.func140,Tryz.ntmps140
    go_wp2
    go_ret
    exact⟨rfl,rfl⟩
  ·have e:nxt b n=1:=qicf.2 ⟨by omega,.inl (by omega)⟩
   rw[e];clear e
   have h4:((b.toNat:Int)==0)=false:=by simp;omega
   go_enter Tryz.func140,Tryz.ntmps140
   go_wp2
   go_ret
   exact⟨rfl,rfl⟩
def qxoj(b v n st:Nat):Array Value:=#[.pointer (some ⟨b,0,none⟩),.int .i64 v,.int .i64 n,.int .i64 st]
def Rd(w:World)(b v n st:Nat):Prop:=w.heap[b]? = some (.cells (qxoj b v n st) 159 (0,0))
section
variable{w w':World}{b v n st:Nat}
theorem Rd.lt(h:Rd w b v n st):b < w.heap.size:=lt_of_block h
theorem Rd.cell(h:Rd w b v n st)(j:Nat):w.cell? ⟨b,j,none⟩=(qxoj b v n st)[j]? := cell_of_row w b j _ _ (0,0) h
theorem Rd.c0(h:Rd w b v n st):w.cell? ⟨b,0,none⟩=some (.pointer (some ⟨b,0,none⟩)):=h.cell 0
theorem Rd.c1(h:Rd w b v n st):w.cell? ⟨b,1,none⟩=some (.int .i64 v):=h.cell 1
theorem Rd.c2(h:Rd w b v n st):w.cell? ⟨b,2,none⟩=some (.int .i64 n):=h.cell 2
theorem Rd.c3(h:Rd w b v n st):w.cell? ⟨b,3,none⟩=some (.int .i64 st):=h.cell 3
theorem Rd.fr(h:Rd w b v n st)(j:Nat):w.frozen? ⟨b,j,none⟩=false:=by unfold Rd at h;simp[World.frozen?,h]
theorem Rd.draws(h:Rd w b v n st)(k:Nat):Rd (w.drewN k) b v n st:=h
theorem Rd.drew(h:Rd w b v n st):Rd w.drew b v n st:=h
theorem Rd.of_block(h:Rd w b v n st)(hb:w'.heap[b]? = w.heap[b]?):Rd w' b v n st:=hb.trans h
theorem Rd.val(h:Rd w b v n st)(u:Nat):Rd (w.setCell ⟨b,1,none⟩ (.int .i64 u)) b u n st:=qlvy h 1 _
theorem Rd.siz(h:Rd w b v n st)(u:Nat):Rd (w.setCell ⟨b,2,none⟩ (.int .i64 u)) b v u st:=qlvy h 2 _
theorem Rd.sta(h:Rd w b v n st)(u:Nat):Rd (w.setCell ⟨b,3,none⟩ (.int .i64 u)) b v n u:=qlvy h 3 _
end
theorem qp2k:∃j,Tryz.prog.info? 159=some j:=Option.isSome_iff_exists.1 (by kernel_rfl)
theorem quhv{w:World}{b v n st:Nat}(hc:Rd w b v n st) :
 Calls Tryz.prog 139 #[.pointer (some ⟨b,0,none⟩)] w fun e w'=>e = .returned (.bool true)∧w=w':=by
 obtain⟨j,hj⟩:=qp2k
 have heq:=fun W:World=>run_eql_ptr_same (P:=Tryz.prog) W ⟨b,0,none⟩ Tryz.underlying154 hj
 have h0:=hc.c0
 clear hj
 go_enter Tryz.func139,Tryz.ntmps139
 go_wp2
 go_ret
 exact⟨rfl,rfl⟩
theorem qz5z(w:World) :
 Calls Tryz.prog 114 #[] w fun e w'=>e = .returned (.pointer (some ⟨w.heap.size,0,none⟩))∧Rd w' w.heap.size 0 0 0∧Below w.heap.size w w':=by
 go_enter Tryz.func114,Tryz.ntmps114
 go_wp2
 go_ret
 exact⟨rfl,heap_alloc_new w _,(Below.refl _ _).alloc (Nat.le_refl _) _⟩
theorem qh0o(v n:Nat)(x:UInt8)(hv:v < 128^n)(hn:n < 4):bits .or .i64 (v:Int) (IntKind.i64.wrap ((x.toNat:Int)%128*2^(7*(n:Int)).toNat))=((grow v n x:Nat):Int):=by
 have e1:(7*(n:Int)).toNat=7*n:=by omega
 have e128:(128:Nat)^n=2^(7*n):=by rw[Nat.pow_mul]
 have hp:(2:Nat)^(7*n)≤2^21:=Nat.pow_le_pow_right (by decide) (by omega)
 have hx:x.toNat%128≤127:=by omega
 have hm:x.toNat%128*2^(7*n)≤127*2^21:=Nat.mul_le_mul hx hp
 have e2:(x.toNat:Int)%128*2^(7*n)=((x.toNat%128*2^(7*n):Nat):Int):=by simp
 unfold grow
 rw[e128] at hv ⊢
 rw[e1,e2,IntWalk.i64_in _ (by omega)]
 rw[(bits_nat .i64 28 (by decide) (fun m h0 h1=>IntWalk.i64_in _ (by omega)) v (x.toNat%128*2^(7*n)) (by omega) (by omega)).2]
 congr 1
 rw[Nat.or_comm,Nat.mul_comm,←Nat.two_pow_add_eq_or_of_lt hv (x.toNat%128)]
 omega
theorem qh0d{w:World}{b v n:Nat}(x:UInt8)(hc:Rd w b v n 0)(hv:v < 128^n)(hn:n < 4)(hx:nxt x (n+1)=0) :
 Calls Tryz.prog 115 #[.pointer (some ⟨b,0,none⟩),.int .u8 x.toNat] w fun e w'=>e = .returned (.tuple #[.bool false,.int .i64 0])∧Rd w' b (grow v n x) (n+1) 0∧w.grownBy w' (some b):=by
 have h1:=hc.c1
 have h2:=hc.c2
 have h3:=hc.c3
 have f1:=hc.fr 1
 have f2:=hc.fr 2
 have f3:=hc.fr 3
 have ha:=qbg0 x
 have e1:IntKind.i64.wrap ((x.toNat:Int)%128)=(x.toNat:Int)%128:=IntWalk.i64_in _ (by omega)
 have e2:IntKind.i64.wrap (7*(n:Int))=7*(n:Int):=IntWalk.i64_in _ (by omega)
 have e3:(0:Int)≤7*(n:Int):=by omega
 have e4:=qh0o v n x hv hn
 have NX:=Lib.hid (show ∀W,Calls Tryz.prog 140 #[.int .u8 x.toNat,.int .i64 ((n:Int)+1)] W fun e w'=>e = .returned (.int .i64 0)∧W=w' from fun W=>by
  have h:=qnz1 x (n+1) W
  rw[hx] at h
  exact h)
 clear hx
 generalize grow v n x=u at e4
 go_enter Tryz.func115,Tryz.ntmps115
 go_wp2_with (go_at_call 139;refine(quhv hc).mono ?_;rintro e' w' ⟨rfl,rfl⟩)
 go_still_tail 16,(by kernel_rfl)
 change wpList _ _ _ _ _ w.drew
 have hd:Rd w.drew b v n 0:=hc.drew
 have hg:w.grownBy w.drew (some b):=⟨rfl,rfl,rfl,Nat.le_refl _,fun _ _ _=>rfl⟩
 generalize w.drew=W at hd hg
 clear h1 h2 h3 f1 f2 f3
 have h1:=hd.c1
 have h2:=hd.c2
 have h3:=hd.c3
 have f1:=hd.fr 1
 have f2:=hd.fr 2
 have f3:=hd.fr 3
 go_wp2_with (go_at_call 140;refine(NX.out _).mono ?_;rintro e' w' ⟨rfl,rfl⟩)
 go_ret2
 exact⟨rfl,((hd.val u).siz (n+1)).sta 0,qo6d hg (qo6d (qo6d (q99v _ _ _ _) (q99v _ _ _ _)) (q99v _ _ _ _))⟩
theorem qhre{w:World}{b v n:Nat}(x:UInt8)(hc:Rd w b v n 0)(hv:v < 128^n)(hn:n < 4)(hx:nxt x (n+1)=1) :
 Calls Tryz.prog 115 #[.pointer (some ⟨b,0,none⟩),.int .u8 x.toNat] w fun e w'=>e = .returned (.tuple #[.bool true,.int .i64 0])∧Rd w' b (grow v n x) (n+1) 1∧w.grownBy w' (some b):=by
 have h1:=hc.c1
 have h2:=hc.c2
 have h3:=hc.c3
 have f1:=hc.fr 1
 have f2:=hc.fr 2
 have f3:=hc.fr 3
 have ha:=qbg0 x
 have e1:IntKind.i64.wrap ((x.toNat:Int)%128)=(x.toNat:Int)%128:=IntWalk.i64_in _ (by omega)
 have e2:IntKind.i64.wrap (7*(n:Int))=7*(n:Int):=IntWalk.i64_in _ (by omega)
 have e3:(0:Int)≤7*(n:Int):=by omega
 have e4:=qh0o v n x hv hn
 have NX:=Lib.hid (show ∀W,Calls Tryz.prog 140 #[.int .u8 x.toNat,.int .i64 ((n:Int)+1)] W fun e w'=>e = .returned (.int .i64 1)∧W=w' from fun W=>by
  have h:=qnz1 x (n+1) W
  rw[hx] at h
  exact h)
 clear hx
 generalize grow v n x=u at e4
 go_enter Tryz.func115,Tryz.ntmps115
 go_wp2_with (go_at_call 139;refine(quhv hc).mono ?_;rintro e' w' ⟨rfl,rfl⟩)
 go_still_tail 16,(by kernel_rfl)
 change wpList _ _ _ _ _ w.drew
 have hd:Rd w.drew b v n 0:=hc.drew
 have hg:w.grownBy w.drew (some b):=⟨rfl,rfl,rfl,Nat.le_refl _,fun _ _ _=>rfl⟩
 generalize w.drew=W at hd hg
 clear h1 h2 h3 f1 f2 f3
 have h1:=hd.c1
 have h2:=hd.c2
 have h3:=hd.c3
 have f1:=hd.fr 1
 have f2:=hd.fr 2
 have f3:=hd.fr 3
 go_wp2_with (go_at_call 140;refine(NX.out _).mono ?_;rintro e' w' ⟨rfl,rfl⟩)
 go_ret2
 exact⟨rfl,((hd.val u).siz (n+1)).sta 1,qo6d hg (qo6d (qo6d (q99v _ _ _ _) (q99v _ _ _ _)) (q99v _ _ _ _))⟩
theorem qdxq{w:World}{b v n:Nat}(x:UInt8)(hc:Rd w b v n 0)(hv:v < 128^n)(hn:n < 4)(hx:nxt x (n+1)=2) :
 Calls Tryz.prog 115 #[.pointer (some ⟨b,0,none⟩),.int .u8 x.toNat] w fun e w'=>e = .returned (.tuple #[.bool false,.int .i64 5])∧Rd w' b (grow v n x) (n+1) 2∧w.grownBy w' (some b):=by
 have h1:=hc.c1
 have h2:=hc.c2
 have h3:=hc.c3
 have f1:=hc.fr 1
 have f2:=hc.fr 2
 have f3:=hc.fr 3
 have ha:=qbg0 x
 have e1:IntKind.i64.wrap ((x.toNat:Int)%128)=(x.toNat:Int)%128:=IntWalk.i64_in _ (by omega)
 have e2:IntKind.i64.wrap (7*(n:Int))=7*(n:Int):=IntWalk.i64_in _ (by omega)
 have e3:(0:Int)≤7*(n:Int):=by omega
 have e4:=qh0o v n x hv hn
 have NX:=Lib.hid (show ∀W,Calls Tryz.prog 140 #[.int .u8 x.toNat,.int .i64 ((n:Int)+1)] W fun e w'=>e = .returned (.int .i64 2)∧W=w' from fun W=>by
  have h:=qnz1 x (n+1) W
  rw[hx] at h
  exact h)
 clear hx
 generalize grow v n x=u at e4
 go_enter Tryz.func115,Tryz.ntmps115
 go_wp2_with (go_at_call 139;refine(quhv hc).mono ?_;rintro e' w' ⟨rfl,rfl⟩)
 go_still_tail 16,(by kernel_rfl)
 change wpList _ _ _ _ _ w.drew
 have hd:Rd w.drew b v n 0:=hc.drew
 have hg:w.grownBy w.drew (some b):=⟨rfl,rfl,rfl,Nat.le_refl _,fun _ _ _=>rfl⟩
 generalize w.drew=W at hd hg
 clear h1 h2 h3 f1 f2 f3
 have h1:=hd.c1
 have h2:=hd.c2
 have h3:=hd.c3
 have f1:=hd.fr 1
 have f2:=hd.fr 2
 have f3:=hd.fr 3
 go_wp2_with (go_at_call 140;refine(NX.out _).mono ?_;rintro e' w' ⟨rfl,rfl⟩)
 go_ret2
 exact⟨rfl,((hd.val u).siz (n+1)).sta 2,qo6d hg (qo6d (qo6d (q99v _ _ _ _) (q99v _ _ _ _)) (q99v _ _ _ _))⟩
theorem qe0g(s:ByteArray)(k:Nat)(h:k < s.size):s.data.toList.drop k=s[k]::s.data.toList.drop (k+1):=by
 rw[List.drop_eq_getElem_cons (by simpa using h)];rfl
theorem qhwc(s:ByteArray):s.data.toList.drop s.size=[]:=List.drop_of_length_le (by simp)
def q51h(l:List UInt8):Ending := .returned (.tuple #[.int .i64 (rdV l),.int .i64 (rdN l),.int .i64 (rdE l)])
theorem qxud{l:List UInt8}{v n st:Nat}{a b c:Int}(h:run 0 0 l=(v,n,st))(ha:((if st=1 then v else 0:Nat):Int)=a)(hb:((if st=1 then n else 0:Nat):Int)=b)
 (hc:((if st=0 then 3 else if st=1 then 0 else 5:Nat):Int)=c):Ending.returned (.tuple #[.int .i64 a,.int .i64 b,.int .i64 c])=q51h l:=by
 obtain⟨h1,h2,h3⟩:=qa1w h
 rw[←ha,←hb,←hc,←h1,←h2,←h3];rfl
def qxfh(l:List UInt8)(w:World)(e:Ending)(w':World):Prop:=e=q51h l∧Below w.heap.size w w'
def q905(w:World)(l:List UInt8)(k:Nat)(wr:World):Prop:=∃v,k < 4∧v < 128^k∧Rd wr w.heap.size v k 0∧Below w.heap.size w wr∧run 0 0 l=run v k (l.drop k)
theorem q58y{w wr w1:World}(hb:Below w.heap.size w wr)(hg:wr.grownBy w1 (some w.heap.size)):Below w.heap.size w w1:=
 hb.grown hg hb.size (fun k hk=>by cases hk;exact Nat.le_refl _)
theorem q6w6(s:ByteArray)(w:World)(_hm:s.size≤9223372036854775807) :
 Calls Tryz.prog 78 #[.string s] w (qxfh s.data.toList w):=by
 go_enter Tryz.func78,Tryz.ntmps78
 go_wp2_with fail
 refine(qz5z _).mono ?_
 rintro e w1 ⟨rfl,hr,hb⟩
 have H:=Lib.hid (show q905 w s.data.toList 0 w1 from⟨0,by decide,by decide,hr,hb,rfl⟩)
 clear hr hb
 go_wp2_with fail
 go_loopw [12] (fun i wr=>∃k:Nat,k≤s.size∧i = .int .i64 k∧q905 w s.data.toList k wr) (fun i _=>s.size - (intOf i).toNat)
 case atStart=>exact⟨0,Nat.zero_le _,rfl,H.out⟩
 case round=>
  obtain⟨k,hk,rfl,v,hk4,hv,hr,hb,hrun⟩:=hrel
  clear H
  by_cases hlt:k < s.size
  ·have hd:=qe0g s k hlt
   have RUN:=Lib.hid hrun
   have D:=Lib.hid hd
   clear hrun hd
   rcases qlf0 s[k] (k+1) with hx | hx | hx
   ·have NX:=Lib.hid hx
    clear hx
    go_wp2_with fail
    refine(qh0d s[k] hr hv hk4 NX.out).mono ?_
    rintro e w2 ⟨rfl,hr2,hg⟩
    have hb2:=q58y hb hg
    go_wp2_with fail
    go_roundw
    case rel=>
     have h4:=(qv8z.1 NX.out).2
     refine⟨k+1,by omega,by go_num,_,by omega,qpfr _ hv,hr2,hb2,?_⟩
     rw[RUN.out,D.out,qomx _ NX.out]
    case measure=>simp[intOf];omega
   ·have NX:=Lib.hid hx
    clear hx
    go_wp2_with fail
    refine(qhre s[k] hr hv hk4 NX.out).mono ?_
    rintro e w2 ⟨rfl,hr2,hg⟩
    have hb2:=q58y hb hg
    have RR:=Lib.hid (qxud (l:=s.data.toList) (v:=grow v k s[k]) (n:=k+1) (st:=1) (by rw[RUN.out,D.out,q408 _ (by rw[NX.out];decide),NX.out]) rfl rfl rfl)
    have h1:=hr2.c1
    have h2:=hr2.c2
    go_wp2_with fail
    go_quiet (fail)
    go_wp2
    go_ret3
    exact⟨RR.out,qnpu hb2 _⟩
   ·have NX:=Lib.hid hx
    clear hx
    go_wp2_with fail
    refine(qdxq s[k] hr hv hk4 NX.out).mono ?_
    rintro e w2 ⟨rfl,hr2,hg⟩
    have hb2:=q58y hb hg
    have RR:=Lib.hid (qxud (l:=s.data.toList) (v:=grow v k s[k]) (n:=k+1) (st:=2) (by rw[RUN.out,D.out,q408 _ (by rw[NX.out];decide),NX.out]) rfl rfl rfl)
    go_wp2_with fail
    go_ret3
    exact⟨RR.out,hb2⟩
  ·obtain rfl:k=s.size:=by omega
   have RR:=Lib.hid (qxud (l:=s.data.toList) (v:=v) (n:=s.size) (st:=0) (by rw[hrun,qhwc];rfl) rfl rfl rfl)
   clear hrun
   go_wp2
   go_ret3
   exact⟨RR.out,hb⟩
def qymj(l:List Pr):Nat:=(l.map fun p=>p.text.length+p.value.length).sum
theorem qoqr(l:List Pr)(p:Pr):qymj (l++[p])=qymj l+p.text.length+p.value.length:=by simp[qymj];omega
def q2y5(l:List Pr):Bool:=decide (l.length≤1010)&&decide (qymj l≤140000)
theorem qv17(A:Option Addr)(c:Nat)(w:World) :
 Calls Tryz.prog 58 #[.slice A 0 c] w fun e w'=>e = .returned (.int .i64 0)∧∃m,w'=w.drewN m:=by
 go_enter Tryz.func58,Tryz.ntmps58
 go_wp2
 refine wp_loop_rounds 1 ?_
 rw[rounds_succ]
 go_wp2
 go_ret
 exact⟨rfl,0,rfl⟩
theorem q8s3(g i c:Nat)(l:List Pr)(w:World)(ha:PL w (some ⟨g,i,none⟩) l)(hl:l.length≤1010)(hm:∀p∈l,p.text.length≤140737488351232∧p.value.length≤140737488351232) :
 Calls Tryz.prog 58 #[.slice (some ⟨g,i,none⟩) l.length c] w fun e w'=>e = .returned (.int .i64 ((qymj l:Nat):Int))∧∃m,w'=w.drewN m:=by
 have HA:=Lib.hid ha
 have HM:=Lib.hid hm
 obtain⟨n,hn⟩:∃n,l.length=n:=⟨_,rfl⟩
 have HN:=Lib.hid hn
 rw[hn] at hl ⊢
 clear ha hm hn
 have hl':(n:Int)≤1010:=by omega
 obtain⟨V,hV⟩:∃V,qymj l=V:=⟨_,rfl⟩
 rw[hV]
 have HV:=Lib.hid hV
 clear hV
 go_enter Tryz.func58,Tryz.ntmps58
 go_wp2
 go_loopg [4,3] n (fun gk s4 s3 wr=>∃k t m:Nat,k≤n∧gk=n - k∧s4 = .int .i64 (k:Int)∧s3 = .int .i64 (t:Int)∧t=qymj (l.take k)∧t≤k*281474976710656∧wr=w.drewN m)
 case atStart=>exact⟨0,0,0,by omega,by omega,rfl,rfl,rfl,by omega,rfl⟩
 case round=>
  obtain⟨k,t,m,hk,hgk,rfl,rfl,ht,ht2,rfl⟩:=hrel
  by_cases hlt:k < n
  ·have hkl:k < l.length:=by rw[HN.out];exact hlt
   obtain⟨p,hp⟩:∃p,l[k]? = some p:=⟨_,List.getElem?_eq_getElem hkl⟩
   obtain⟨g',i',e',_,a0,a1,a2,a3⟩:=HA.out.at hp
   cases e'
   have htk:l.take (k+1)=l.take k++[p]:=by rw[List.take_add_one,hp];rfl
   have hpm:=HM.out p (List.mem_of_getElem? hp)
   have ht3:=qoqr (l.take k) p
   rw[←htk,←ht] at ht3
   obtain⟨x,hx⟩:∃x:Int,((bs p.text).size:Int)=x:=⟨_,rfl⟩
   obtain⟨y,hy⟩:∃x:Int,((bs p.value).size:Int)=x:=⟨_,rfl⟩
   have z1:=qkrc p.text
   have z2:=qkrc p.value
   obtain⟨u,hu⟩:∃u,qymj (l.take (k+1))=u:=⟨_,rfl⟩
   rw[hu] at ht3
   have w1:IntKind.i64.wrap ((t:Int)+x)=(t:Int)+x:=by simp only[IntKind.wrap_i64];omega
   have w2:IntKind.i64.wrap ((t:Int)+x+y)=(u:Int):=by simp only[IntKind.wrap_i64];omega
   have hu2:u≤(k+1)*281474976710656:=by omega
   generalize bs p.text=x2 at *
   generalize bs p.value=x3 at *
   have g1:(k:Int) < (n:Int):=by omega
   have HU:=Lib.hid hu
   have HU2:=Lib.hid hu2
   clear a0 a1 hp hkl htk hpm ht3 z1 z2 hu hu2 ht ht2
   go_wp2
   go_quiet (fail)
   go_wp2
   go_roundg (n - (k+1))
   case measure=>omega
   case rel=>exact⟨k+1,u,_,by omega,rfl,by go_num,rfl,HU.out.symm,HU2.out,rfl⟩
  ·obtain rfl:k=n:=by omega
   have ht1:l.take k=l:=List.take_of_length_le (by rw[HN.out];omega)
   rw[ht1,HV.out] at ht
   subst ht
   clear ht2
   go_wp2
   go_ret
   exact⟨rfl,m,rfl⟩
theorem q3f7(A:Option Addr)(n c:Nat)(l:List Pr)(w:World)(ha:PL w A l)(hn:l.length=n)(hm:∀p∈l,p.text.length≤140737488351232∧p.value.length≤140737488351232) :
 Calls Tryz.prog 29 #[.slice A n c] w fun e w'=>e = .returned (.bool (q2y5 l))∧∃m,w'=w.drewN m:=by
 unfold q2y5
 rw[hn]
 by_cases h1:n≤1010
 ·rw[decide_eq_true h1,Bool.true_and]
  have WT:Calls Tryz.prog 58 #[.slice A n c] w fun e w'=>e = .returned (.int .i64 ((qymj l:Nat):Int))∧∃m,w'=w.drewN m:=by
   by_cases h0:l=[]
   ·subst h0
    obtain rfl:0=n:=hn
    exact qv17 A c w
   ·obtain⟨g,i,rfl,_⟩:=ha.addr h0
    subst hn
    exact q8s3 g i c l w ha h1 hm
  have g1:(n:Int)≤1010:=by omega
  have WT:=Lib.hid WT
  obtain⟨B,hB⟩:∃B,decide (qymj l≤140000)=B:=⟨_,rfl⟩
  rw[hB]
  have HB:=Lib.hid (show decide (((qymj l:Nat):Int)≤140000)=B by rw[←hB,decide_eq_decide];omega)
  generalize ((qymj l:Nat):Int)=t at *
  clear ha hm h1 hn hB
  go_enter Tryz.func29,Tryz.ntmps29
  go_wp2_with fail
  refine(WT.out).mono ?_
  rintro e w1 ⟨rfl,m,rfl⟩
  go_wp2_with fail
  go_ret
  exact⟨congrArg (fun b=>Ending.returned (Value.bool b)) HB.out,m,rfl⟩
 ·rw[decide_eq_false h1,Bool.false_and]
  have g1:¬(n:Int)≤1010:=by omega
  clear ha hm h1 hn
  go_enter Tryz.func29,Tryz.ntmps29
  go_wp2_with fail
  go_ret
  exact⟨rfl,0,rfl⟩
def FitA(p:Pk):Prop:=PkOk p∧q21o p
theorem q0yw{kind:Int}{i c:Nat}{l:List Pr}(hk:-9223372036854775808≤kind∧kind≤9223372036854775807)(hl:(∀p∈l,PrOk p∧p.text.length≤65535∧p.value.length≤65535)∧l.length≤1000):FitA (pkB kind i c l):=by
 refine⟨⟨hk,by show _≤(0:Int)∧(0:Int)≤_;decide,fun t ht=>?_,fun x hx=>(nomatch hx),fun x hx=>?_,fun x hx=>(nomatch hx)⟩,Nat.zero_le _,Nat.zero_le _,Nat.le_trans hl.2 (by decide),Nat.zero_le _⟩
 ·have:t=[]:=by simpa [Pk.texts,Pk.zero,pkB] using ht
  rw[this];decide
 ·obtain⟨h1,h2,h3⟩:=hl.1 x hx
  exact⟨h1,by omega,by omega⟩
theorem qkys:FitA Pk.zero:=by
 have:=q0yw (kind:=0) (i:=0) (c:=0) (l:=[]) (by decide) ⟨fun p hp=>(nomatch hp),Nat.zero_le _⟩
 exact this
def qplq(w:World)(R:Pk×Nat)(e:Ending)(W:World):Prop:=
 ∃a:Ad,e = .returned (.tuple #[.agg (pkC R.1 a),.int .i64 (R.2:Nat)])∧PkAt W R.1 a∧R.1.props.length≤a.pc∧FitA R.1∧Below w.heap.size w W∧(R.2≠0→a=adZ)
theorem q8eh(A B:Option Addr)(na nb c d:Nat)(l m:List Pr)(w:World)(hA:PL w A l)(hB:PL w B m)(hla:l.length=na)(hlb:m.length=nb)(hN:na≤70000)(hM:nb≤70000) :
 Calls Tryz.prog 64 #[.slice A na c,.slice B nb d] w fun e w'=>e = .returned (.bool (decide (l=m)))∧∃k,w'=w.drewN k:=by
 by_cases hn:na=nb
 ·subst hn
  obtain⟨D,hD⟩:∃D,decide (l=m)=D:=⟨_,rfl⟩
  rw[hD]
  have HD:=Lib.hid hD
  have HA:=Lib.hid hA
  have HB:=Lib.hid hB
  have HLA:=Lib.hid hla
  have HLB:=Lib.hid hlb
  have q0:(na:Int)≤70000:=by omega
  clear hA hB hla hlb hN hM hD
  go_enter Tryz.func64,Tryz.ntmps64
  go_wp2_with fail
  go_loopg [5] na (fun gk i wr=>∃k x:Nat,k≤na∧gk=na - k∧i = .int .i64 (k:Int)∧wr=w.drewN x∧∀j p q,j < k→l[j]? = some p→m[j]? = some q→p=q)
  case atStart=>exact⟨0,0,Nat.zero_le _,rfl,rfl,rfl,fun j p q h=>by omega⟩
  case round=>
   obtain⟨k,x,hk,rfl,rfl,rfl,hS⟩:=hrel
   have HS:=Lib.hid hS
   by_cases hlt:k < na
   ·have hkl:k < l.length:=by rw[HLA.out];exact hlt
    have hkm:k < m.length:=by rw[HLB.out];exact hlt
    obtain⟨p,hp⟩:∃p,l[k]? = some p:=⟨_,List.getElem?_eq_getElem hkl⟩
    obtain⟨q,hq⟩:∃q,m[k]? = some q:=⟨_,List.getElem?_eq_getElem hkm⟩
    obtain⟨ga,ia,rfl,_,a0,a1,a2,a3⟩:=HA.out.at hp
    obtain⟨gb,ib,rfl,_,b0,b1,b2,b3⟩:=HB.out.at hq
    have HP:=Lib.hid hp
    have HQ:=Lib.hid hq
    have HL:=Lib.hid hlt
    have g1:(k:Int) < (na:Int):=by omega
    have hno:p≠q→D=false:=fun h=>by
     rw[←HD.out]
     exact decide_eq_false fun e=>h (by subst e;exact Option.some.inj (HP.out.symm.trans HQ.out))
    have HNO:=Lib.hid hno
    clear hS hkl hkm hp hq hlt hk hno
    rcases qzlf p q with h | h | ⟨h1,h2⟩ | ⟨h1,h2,h3⟩ | ⟨h1,h2,h3,h4⟩
    ·subst h
     generalize p.id=x0 at a0 b0
     generalize ((p.n:Nat):Int)=x1 at a1 b1
     generalize bs p.text=x2 at a2 b2
     generalize bs p.value=x3 at a3 b3
     go_wp2_with fail
     go_quiet (fail)
     go_wp2_with fail
     go_roundg (na - (k+1))
     case measure=>have:=HL.out;omega
     case rel=>
      refine⟨k+1,_,by have:=HL.out;omega,rfl,by go_num,rfl,fun j u v hj hu hv=>?_⟩
      by_cases hjk:j=k
      ·subst hjk
       exact Option.some.inj ((hu.symm.trans HP.out).trans (HQ.out.symm.trans hv))
      ·exact HS.out j u v (by omega) hu hv
    ·have hD:=HNO.out (fun e=>by rw[e] at h;simp at h)
     subst hD
     generalize p.id=x0 at *
     generalize ((p.n:Nat):Int)=x1 at *
     generalize bs p.text=x2 at *
     generalize bs p.value=x3 at *
     generalize q.id=y0 at *
     generalize ((q.n:Nat):Int)=y1 at *
     generalize bs q.text=y2 at *
     generalize bs q.value=y3 at *
     go_wp2_with fail
     go_quiet (fail)
     go_wp2_with fail
     go_ret
     exact⟨rfl,_,qgiq _ _ _⟩
    ·have hD:=HNO.out (fun e=>by rw[e] at h2;simp at h2)
     subst hD
     rw[h1] at a0
     clear h1
     generalize p.id=x0 at *
     generalize ((p.n:Nat):Int)=x1 at *
     generalize bs p.text=x2 at *
     generalize bs p.value=x3 at *
     generalize q.id=y0 at *
     generalize ((q.n:Nat):Int)=y1 at *
     generalize bs q.text=y2 at *
     generalize bs q.value=y3 at *
     go_wp2_with fail
     go_quiet (fail)
     go_wp2_with fail
     go_ret
     exact⟨rfl,_,qgiq _ _ _⟩
    ·have hD:=HNO.out (fun e=>by rw[e] at h3;simp at h3)
     subst hD
     rw[h1] at a0
     rw[h2] at a1
     clear h1 h2
     generalize p.id=x0 at *
     generalize ((p.n:Nat):Int)=x1 at *
     generalize bs p.text=x2 at *
     generalize bs p.value=x3 at *
     generalize q.id=y0 at *
     generalize ((q.n:Nat):Int)=y1 at *
     generalize bs q.text=y2 at *
     generalize bs q.value=y3 at *
     go_wp2_with fail
     go_quiet (fail)
     go_wp2_with fail
     go_ret
     exact⟨rfl,_,qgiq _ _ _⟩
    ·have hD:=HNO.out (fun e=>by rw[e] at h4;simp at h4)
     subst hD
     rw[h1] at a0
     rw[h2] at a1
     rw[h3] at a2
     clear h1 h2 h3
     generalize p.id=x0 at *
     generalize ((p.n:Nat):Int)=x1 at *
     generalize bs p.text=x2 at *
     generalize bs p.value=x3 at *
     generalize q.id=y0 at *
     generalize ((q.n:Nat):Int)=y1 at *
     generalize bs q.text=y2 at *
     generalize bs q.value=y3 at *
     go_wp2_with fail
     go_quiet (fail)
     go_wp2_with fail
     go_ret
     exact⟨rfl,_,qgiq _ _ _⟩
   ·obtain rfl:k=na:=by omega
    have hD:D=true:=by rw[←HD.out];exact decide_eq_true (qs8g HLA.out HLB.out hS)
    subst hD
    clear hS hlt hk
    go_wp2_with fail
    go_ret
    exact⟨rfl,_,rfl⟩
 ·have hD:decide (l=m)=false:=decide_eq_false fun e=>hn (by rw[←hla,←hlb,e])
  have q0:((na:Int) != (nb:Int))=true:=by rw[bne_iff_ne];omega
  rw[hD]
  clear hA hB hla hlb hN hM hD hn
  go_enter Tryz.func64,Tryz.ntmps64
  go_wp2_with fail
  go_ret
  exact⟨rfl,0,rfl⟩
theorem qjlq(A B:Option Addr)(na nb c d:Nat)(l m:List Int)(w:World)(hA:CL w A (ics l))(hB:CL w B (ics m))(hla:l.length=na)(hlb:m.length=nb)(hN:na≤70000)(hM:nb≤70000) :
 Calls Tryz.prog 65 #[.slice A na c,.slice B nb d] w fun e w'=>e = .returned (.bool (decide (l=m)))∧∃k,w'=w.drewN k:=by
 by_cases hn:na=nb
 ·subst hn
  obtain⟨D,hD⟩:∃D,decide (l=m)=D:=⟨_,rfl⟩
  rw[hD]
  have HD:=Lib.hid hD
  have HA:=Lib.hid hA
  have HB:=Lib.hid hB
  have HLA:=Lib.hid hla
  have HLB:=Lib.hid hlb
  have q0:(na:Int)≤70000:=by omega
  clear hA hB hla hlb hN hM hD
  go_enter Tryz.func65,Tryz.ntmps65
  go_wp2_with fail
  go_loopg [5] na (fun gk i wr=>∃k x:Nat,k≤na∧gk=na - k∧i = .int .i64 (k:Int)∧wr=w.drewN x∧∀j p q,j < k→l[j]? = some p→m[j]? = some q→p=q)
  case atStart=>exact⟨0,0,Nat.zero_le _,rfl,rfl,rfl,fun j p q h=>by omega⟩
  case round=>
   obtain⟨k,x,hk,rfl,rfl,rfl,hS⟩:=hrel
   have HS:=Lib.hid hS
   by_cases hlt:k < na
   ·have hkl:k < l.length:=by rw[HLA.out];exact hlt
    have hkm:k < m.length:=by rw[HLB.out];exact hlt
    obtain⟨p,hp⟩:∃p,l[k]? = some p:=⟨_,List.getElem?_eq_getElem hkl⟩
    obtain⟨q,hq⟩:∃q,m[k]? = some q:=⟨_,List.getElem?_eq_getElem hkm⟩
    obtain⟨ga,ia,rfl,_,a0⟩:=HA.out.int hp
    obtain⟨gb,ib,rfl,_,b0⟩:=HB.out.int hq
    have HP:=Lib.hid hp
    have HQ:=Lib.hid hq
    have HL:=Lib.hid hlt
    have g1:(k:Int) < (na:Int):=by omega
    have hno:p≠q→D=false:=fun h=>by
     rw[←HD.out]
     exact decide_eq_false fun e=>h (by subst e;exact Option.some.inj (HP.out.symm.trans HQ.out))
    have HNO:=Lib.hid hno
    clear hS hkl hkm hp hq hlt hk hno
    rcases qd1x p q with h | h
    ·subst h
     go_wp2_with fail
     go_quiet (fail)
     go_wp2_with fail
     go_roundg (na - (k+1))
     case measure=>have:=HL.out;omega
     case rel=>
      refine⟨k+1,_,by have:=HL.out;omega,rfl,by go_num,rfl,fun j u v hj hu hv=>?_⟩
      by_cases hjk:j=k
      ·subst hjk
       exact Option.some.inj ((hu.symm.trans HP.out).trans (HQ.out.symm.trans hv))
      ·exact HS.out j u v (by omega) hu hv
    ·have hD:=HNO.out (fun e=>by rw[e] at h;simp at h)
     subst hD
     go_wp2_with fail
     go_quiet (fail)
     go_wp2_with fail
     go_ret
     exact⟨rfl,_,qgiq _ _ _⟩
   ·obtain rfl:k=na:=by omega
    have hD:D=true:=by rw[←HD.out];exact decide_eq_true (qs8g HLA.out HLB.out hS)
    subst hD
    clear hS hlt hk
    go_wp2_with fail
    go_ret
    exact⟨rfl,_,rfl⟩
 ·have hD:decide (l=m)=false:=decide_eq_false fun e=>hn (by rw[←hla,←hlb,e])
  have q0:((na:Int) != (nb:Int))=true:=by rw[bne_iff_ne];omega
  rw[hD]
  clear hA hB hla hlb hN hM hD hn
  go_enter Tryz.func65,Tryz.ntmps65
  go_wp2_with fail
  go_ret
  exact⟨rfl,0,rfl⟩
theorem qogp(A B:Option Addr)(na nb c d:Nat)(l m:List Fi)(w:World)(hA:CL w A (fcs l))(hB:CL w B (fcs m))(hla:l.length=na)(hlb:m.length=nb)(hN:na≤70000)(hM:nb≤70000) :
 Calls Tryz.prog 66 #[.slice A na c,.slice B nb d] w fun e w'=>e = .returned (.bool (decide (l=m)))∧∃k,w'=w.drewN k:=by
 by_cases hn:na=nb
 ·subst hn
  obtain⟨D,hD⟩:∃D,decide (l=m)=D:=⟨_,rfl⟩
  rw[hD]
  have HD:=Lib.hid hD
  have HA:=Lib.hid hA
  have HB:=Lib.hid hB
  have HLA:=Lib.hid hla
  have HLB:=Lib.hid hlb
  have q0:(na:Int)≤70000:=by omega
  clear hA hB hla hlb hN hM hD
  go_enter Tryz.func66,Tryz.ntmps66
  go_wp2_with fail
  go_loopg [5] na (fun gk i wr=>∃k x:Nat,k≤na∧gk=na - k∧i = .int .i64 (k:Int)∧wr=w.drewN x∧∀j p q,j < k→l[j]? = some p→m[j]? = some q→p=q)
  case atStart=>exact⟨0,0,Nat.zero_le _,rfl,rfl,rfl,fun j p q h=>by omega⟩
  case round=>
   obtain⟨k,x,hk,rfl,rfl,rfl,hS⟩:=hrel
   have HS:=Lib.hid hS
   by_cases hlt:k < na
   ·have hkl:k < l.length:=by rw[HLA.out];exact hlt
    have hkm:k < m.length:=by rw[HLB.out];exact hlt
    obtain⟨p,hp⟩:∃p,l[k]? = some p:=⟨_,List.getElem?_eq_getElem hkl⟩
    obtain⟨q,hq⟩:∃q,m[k]? = some q:=⟨_,List.getElem?_eq_getElem hkm⟩
    obtain⟨ga,ia,rfl,_,a0,a1,a2,a3,a4⟩:=HA.out.fi hp
    obtain⟨gb,ib,rfl,_,b0,b1,b2,b3,b4⟩:=HB.out.fi hq
    have HP:=Lib.hid hp
    have HQ:=Lib.hid hq
    have HL:=Lib.hid hlt
    have g1:(k:Int) < (na:Int):=by omega
    have hno:p≠q→D=false:=fun h=>by
     rw[←HD.out]
     exact decide_eq_false fun e=>h (by subst e;exact Option.some.inj (HP.out.symm.trans HQ.out))
    have HNO:=Lib.hid hno
    clear hS hkl hkm hp hq hlt hk hno
    rcases qpuj p q with h | h | ⟨h1,h2⟩ | ⟨h1,h2,h3⟩ | ⟨h1,h2,h3,h4⟩ | ⟨h1,h2,h3,h4,h5⟩
    ·subst h
     generalize bs p.topic=x0 at a0 b0
     generalize p.qos=x1 at a1 b1
     generalize p.noLocal=x2 at a2 b2
     generalize p.asPub=x3 at a3 b3
     generalize p.handling=x4 at a4 b4
     go_wp2_with fail
     go_quiet (fail)
     go_wp2_with fail
     go_roundg (na - (k+1))
     case measure=>have:=HL.out;omega
     case rel=>
      refine⟨k+1,_,by have:=HL.out;omega,rfl,by go_num,rfl,fun j u v hj hu hv=>?_⟩
      by_cases hjk:j=k
      ·subst hjk
       exact Option.some.inj ((hu.symm.trans HP.out).trans (HQ.out.symm.trans hv))
      ·exact HS.out j u v (by omega) hu hv
    ·have hD:=HNO.out (fun e=>by rw[e] at h;simp at h)
     subst hD
     generalize bs p.topic=x0 at *
     generalize p.qos=x1 at *
     generalize p.noLocal=x2 at *
     generalize p.asPub=x3 at *
     generalize p.handling=x4 at *
     generalize bs q.topic=y0 at *
     generalize q.qos=y1 at *
     generalize q.noLocal=y2 at *
     generalize q.asPub=y3 at *
     generalize q.handling=y4 at *
     go_wp2_with fail
     go_quiet (fail)
     go_wp2_with fail
     go_ret
     exact⟨rfl,_,qgiq _ _ _⟩
    ·have hD:=HNO.out (fun e=>by rw[e] at h2;simp at h2)
     subst hD
     rw[h1] at a0
     clear h1
     generalize bs p.topic=x0 at *
     generalize p.qos=x1 at *
     generalize p.noLocal=x2 at *
     generalize p.asPub=x3 at *
     generalize p.handling=x4 at *
     generalize bs q.topic=y0 at *
     generalize q.qos=y1 at *
     generalize q.noLocal=y2 at *
     generalize q.asPub=y3 at *
     generalize q.handling=y4 at *
     go_wp2_with fail
     go_quiet (fail)
     go_wp2_with fail
     go_ret
     exact⟨rfl,_,qgiq _ _ _⟩
    ·have hD:=HNO.out (fun e=>by rw[e] at h3;simp at h3)
     subst hD
     rw[h1] at a0
     rw[h2] at a1
     clear h1 h2
     generalize bs p.topic=x0 at *
     generalize p.qos=x1 at *
     generalize p.noLocal=x2 at *
     generalize p.asPub=x3 at *
     generalize p.handling=x4 at *
     generalize bs q.topic=y0 at *
     generalize q.qos=y1 at *
     generalize q.noLocal=y2 at *
     generalize q.asPub=y3 at *
     generalize q.handling=y4 at *
     go_wp2_with fail
     go_quiet (fail)
     go_wp2_with fail
     go_ret
     exact⟨rfl,_,qgiq _ _ _⟩
    ·have hD:=HNO.out (fun e=>by rw[e] at h4;simp at h4)
     subst hD
     rw[h1] at a0
     rw[h2] at a1
     rw[h3] at a2
     clear h1 h2 h3
     generalize bs p.topic=x0 at *
     generalize p.qos=x1 at *
     generalize p.noLocal=x2 at *
     generalize p.asPub=x3 at *
     generalize p.handling=x4 at *
     generalize bs q.topic=y0 at *
     generalize q.qos=y1 at *
     generalize q.noLocal=y2 at *
     generalize q.asPub=y3 at *
     generalize q.handling=y4 at *
     go_wp2_with fail
     go_quiet (fail)
     go_wp2_with fail
     go_ret
     exact⟨rfl,_,qgiq _ _ _⟩
    ·have hD:=HNO.out (fun e=>by rw[e] at h5;simp at h5)
     subst hD
     rw[h1] at a0
     rw[h2] at a1
     rw[h3] at a2
     rw[h4] at a3
     clear h1 h2 h3 h4
     generalize bs p.topic=x0 at *
     generalize p.qos=x1 at *
     generalize p.noLocal=x2 at *
     generalize p.asPub=x3 at *
     generalize p.handling=x4 at *
     generalize bs q.topic=y0 at *
     generalize q.qos=y1 at *
     generalize q.noLocal=y2 at *
     generalize q.asPub=y3 at *
     generalize q.handling=y4 at *
     go_wp2_with fail
     go_quiet (fail)
     go_wp2_with fail
     go_ret
     exact⟨rfl,_,qgiq _ _ _⟩
   ·obtain rfl:k=na:=by omega
    have hD:D=true:=by rw[←HD.out];exact decide_eq_true (qs8g HLA.out HLB.out hS)
    subst hD
    clear hS hlt hk
    go_wp2_with fail
    go_ret
    exact⟨rfl,_,rfl⟩
 ·have hD:decide (l=m)=false:=decide_eq_false fun e=>hn (by rw[←hla,←hlb,e])
  have q0:((na:Int) != (nb:Int))=true:=by rw[bne_iff_ne];omega
  rw[hD]
  clear hA hB hla hlb hN hM hD hn
  go_enter Tryz.func66,Tryz.ntmps66
  go_wp2_with fail
  go_ret
  exact⟨rfl,0,rfl⟩
end Go.Proofs.YtbklidpadffpgaaGreat
