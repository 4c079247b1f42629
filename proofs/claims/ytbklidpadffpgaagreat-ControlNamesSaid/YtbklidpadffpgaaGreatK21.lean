/- The contracts of control.byKind and control.tailed. Condition: kind and version are ints. -/
import Derived.StillTailTactics
import Derived.IntWalk
import Derived.Test.YtbklidpadffpgaaGreatK02
import Derived.Test.YtbklidpadffpgaaGreatK15
import Derived.Test.YtbklidpadffpgaaGreatK03
import Derived.Test.YtbklidpadffpgaaGreatK14
import Derived.Test.YtbklidpadffpgaaGreatK17
import Derived.Test.YtbklidpadffpgaaGreatK19
set_option maxRecDepth 100000
set_option maxHeartbeats 4000000
namespace Go.Proofs.YtbklidpadffpgaaGreat
open Go.RowKit
def qv0k(f:Nat):Value := .func (.func f) #[.agg #[]] #[]
def qo38:List (Int×Value):=[(15,qv0k 75),(14,qv0k 74),(13,qv0k 73),(12,qv0k 73)]
def qvwa(w:World)(b:Nat):Prop:=qwau Tryz.prog 3 w b .nilFunc qo38
theorem qa1p(w:World):Calls Tryz.prog 43 #[] w fun e w'=>∃b,e = .returned (.map (some b))∧qvwa w' b∧Below w.heap.size w w':=by
 have hmf:∀(fn:Fn) (first cap:Array Value) (w:World),(Instr.makeFunc fn first cap).run Tryz.prog w = .ok (.func fn first cap) w:=fun _ _ _ _=>rfl
 have hmm:=@run_makeMap Tryz.prog
 have hG:qpdk Tryz.prog 3 w ((w.alloc (.cells #[] 108)).alloc (.map #[] 0)) (w.heap.size+1) .nilFunc []:=by
  have h:=qwau.made (w.alloc (.cells #[] 108)) Tryz.prog 3 .nilFunc
  rw[show(w.alloc (.cells #[] 108)).heap.size=w.heap.size+1 by simp] at h
  exact⟨h,((Below.refl _ _).alloc (Nat.le_refl _) _).alloc (by simp) _,Nat.le_succ _⟩
 go_enter Tryz.func43,Tryz.ntmps43
 go_wp2_with (refine q6d2 rfl _ _ _ 73 rfl 3 71 Tryz.underlying3 Tryz.underlying73 _ _ _ rfl hG (by simp[maxLen]) _ _ rfl rfl (by decide) ?_;clear hG;intro w1 hG)
 go_ret
 exact⟨_,rfl,hG.1,hG.2.1⟩
theorem qena(x:Int)(w:World):Calls Tryz.prog 73 #[.agg #[],.int .i64 x] w fun e w'=>e = .returned (.tuple #[.bool false,.int .i64 0])∧Below w.heap.size w w':=by
 go_enter Tryz.func73,Tryz.ntmps73
 go_wp2_with fail
 go_ret2
 exact⟨rfl,qybm _⟩
theorem qugm(x:Int)(w:World):Calls Tryz.prog 74 #[.agg #[],.int .i64 x] w fun e w'=>e = .returned (.tuple #[.bool (x==5),.int .i64 0])∧Below w.heap.size w w':=by
 go_enter Tryz.func74,Tryz.ntmps74
 go_wp2_with fail
 go_ret2
 exact⟨rfl,qybm _⟩
theorem qtnb(x:Int)(w:World):Calls Tryz.prog 75 #[.agg #[],.int .i64 x] w fun e w'=>e = .returned (.tuple #[.bool (x==5),.int .i64 (if x=5 then 0 else 8)])∧Below w.heap.size w w':=by
 by_cases h5:x=5
 ·subst h5
  go_enter Tryz.func75,Tryz.ntmps75
  go_wp2_with fail
  go_ret2
  exact⟨rfl,qybm _⟩
 ·have h1:(x==5)=false:=beq_eq_false_iff_ne.2 h5
  have h2:(x != 5)=true:=by simpa using h5
  rw[if_neg h5,h1]
  clear h5
  go_enter Tryz.func75,Tryz.ntmps75
  go_wp2_with fail
  go_ret2
  exact⟨rfl,qybm _⟩
theorem q24b(W:World):(zeroValue 71).run Tryz.prog W = .ok .nilFunc W:=by kernel_rfl
theorem qv3n{n:Int}(h0:-9223372036854775808≤n)(h1:n≤9223372036854775807):(Lit.int .i64 n).wf=true:=by
 simp[Lit.wf,IntKind.min,IntKind.max,IntKind.signed,IntKind.bits];omega
theorem q2qrj{k:Int}(hk0:-9223372036854775808≤k)(hk1:k≤9223372036854775807)(W:World)(b:Nat)(h:qvwa W b) :
 (Instr.lookup 73 (.map (some b)) (.int .i64 k) true).run Tryz.prog W = .ok (.tuple #[q1n3 .nilFunc qo38 k,.bool (hasK qo38 k)]) W:=
 h.look Tryz.underlying3 Tryz.underlying73 (q24b W) (qv3n hk0 hk1)
theorem qkgb(v k:Int)(w:World)(hk0:-9223372036854775808≤k)(hk1:k≤9223372036854775807) :
 Calls Tryz.prog 20 #[.int .i64 v,.int .i64 k] w fun e w'=>e = .returned (.tuple #[.bool (qyjk v k).1,.int .i64 ((qyjk v k).2:Nat)])∧Below w.heap.size w w':=by
 have LK:=q2qrj hk0 hk1
 have hv:(v=4∨v=5)∨((v==4)=false∧(v==5)=false)∧(v != 4)=true∧(v != 5)=true∧qulp v=false:=by
  by_cases h4:v=4
  ·exact .inl (.inl h4)
  by_cases h5:v=5
  ·exact .inl (.inr h5)
  exact .inr ⟨⟨beq_eq_false_iff_ne.2 h4,beq_eq_false_iff_ne.2 h5⟩,by simpa using h4,by simpa using h5,by simp[qulp,h4,h5]⟩
 have hk:(k=12∨k=13∨k=14∨k=15)∨q1n3 .nilFunc qo38 k = .nilFunc∧hasK qo38 k=false∧q5t0 k=false:=by
  by_cases h:k=12∨k=13∨k=14∨k=15
  ·exact .inl h
  ·refine .inr ⟨?_,?_,?_⟩
   ·simp only[qo38,q1n3];rw[if_neg (by omega),if_neg (by omega),if_neg (by omega),if_neg (by omega)]
   ·simp only[qo38,hasK];rw[if_neg (by omega),if_neg (by omega),if_neg (by omega),if_neg (by omega)]
   ·simp only[q5t0,Bool.and_eq_false_iff,decide_eq_false_iff_not];omega
 have PI:=Lib.hid qena
 have DI:=Lib.hid qugm
 have AU:=Lib.hid qtnb
 have KD:=Lib.hid qa1p
 rcases hk with hk | ⟨l1,l2,l3⟩
 ·rcases hv with hv | ⟨⟨v1,v2⟩,v3,v4,v5⟩
  ·rcases hk with rfl | rfl | rfl | rfl
   case' inl=>
    have hh:hasK qo38 12=true:=rfl
    have hl:q1n3 .nilFunc qo38 12 = .func (.func 73) #[.agg #[]] #[]:=rfl
   case' inr.inl=>
    have hh:hasK qo38 13=true:=rfl
    have hl:q1n3 .nilFunc qo38 13 = .func (.func 73) #[.agg #[]] #[]:=rfl
   case' inr.inr.inl=>
    have hh:hasK qo38 14=true:=rfl
    have hl:q1n3 .nilFunc qo38 14 = .func (.func 74) #[.agg #[]] #[]:=rfl
   case' inr.inr.inr=>
    have hh:hasK qo38 15=true:=rfl
    have hl:q1n3 .nilFunc qo38 15 = .func (.func 75) #[.agg #[]] #[]:=rfl
   all_goals
    rw[hh,hl] at LK
    have LKH:=Lib.hid LK
    clear LK hh hl hk0 hk1
    rcases hv with rfl | rfl
    all_goals
     go_enter Tryz.func20,Tryz.ntmps20
     go_wp2_with fail
     refine(KD.out _).mono ?_
     rintro e W ⟨b,rfl,hK,hb⟩
     have lk:=LKH.out W b hK
     have LO:=Lib.hid hb
     clear hb hK
     go_wp2_with fail
     first
      | with_reducible refine(PI.out _ _).mono ?_
      | with_reducible refine(DI.out _ _).mono ?_
      | with_reducible refine(AU.out _ _).mono ?_
     rintro e W2 ⟨rfl,hb⟩
     have LO2:=Lib.hid (qxh2 LO.out hb)
     clear hb LO
     go_wp2_with fail
     go_ret2
     exact⟨rfl,LO2.out⟩
  ·have ht:qyjk v k=(false,2):=by simp[qyjk,v5]
   rw[ht]
   clear ht v5
   obtain⟨hh,f,hl⟩:hasK qo38 k=true∧∃f,q1n3 .nilFunc qo38 k = .func (.func f) #[.agg #[]] #[]:=by
    rcases hk with rfl | rfl | rfl | rfl
    all_goals exact⟨rfl,_,rfl⟩
   rw[hh,hl] at LK
   have LKH:=Lib.hid LK
   clear LK hh hl hk hk0 hk1
   go_enter Tryz.func20,Tryz.ntmps20
   go_wp2_with fail
   refine(KD.out _).mono ?_
   rintro e W ⟨b,rfl,hK,hb⟩
   have lk:=LKH.out W b hK
   have LO:=Lib.hid hb
   clear hb hK
   go_wp2_with fail
   go_ret2
   exact⟨rfl,LO.out⟩
 ·have ht:qyjk v k=(false,2):=by simp[qyjk,l3]
  rw[ht]
  rw[l1,l2] at LK
  have LKH:=Lib.hid LK
  clear LK ht l1 l2 l3 hv hk0 hk1
  go_enter Tryz.func20,Tryz.ntmps20
  go_wp2_with fail
  refine(KD.out _).mono ?_
  rintro e W ⟨b,rfl,hK,hb⟩
  have lk:=LKH.out W b hK
  have LO:=Lib.hid hb
  clear hb hK
  go_wp2_with fail
  go_ret2
  exact⟨rfl,LO.out⟩
theorem qa3p(W:World):PkAt W Pk.zero adZ:=⟨fun e=>absurd rfl e,fun e=>absurd rfl e,fun e=>absurd rfl e,fun e=>absurd rfl e⟩
theorem qx9v(p:Pk)(W:World)(h:p.wProps=[]∧p.codes=[]∧p.filters=[]∧p.props=[]):PkAt W p adZ:=
 ⟨by rw[h.1];exact fun e=>absurd rfl e,by rw[h.2.1];exact fun e=>absurd rfl e,by rw[h.2.2.1];exact fun e=>absurd rfl e,by rw[h.2.2.2];exact fun e=>absurd rfl e⟩
theorem qnz1(b:UInt8)(n:Nat)(w:World) :
 Calls Tryz.prog 140 #[.int .u8 b.toNat,.int .i64 n] w fun e w'=>e = .returned (.int .i64 (nxt b n))∧w=w':=by
 have hb:=b.toNat_lt
 have ha:=qm1s b
 by_cases h1:128≤b.toNat
 ·rw[if_pos h1] at ha
  by_cases h2:n=4
  ·subst h2
   have e:nxt b 4=2:=qt6b.2 (.inl ⟨h1,rfl⟩)
   rw[e];clear e
   go_enter Tryz.func140,Tryz.ntmps140
   go_wp2
   go_ret
   exact⟨rfl,rfl⟩
  ·have e:nxt b n=0:=qv8z.2 ⟨h1,h2⟩
   rw[e];clear e
   have h3:((n:Int)==4)=false:=by simp;omega
   go_enter Tryz.func140,Tryz.ntmps140
   go_wp2
   go_ret
   exact⟨rfl,rfl⟩
 ·rw[if_neg h1] at ha
  by_cases h2:b.toNat=0
  ·by_cases h3:1 < n
   ·have e:nxt b n=2:=qt6b.2 (.inr ⟨h2,h3⟩)
    rw[e];clear e
    rw[h2] at ha
    rw[h2]
    have h4:decide ((1:Int) < (n:Int))=true:=by simp;omega
    go_enter Tryz.func140,Tryz.ntmps140
    go_wp2
    go_ret
    exact⟨rfl,rfl⟩
   ·have e:nxt b n=1:=qicf.2 ⟨by omega,.inr (by omega)⟩
    rw[e];clear e
    rw[h2] at ha
    rw[h2]
    have h4:decide ((1:Int) < (n:Int))=false:=by simp;omega
    go_enter Tryz.func140,Tryz.ntmps140
    go_wp2
    go_ret
    exact⟨rfl,rfl⟩
  ·have e:nxt b n=1:=qicf.2 ⟨by omega,.inl (by omega)⟩
   rw[e];clear e
   have h4:((b.toNat:Int)==0)=false:=by simp;omega
   go_enter Tryz.func140,Tryz.ntmps140
   go_wp2
   go_ret
   exact⟨rfl,rfl⟩
def qxoj(b v n st:Nat):Array Value:=#[.pointer (some ⟨b,0,none⟩),.int .i64 v,.int .i64 n,.int .i64 st]
def Rd(w:World)(b v n st:Nat):Prop:=w.heap[b]? = some (.cells (qxoj b v n st) 159 (0,0))
section
variable{w w':World}{b v n st:Nat}
theorem Rd.lt(h:Rd w b v n st):b < w.heap.size:=lt_of_block h
theorem Rd.cell(h:Rd w b v n st)(j:Nat):w.cell? ⟨b,j,none⟩=(qxoj b v n st)[j]? := cell_of_row w b j _ _ (0,0) h
theorem Rd.c0(h:Rd w b v n st):w.cell? ⟨b,0,none⟩=some (.pointer (some ⟨b,0,none⟩)):=h.cell 0
theorem Rd.c1(h:Rd w b v n st):w.cell? ⟨b,1,none⟩=some (.int .i64 v):=h.cell 1
theorem Rd.c2(h:Rd w b v n st):w.cell? ⟨b,2,none⟩=some (.int .i64 n):=h.cell 2
theorem Rd.c3(h:Rd w b v n st):w.cell? ⟨b,3,none⟩=some (.int .i64 st):=h.cell 3
theorem Rd.fr(h:Rd w b v n st)(j:Nat):w.frozen? ⟨b,j,none⟩=false:=by unfold Rd at h;simp[World.frozen?,h]
theorem Rd.draws(h:Rd w b v n st)(k:Nat):Rd (w.drewN k) b v n st:=h
theorem Rd.drew(h:Rd w b v n st):Rd w.drew b v n st:=h
theorem Rd.of_block(h:Rd w b v n st)(hb:w'.heap[b]? = w.heap[b]?):Rd w' b v n st:=hb.trans h
theorem Rd.val(h:Rd w b v n st)(u:Nat):Rd (w.setCell ⟨b,1,none⟩ (.int .i64 u)) b u n st:=qlvy h 1 _
theorem Rd.siz(h:Rd w b v n st)(u:Nat):Rd (w.setCell ⟨b,2,none⟩ (.int .i64 u)) b v u st:=qlvy h 2 _
theorem Rd.sta(h:Rd w b v n st)(u:Nat):Rd (w.setCell ⟨b,3,none⟩ (.int .i64 u)) b v n u:=qlvy h 3 _
end
theorem qp2k:∃j,Tryz.prog.info? 159=some j:=Option.isSome_iff_exists.1 (by kernel_rfl)
theorem quhv{w:World}{b v n st:Nat}(hc:Rd w b v n st) :
 Calls Tryz.prog 139 #[.pointer (some ⟨b,0,none⟩)] w fun e w'=>e = .returned (.bool true)∧w=w':=by
 obtain⟨j,hj⟩:=qp2k
 have heq:=fun W:World=>run_eql_ptr_same (P:=Tryz.prog) W ⟨b,0,none⟩ Tryz.underlying154 hj
 have h0:=hc.c0
 clear hj
 go_enter Tryz.func139,Tryz.ntmps139
 go_wp2
 go_ret
 exact⟨rfl,rfl⟩
theorem qz5z(w:World) :
 Calls Tryz.prog 114 #[] w fun e w'=>e = .returned (.pointer (some ⟨w.heap.size,0,none⟩))∧Rd w' w.heap.size 0 0 0∧Below w.heap.size w w':=by
 go_enter Tryz.func114,Tryz.ntmps114
 go_wp2
 go_ret
 exact⟨rfl,heap_alloc_new w _,(Below.refl _ _).alloc (Nat.le_refl _) _⟩
theorem qh0o(v n:Nat)(x:UInt8)(hv:v < 128^n)(hn:n < 4):bits .or .i64 (v:Int) (IntKind.i64.wrap ((x.toNat:Int)%128*2^(7*(n:Int)).toNat))=((grow v n x:Nat):Int):=by
 have e1:(7*(n:Int)).toNat=7*n:=by omega
 have e128:(128:Nat)^n=2^(7*n):=by rw[Nat.pow_mul]
 have hp:(2:Nat)^(7*n)≤2^21:=Nat.pow_le_pow_right (by decide) (by omega)
 have hx:x.toNat%128≤127:=by omega
 have hm:x.toNat%128*2^(7*n)≤127*2^21:=Nat.mul_le_mul hx hp
 have e2:(x.toNat:Int)%128*2^(7*n)=((x.toNat%128*2^(7*n):Nat):Int):=by simp
 unfold grow
 rw[e128] at hv ⊢
 rw[e1,e2,IntWalk.i64_in _ (by omega)]
 rw[(bits_nat .i64 28 (by decide) (fun m h0 h1=>IntWalk.i64_in _ (by omega)) v (x.toNat%128*2^(7*n)) (by omega) (by omega)).2]
 congr 1
 rw[Nat.or_comm,Nat.mul_comm,←Nat.two_pow_add_eq_or_of_lt hv (x.toNat%128)]
 omega
theorem qh0d{w:World}{b v n:Nat}(x:UInt8)(hc:Rd w b v n 0)(hv:v < 128^n)(hn:n < 4)(hx:nxt x (n+1)=0) :
 Calls Tryz.prog 115 #[.pointer (some ⟨b,0,none⟩),.int .u8 x.toNat] w fun e w'=>e = .returned (.tuple #[.bool false,.int .i64 0])∧Rd w' b (grow v n x) (n+1) 0∧w.grownBy w' (some b):=by
 have h1:=hc.c1
 have h2:=hc.c2
 have h3:=hc.c3
 have f1:=hc.fr 1
 have f2:=hc.fr 2
 have f3:=hc.fr 3
 have ha:=qbg0 x
 have e1:IntKind.i64.wrap ((x.toNat:Int)%128)=(x.toNat:Int)%128:=IntWalk.i64_in _ (by omega)
 have e2:IntKind.i64.wrap (7*(n:Int))=7*(n:Int):=IntWalk.i64_in _ (by omega)
 have e3:(0:Int)≤7*(n:Int):=by omega
 have e4:=qh0o v n x hv hn
 have NX:=Lib.hid (show ∀W,Calls Tryz.prog 140 #[.int .u8 x.toNat,.int .i64 ((n:Int)+1)] W fun e w'=>e = .returned (.int .i64 0)∧W=w' from fun W=>by
  have h:=qnz1 x (n+1) W
  rw[hx] at h
  exact h)
 clear hx
 generalize grow v n x=u at e4
 go_enter Tryz.func115,Tryz.ntmps115
 go_wp2_with (go_at_call 139;refine(quhv hc).mono ?_;rintro e' w' ⟨rfl,rfl⟩)
 go_still_tail 16,(by kernel_rfl)
 change wpList _ _ _ _ _ w.drew
 have hd:Rd w.drew b v n 0:=hc.drew
 have hg:w.grownBy w.drew (some b):=⟨rfl,rfl,rfl,Nat.le_refl _,fun _ _ _=>rfl⟩
 generalize w.drew=W at hd hg
 clear h1 h2 h3 f1 f2 f3
 have h1:=hd.c1
 have h2:=hd.c2
 have h3:=hd.c3
 have f1:=hd.fr 1
 have f2:=hd.fr 2
 have f3:=hd.fr 3
 go_wp2_with (go_at_call 140;refine(NX.out _).mono ?_;rintro e' w' ⟨rfl,rfl⟩)
 go_ret2
 exact⟨rfl,((hd.val u).siz (n+1)).sta 0,qo6d hg (qo6d (qo6d (q99v _ _ _ _) (q99v _ _ _ _)) (q99v _ _ _ _))⟩
theorem qhre{w:World}{b v n:Nat}(x:UInt8)(hc:Rd w b v n 0)(hv:v < 128^n)(hn:n < 4)(hx:nxt x (n+1)=1) :
 Calls Tryz.prog 115 #[.pointer (some ⟨b,0,none⟩),.int .u8 x.toNat] w fun e w'=>e = .returned (.tuple #[.bool true,.int .i64 0])∧Rd w' b (grow v n x) (n+1) 1∧w.grownBy w' (some b):=by
 have h1:=hc.c1
 have h2:=hc.c2
 have h3:=hc.c3
 have f1:=hc.fr 1
 have f2:=hc.fr 2
 have f3:=hc.fr 3
 have ha:=qbg0 x
 have e1:IntKind.i64.wrap ((x.toNat:Int)%128)=(x.toNat:Int)%128:=IntWalk.i64_in _ (by omega)
 have e2:IntKind.i64.wrap (7*(n:Int))=7*(n:Int):=IntWalk.i64_in _ (by omega)
 have e3:(0:Int)≤7*(n:Int):=by omega
 have e4:=qh0o v n x hv hn
 have NX:=Lib.hid (show ∀W,Calls Tryz.prog 140 #[.int .u8 x.toNat,.int .i64 ((n:Int)+1)] W fun e w'=>e = .returned (.int .i64 1)∧W=w' from fun W=>by
  have h:=qnz1 x (n+1) W
  rw[hx] at h
  exact h)
 clear hx
 generalize grow v n x=u at e4
 go_enter Tryz.func115,Tryz.ntmps115
 go_wp2_with (go_at_call 139;refine(quhv hc).mono ?_;rintro e' w' ⟨rfl,rfl⟩)
 go_still_tail 16,(by kernel_rfl)
 change wpList _ _ _ _ _ w.drew
 have hd:Rd w.drew b v n 0:=hc.drew
 have hg:w.grownBy w.drew (some b):=⟨rfl,rfl,rfl,Nat.le_refl _,fun _ _ _=>rfl⟩
 generalize w.drew=W at hd hg
 clear h1 h2 h3 f1 f2 f3
 have h1:=hd.c1
 have h2:=hd.c2
 have h3:=hd.c3
 have f1:=hd.fr 1
 have f2:=hd.fr 2
 have f3:=hd.fr 3
 go_wp2_with (go_at_call 140;refine(NX.out _).mono ?_;rintro e' w' ⟨rfl,rfl⟩)
 go_ret2
 exact⟨rfl,((hd.val u).siz (n+1)).sta 1,qo6d hg (qo6d (qo6d (q99v _ _ _ _) (q99v _ _ _ _)) (q99v _ _ _ _))⟩
theorem qdxq{w:World}{b v n:Nat}(x:UInt8)(hc:Rd w b v n 0)(hv:v < 128^n)(hn:n < 4)(hx:nxt x (n+1)=2) :
 Calls Tryz.prog 115 #[.pointer (some ⟨b,0,none⟩),.int .u8 x.toNat] w fun e w'=>e = .returned (.tuple #[.bool false,.int .i64 5])∧Rd w' b (grow v n x) (n+1) 2∧w.grownBy w' (some b):=by
 have h1:=hc.c1
 have h2:=hc.c2
 have h3:=hc.c3
 have f1:=hc.fr 1
 have f2:=hc.fr 2
 have f3:=hc.fr 3
 have ha:=qbg0 x
 have e1:IntKind.i64.wrap ((x.toNat:Int)%128)=(x.toNat:Int)%128:=IntWalk.i64_in _ (by omega)
 have e2:IntKind.i64.wrap (7*(n:Int))=7*(n:Int):=IntWalk.i64_in _ (by omega)
 have e3:(0:Int)≤7*(n:Int):=by omega
 have e4:=qh0o v n x hv hn
 have NX:=Lib.hid (show ∀W,Calls Tryz.prog 140 #[.int .u8 x.toNat,.int .i64 ((n:Int)+1)] W fun e w'=>e = .returned (.int .i64 2)∧W=w' from fun W=>by
  have h:=qnz1 x (n+1) W
  rw[hx] at h
  exact h)
 clear hx
 generalize grow v n x=u at e4
 go_enter Tryz.func115,Tryz.ntmps115
 go_wp2_with (go_at_call 139;refine(quhv hc).mono ?_;rintro e' w' ⟨rfl,rfl⟩)
 go_still_tail 16,(by kernel_rfl)
 change wpList _ _ _ _ _ w.drew
 have hd:Rd w.drew b v n 0:=hc.drew
 have hg:w.grownBy w.drew (some b):=⟨rfl,rfl,rfl,Nat.le_refl _,fun _ _ _=>rfl⟩
 generalize w.drew=W at hd hg
 clear h1 h2 h3 f1 f2 f3
 have h1:=hd.c1
 have h2:=hd.c2
 have h3:=hd.c3
 have f1:=hd.fr 1
 have f2:=hd.fr 2
 have f3:=hd.fr 3
 go_wp2_with (go_at_call 140;refine(NX.out _).mono ?_;rintro e' w' ⟨rfl,rfl⟩)
 go_ret2
 exact⟨rfl,((hd.val u).siz (n+1)).sta 2,qo6d hg (qo6d (qo6d (q99v _ _ _ _) (q99v _ _ _ _)) (q99v _ _ _ _))⟩
end Go.Proofs.YtbklidpadffpgaaGreat
