/- The contract of head.Same: whether two packets are equal. Condition: at most 70,000 elements a list. -/
import Derived.Test.YtaahhbjnflimnaaGreatK17
import Derived.Test.YtaahhbjnflimnaaGreatK13
import Derived.Test.YtaahhbjnflimnaaGreatK02
import Derived.Test.YtaahhbjnflimnaaGreatK06
set_option maxHeartbeats 4000000
set_option maxRecDepth 100000
namespace Go.Proofs.YtaahhbjnflimnaaGreat
open Go.RowKit
structure SmS(w:World)(p:Pk)(a:Ad)(q:Pk)(b:Ad)(W:World):Prop where
 low:Below w.heap.size w W
 p:W.heap[w.heap.size]? = some (.cells (pkC p a) 28 (0,0))
 q:W.heap[w.heap.size+1]? = some (.cells (pkC q b) 28 (0,0))
theorem SmS.call{w W W':World}{p q:Pk}{a b:Ad}(h:SmS w p a q b W)(hb:Below W.heap.size W W'):SmS w p a q b W':=
 ⟨qxh2 h.low hb,(hb.block _ (lt_of_block h.p)).trans h.p,(hb.block _ (lt_of_block h.q)).trans h.q⟩
theorem qyk8(p q:Pk)(a b:Ad)(w:World)(hp:PkAt w p a)(hq:PkAt w q b)(sp:q21o p)(sq:q21o q) :
 Calls Tryz.prog 94 #[pkV p a,pkV q b] w fun e w'=>e = .returned (.bool (decide (p=q)))∧Below w.heap.size w w':=by
 have S0:SmS w p a q b ((w.alloc (.cells (pkC p a) 28)).alloc (.cells (pkC q b) 28)):=⟨qxh2 (qybm _) (qybm _),heap_alloc2_old _ _ _,heap_alloc2_new _ _ _⟩
 have S0:SmS w p a q b (((w.alloc (.cells (pkC p a) 28)).alloc (.cells (pkC q b) 28))).drew:=⟨S0.low.drew,S0.p,S0.q⟩
 have CE:∀(x:Pk) (c:Ad),(∀(B j:Nat) (u:Value) (W:World),W.heap[B]? = some (.cells (pkC x c) 28 (0,0))→(pkC x c)[j]? = some u→W.cell? ⟨B,j,none⟩=some u):=fun x c B j u W h hu=>(cell_of_row _ _ j _ _ _ h).trans hu
 have N1:∀(x:Pk) (c:Ad) W,SmS w p a q b W→Calls Tryz.prog 145 #[.agg (pkC x c)] W fun e w'=>e = .returned (.agg (q3zb x))∧SmS w p a q b w':=fun x c W h=>(qi7b x c W).mono fun e w' ⟨he,hb⟩=>⟨he,h.call hb⟩
 have N2:∀(x:Pk) (c:Ad) W,SmS w p a q b W→Calls Tryz.prog 146 #[.agg (pkC x c)] W fun e w'=>e = .returned (.agg (qjjk x))∧SmS w p a q b w':=fun x c W h=>(qu0d x c W).mono fun e w' ⟨he,hb⟩=>⟨he,h.call hb⟩
 have N3:∀(x:Pk) (c:Ad) W,SmS w p a q b W→Calls Tryz.prog 147 #[.agg (pkC x c)] W fun e w'=>e = .returned (.agg (q5cx x))∧SmS w p a q b w':=fun x c W h=>(quge x c W).mono fun e w' ⟨he,hb⟩=>⟨he,h.call hb⟩
 have F3:∀W,SmS w p a q b W→Calls Tryz.prog 148 #[(.slice a.cs p.codes.length a.cc),(.slice b.cs q.codes.length b.cc),.func (.func 149) #[] #[]] W fun e w'=>e = .returned (.bool (decide (p.codes=q.codes)))∧SmS w p a q b w':=fun W h=>(q5se _ _ _ _ _ _ p.codes q.codes W (hp.cs.below (h.low)) (hq.cs.below (h.low)) rfl rfl (by have:=sp;unfold q21o at this;omega) (by have:=sq;unfold q21o at this;omega)).mono fun e w' ⟨he,hb⟩=>⟨he,h.call hb⟩
 have F4:∀W,SmS w p a q b W→Calls Tryz.prog 150 #[(.slice a.fs p.filters.length a.fc),(.slice b.fs q.filters.length b.fc),.func (.func 151) #[] #[]] W fun e w'=>e = .returned (.bool (decide (p.filters=q.filters)))∧SmS w p a q b w':=fun W h=>(qm9z _ _ _ _ _ _ p.filters q.filters W (hp.fs.below (h.low)) (hq.fs.below (h.low)) rfl rfl (by have:=sp;unfold q21o at this;omega) (by have:=sq;unfold q21o at this;omega)).mono fun e w' ⟨he,hb⟩=>⟨he,h.call hb⟩
 have F5:∀W,SmS w p a q b W→Calls Tryz.prog 152 #[(.slice a.ps p.props.length a.pc),(.slice b.ps q.props.length b.pc),.func (.func 153) #[] #[]] W fun e w'=>e = .returned (.bool (decide (p.props=q.props)))∧SmS w p a q b w':=fun W h=>(qk57 _ _ _ _ _ _ p.props q.props W (hp.ps.below (h.low)) (hq.ps.below (h.low)) rfl rfl (by have:=sp;unfold q21o at this;omega) (by have:=sq;unfold q21o at this;omega)).mono fun e w' ⟨he,hb⟩=>⟨he,h.call hb⟩
 have F6:∀W,SmS w p a q b W→Calls Tryz.prog 152 #[(.slice a.w p.wProps.length a.wc),(.slice b.w q.wProps.length b.wc),.func (.func 153) #[] #[]] W fun e w'=>e = .returned (.bool (decide (p.wProps=q.wProps)))∧SmS w p a q b w':=fun W h=>(qk57 _ _ _ _ _ _ p.wProps q.wProps W (hp.w.below (h.low)) (hq.w.below (h.low)) rfl rfl (by have:=sp;unfold q21o at this;omega) (by have:=sq;unfold q21o at this;omega)).mono fun e w' ⟨he,hb⟩=>⟨he,h.call hb⟩
 have C1:=qwmp p a
 have C2:=qwmp q b
 have cp22:∀W,SmS w p a q b W→W.cell? ⟨w.heap.size,22,none⟩=some (.slice a.cs p.codes.length a.cc):=fun W h=>CE p a _ 22 _ W h.p rfl
 have cp23:∀W,SmS w p a q b W→W.cell? ⟨w.heap.size,23,none⟩=some (.slice a.fs p.filters.length a.fc):=fun W h=>CE p a _ 23 _ W h.p rfl
 have cp24:∀W,SmS w p a q b W→W.cell? ⟨w.heap.size,24,none⟩=some (.slice a.ps p.props.length a.pc):=fun W h=>CE p a _ 24 _ W h.p rfl
 have cp19:∀W,SmS w p a q b W→W.cell? ⟨w.heap.size,19,none⟩=some (.slice a.w p.wProps.length a.wc):=fun W h=>CE p a _ 19 _ W h.p rfl
 have cq22:∀W,SmS w p a q b W→W.cell? ⟨w.heap.size+1,22,none⟩=some (.slice b.cs q.codes.length b.cc):=fun W h=>CE q b _ 22 _ W h.q rfl
 have cq23:∀W,SmS w p a q b W→W.cell? ⟨w.heap.size+1,23,none⟩=some (.slice b.fs q.filters.length b.fc):=fun W h=>CE q b _ 23 _ W h.q rfl
 have cq24:∀W,SmS w p a q b W→W.cell? ⟨w.heap.size+1,24,none⟩=some (.slice b.ps q.props.length b.pc):=fun W h=>CE q b _ 24 _ W h.q rfl
 have cq19:∀W,SmS w p a q b W→W.cell? ⟨w.heap.size+1,19,none⟩=some (.slice b.w q.wProps.length b.wc):=fun W h=>CE q b _ 19 _ W h.q rfl
 have K1:=N1 p a
 have K2:=N1 q b
 have K3:=N2 p a
 have K4:=N2 q b
 have K5:=N3 p a
 have K6:=N3 q b
 have P1:∀W,SmS w p a q b W→W.heap[w.heap.size]? = some (.cells (pkC p a) 28 (0,0)):=fun W h=>h.p
 have P2:∀W,SmS w p a q b W→W.heap[w.heap.size+1]? = some (.cells (pkC q b) 28 (0,0)):=fun W h=>h.q
 have LO:∀W,SmS w p a q b W→Below w.heap.size w W:=fun W h=>h.low
 have I94:=qpgn p q
 unfold pkV
 clear CE N1 N2 N3 hp hq sp sq
 generalize pkC p a=C at *
 generalize pkC q b=E at *
 generalize hSS:SmS w p a q b=S at *
 have HS:=Lib.hid hSS
 clear hSS
 have hS0:=Lib.hid S0
 have hC1:=Lib.hid C1
 have hC2:=Lib.hid C2
 have hP1:=Lib.hid P1
 have hP2:=Lib.hid P2
 have hLO:=Lib.hid LO
 have hK1:=Lib.hid K1
 have hK2:=Lib.hid K2
 have hK3:=Lib.hid K3
 have hK4:=Lib.hid K4
 have hK5:=Lib.hid K5
 have hK6:=Lib.hid K6
 have hF3:=Lib.hid F3
 have hF4:=Lib.hid F4
 have hF5:=Lib.hid F5
 have hF6:=Lib.hid F6
 have hcp22:=Lib.hid cp22
 have hcp23:=Lib.hid cp23
 have hcp24:=Lib.hid cp24
 have hcp19:=Lib.hid cp19
 have hcq22:=Lib.hid cq22
 have hcq23:=Lib.hid cq23
 have hcq24:=Lib.hid cq24
 have hcq19:=Lib.hid cq19
 have HI:=Lib.hid I94
 clear I94 S0 C1 C2 P1 P2 LO K1 K2 K3 K4 K5 K6 F3 F4 F5 F6 cp22 cp23 cp24 cp19 cq22 cq23 cq24 cq19
 by_cases e0:p.nums=q.nums
 ·by_cases e1:p.marks=q.marks
  ·by_cases e2:p.texts=q.texts
   ·by_cases e3:p.codes=q.codes
    ·by_cases e4:p.filters=q.filters
     ·by_cases e5:p.props=q.props
      ·by_cases e6:p.wProps=q.wProps
       ·have hd:decide (p=q)=true:=by
         exact decide_eq_true (HI.out.2 ⟨e0,e1,e2,e3,e4,e5,e6⟩)
        rw[hd]
        clear hd
        have E0:=Lib.hid e0
        have E1:=Lib.hid e1
        have E2:=Lib.hid e2
        have E3:=Lib.hid e3
        have E4:=Lib.hid e4
        have E5:=Lib.hid e5
        have E6:=Lib.hid e6
        clear e0 e1 e2 e3 e4 e5 e6
        go_enter Tryz.func94,Tryz.ntmps94
        go_wp2_with fail
        refine q7mb (S:=S) (p:=p) (q:=q) (a:=a) (b:=b) (C:=C) (E:=E) (B:=w.heap.size) hS0.out hC1.out hC2.out hP1.out hP2.out hK1.out hK2.out (by exact decide_eq_true E0.out) hK3.out hK4.out (by exact decide_eq_true E1.out) hK5.out hK6.out (by exact decide_eq_true E2.out) hcp22.out hcq22.out (fun W hW=>by have:=hF3.out W hW;rw[decide_eq_true E3.out] at this;exact this) hcp23.out hcq23.out (fun W hW=>by have:=hF4.out W hW;rw[decide_eq_true E4.out] at this;exact this) hcp24.out hcq24.out (fun W hW=>by have:=hF5.out W hW;rw[decide_eq_true E5.out] at this;exact this) hcp19.out hcq19.out (fun W hW=>by have:=hF6.out W hW;rw[decide_eq_true E6.out] at this;exact this) ?_
        intro W hW
        have BW:=Lib.hid (hLO.out W hW)
        clear hW
        go_wp2_with fail
        go_ret
        exact⟨rfl,BW.out⟩
       ·have hd:decide (p=q)=false:=by
         exact decide_eq_false fun e=>e6 (HI.out.1 e).2.2.2.2.2.2
        rw[hd]
        clear hd
        have E0:=Lib.hid e0
        have E1:=Lib.hid e1
        have E2:=Lib.hid e2
        have E3:=Lib.hid e3
        have E4:=Lib.hid e4
        have E5:=Lib.hid e5
        have E6:=Lib.hid e6
        clear e0 e1 e2 e3 e4 e5 e6
        go_enter Tryz.func94,Tryz.ntmps94
        go_wp2_with fail
        refine ql16 (S:=S) (p:=p) (q:=q) (a:=a) (b:=b) (C:=C) (E:=E) (B:=w.heap.size) hS0.out hC1.out hC2.out hP1.out hP2.out hK1.out hK2.out (by exact decide_eq_true E0.out) hK3.out hK4.out (by exact decide_eq_true E1.out) hK5.out hK6.out (by exact decide_eq_true E2.out) hcp22.out hcq22.out (fun W hW=>by have:=hF3.out W hW;rw[decide_eq_true E3.out] at this;exact this) hcp23.out hcq23.out (fun W hW=>by have:=hF4.out W hW;rw[decide_eq_true E4.out] at this;exact this) hcp24.out hcq24.out (fun W hW=>by have:=hF5.out W hW;rw[decide_eq_true E5.out] at this;exact this) hcp19.out hcq19.out (fun W hW=>by have:=hF6.out W hW;rw[decide_eq_false E6.out] at this;exact this) ?_
        intro W hW
        have BW:=Lib.hid (hLO.out W hW)
        clear hW
        go_wp2_with fail
        go_ret
        exact⟨rfl,BW.out⟩
      ·have hd:decide (p=q)=false:=by
        exact decide_eq_false fun e=>e5 (HI.out.1 e).2.2.2.2.2.1
       rw[hd]
       clear hd
       have E0:=Lib.hid e0
       have E1:=Lib.hid e1
       have E2:=Lib.hid e2
       have E3:=Lib.hid e3
       have E4:=Lib.hid e4
       have E5:=Lib.hid e5
       clear e0 e1 e2 e3 e4 e5
       go_enter Tryz.func94,Tryz.ntmps94
       go_wp2_with fail
       refine qred (S:=S) (p:=p) (q:=q) (a:=a) (b:=b) (C:=C) (E:=E) (B:=w.heap.size) hS0.out hC1.out hC2.out hP1.out hP2.out hK1.out hK2.out (by exact decide_eq_true E0.out) hK3.out hK4.out (by exact decide_eq_true E1.out) hK5.out hK6.out (by exact decide_eq_true E2.out) hcp22.out hcq22.out (fun W hW=>by have:=hF3.out W hW;rw[decide_eq_true E3.out] at this;exact this) hcp23.out hcq23.out (fun W hW=>by have:=hF4.out W hW;rw[decide_eq_true E4.out] at this;exact this) hcp24.out hcq24.out (fun W hW=>by have:=hF5.out W hW;rw[decide_eq_false E5.out] at this;exact this) ?_
       intro W hW
       have BW:=Lib.hid (hLO.out W hW)
       clear hW
       go_wp2_with fail
       go_ret
       exact⟨rfl,BW.out⟩
     ·have hd:decide (p=q)=false:=by
       exact decide_eq_false fun e=>e4 (HI.out.1 e).2.2.2.2.1
      rw[hd]
      clear hd
      have E0:=Lib.hid e0
      have E1:=Lib.hid e1
      have E2:=Lib.hid e2
      have E3:=Lib.hid e3
      have E4:=Lib.hid e4
      clear e0 e1 e2 e3 e4
      go_enter Tryz.func94,Tryz.ntmps94
      go_wp2_with fail
      refine qtmc (S:=S) (p:=p) (q:=q) (a:=a) (b:=b) (C:=C) (E:=E) (B:=w.heap.size) hS0.out hC1.out hC2.out hP1.out hP2.out hK1.out hK2.out (by exact decide_eq_true E0.out) hK3.out hK4.out (by exact decide_eq_true E1.out) hK5.out hK6.out (by exact decide_eq_true E2.out) hcp22.out hcq22.out (fun W hW=>by have:=hF3.out W hW;rw[decide_eq_true E3.out] at this;exact this) hcp23.out hcq23.out (fun W hW=>by have:=hF4.out W hW;rw[decide_eq_false E4.out] at this;exact this) ?_
      intro W hW
      have BW:=Lib.hid (hLO.out W hW)
      clear hW
      go_wp2_with fail
      go_ret
      exact⟨rfl,BW.out⟩
    ·have hd:decide (p=q)=false:=by
      exact decide_eq_false fun e=>e3 (HI.out.1 e).2.2.2.1
     rw[hd]
     clear hd
     have E0:=Lib.hid e0
     have E1:=Lib.hid e1
     have E2:=Lib.hid e2
     have E3:=Lib.hid e3
     clear e0 e1 e2 e3
     go_enter Tryz.func94,Tryz.ntmps94
     go_wp2_with fail
     refine qi9c (S:=S) (p:=p) (q:=q) (a:=a) (b:=b) (C:=C) (E:=E) (B:=w.heap.size) hS0.out hC1.out hC2.out hP1.out hP2.out hK1.out hK2.out (by exact decide_eq_true E0.out) hK3.out hK4.out (by exact decide_eq_true E1.out) hK5.out hK6.out (by exact decide_eq_true E2.out) hcp22.out hcq22.out (fun W hW=>by have:=hF3.out W hW;rw[decide_eq_false E3.out] at this;exact this) ?_
     intro W hW
     have BW:=Lib.hid (hLO.out W hW)
     clear hW
     go_wp2_with fail
     go_ret
     exact⟨rfl,BW.out⟩
   ·have hd:decide (p=q)=false:=by
     exact decide_eq_false fun e=>e2 (HI.out.1 e).2.2.1
    rw[hd]
    clear hd
    have E0:=Lib.hid e0
    have E1:=Lib.hid e1
    have E2:=Lib.hid e2
    clear e0 e1 e2
    go_enter Tryz.func94,Tryz.ntmps94
    go_wp2_with fail
    refine qwok (S:=S) (p:=p) (q:=q) (C:=C) (E:=E) (B:=w.heap.size) hS0.out hC1.out hC2.out hP1.out hP2.out hK1.out hK2.out (by exact decide_eq_true E0.out) hK3.out hK4.out (by exact decide_eq_true E1.out) hK5.out hK6.out (by exact decide_eq_false E2.out) ?_
    intro W hW
    have BW:=Lib.hid (hLO.out W hW)
    clear hW
    go_wp2_with fail
    go_ret
    exact⟨rfl,BW.out⟩
  ·have hd:decide (p=q)=false:=by
    exact decide_eq_false fun e=>e1 (HI.out.1 e).2.1
   rw[hd]
   clear hd
   have E0:=Lib.hid e0
   have E1:=Lib.hid e1
   clear e0 e1
   go_enter Tryz.func94,Tryz.ntmps94
   go_wp2_with fail
   refine qy60 (S:=S) (p:=p) (q:=q) (C:=C) (E:=E) (B:=w.heap.size) hS0.out hC1.out hC2.out hP1.out hP2.out hK1.out hK2.out (by exact decide_eq_true E0.out) hK3.out hK4.out (by exact decide_eq_false E1.out) ?_
   intro W hW
   have BW:=Lib.hid (hLO.out W hW)
   clear hW
   go_wp2_with fail
   go_ret
   exact⟨rfl,BW.out⟩
 ·have hd:decide (p=q)=false:=by
   exact decide_eq_false fun e=>e0 (HI.out.1 e).1
  rw[hd]
  clear hd
  have E0:=Lib.hid e0
  clear e0
  go_enter Tryz.func94,Tryz.ntmps94
  go_wp2_with fail
  refine qckl (S:=S) (p:=p) (q:=q) (C:=C) (E:=E) (B:=w.heap.size) hS0.out hC1.out hC2.out hP1.out hP2.out hK1.out hK2.out (by exact decide_eq_false E0.out) ?_
  intro W hW
  have BW:=Lib.hid (hLO.out W hW)
  clear hW
  go_wp2_with fail
  go_ret
  exact⟨rfl,BW.out⟩
structure OwG where
 s:Nat→Nat
 A:Nat→Option Addr
 c:Nat→Nat
def OwG.none:OwG:=⟨fun _=>0,fun _ => .none,fun _=>0⟩
def OwG.to(x:OwG)(k n:Nat):OwG:={x with s:=fun i=>if i=k then n else x.s i}
def OwG.got(x:OwG)(k:Nat)(A:Option Addr)(c:Nat):OwG:=⟨fun i=>if i=k then 2 else x.s i,fun i=>if i=k then A else x.A i,fun i=>if i=k then c else x.c i⟩
def owSt:Nat→Option (Nat×Nat)
 | 1=>some (0,1)
 | 2=>some (0,2)
 | 14=>some (0,3)
 | 4=>some (1,1)
 | 5=>some (1,2)
 | 16=>some (1,3)
 | 7=>some (2,1)
 | 8=>some (2,2)
 | 18=>some (2,3)
 | 11=>some (3,1)
 | 12=>some (3,2)
 | 21=>some (3,3)
 | _ => .none
def owOf:Nat→Nat→Nat
 | 0,1=>1
 | 0,2=>2
 | 0,3=>14
 | 1,1=>4
 | 1,2=>5
 | 1,3=>16
 | 2,1=>7
 | 2,2=>8
 | 2,3=>18
 | 3,1=>11
 | 3,2=>12
 | 3,3=>21
 | _,_=>0
theorem qgrd{i k n:Nat}(h:owSt i=some (k,n)):owOf k n=i:=by
 unfold owSt at h
 split at h<;>cases h<;>rfl
theorem qhef{i k n:Nat}(h:owSt i=some (k,n)):0 < n:=by
 unfold owSt at h
 split at h<;>cases h<;>decide
section
variable{x:OwG}{i j k n:Nat}
theorem qcow(hj:owSt j=some (k,n))(_:x.s k+1=n):∀k' n',owSt j=some (k',n')→n'≤(x.to k n).s k':=fun k' n' h=>by
 rw[hj] at h
 cases h
 simp[OwG.to]
theorem qedx(hs:x.s k+1=n)(h:∀k' n',owSt i=some (k',n')→n'≤x.s k'):∀k' n',owSt i=some (k',n')→n'≤(x.to k n).s k':=fun k' n' hi=>by
 have:=h k' n' hi
 unfold OwG.to
 by_cases e:k'=k
 ·subst e;simp;omega
 ·simp[e];exact this
theorem qjl5(hj:owSt j=some (k,n))(hs:x.s k+1=n)(hne:i≠j)(h:∀k' n',owSt i=some (k',n')→x.s k' < n'):∀k' n',owSt i=some (k',n')→(x.to k n).s k' < n':=fun k' n' hi=>by
 have h1:=h k' n' hi
 unfold OwG.to
 by_cases e:k'=k
 ·subst e
  have:n'≠n:=fun e=>by subst e;exact hne ((qgrd hi).symm.trans (qgrd hj))
  simp;omega
 ·simp[e];exact h1
end
def qnt6(a:Ad)(x:OwG):Ad:={w:=if 3≤x.s 3 then x.A 3 else a.w,wc:=if 3≤x.s 3 then x.c 3 else a.wc,cs:=if 3≤x.s 0 then x.A 0 else a.cs,cc:=if 3≤x.s 0 then x.c 0 else a.cc,fs:=if 3≤x.s 1 then x.A 1 else a.fs,fc:=if 3≤x.s 1 then x.c 1 else a.fc,ps:=if 3≤x.s 2 then x.A 2 else a.ps,pc:=if 3≤x.s 2 then x.c 2 else a.pc}
theorem qarg{W:World}{b:Nat}{p:Pk}{a:Ad}{x:OwG}(h:W.heap[b]? = some (.cells (pkC p (qnt6 a x)) 28 (0,0)))(hs:x.s 0 < 3):W.cell? ⟨b,22,none⟩=some (.slice a.cs p.codes.length a.cc):=by
 rw[cell_of_row _ _ 22 _ _ _ h]
 simp only[pkC,qnt6,if_neg (show ¬3≤x.s 0 by omega)]
 rfl
theorem qwga{W:World}{b:Nat}{p:Pk}{a:Ad}{x:OwG}(h:W.heap[b]? = some (.cells (pkC p (qnt6 a x)) 28 (0,0)))(hs:x.s 1 < 3):W.cell? ⟨b,23,none⟩=some (.slice a.fs p.filters.length a.fc):=by
 rw[cell_of_row _ _ 23 _ _ _ h]
 simp only[pkC,qnt6,if_neg (show ¬3≤x.s 1 by omega)]
 rfl
theorem q6hp{W:World}{b:Nat}{p:Pk}{a:Ad}{x:OwG}(h:W.heap[b]? = some (.cells (pkC p (qnt6 a x)) 28 (0,0)))(hs:x.s 2 < 3):W.cell? ⟨b,24,none⟩=some (.slice a.ps p.props.length a.pc):=by
 rw[cell_of_row _ _ 24 _ _ _ h]
 simp only[pkC,qnt6,if_neg (show ¬3≤x.s 2 by omega)]
 rfl
theorem qgrp{W:World}{b:Nat}{p:Pk}{a:Ad}{x:OwG}(h:W.heap[b]? = some (.cells (pkC p (qnt6 a x)) 28 (0,0)))(hs:x.s 3 < 3):W.cell? ⟨b,19,none⟩=some (.slice a.w p.wProps.length a.wc):=by
 rw[cell_of_row _ _ 19 _ _ _ h]
 simp only[pkC,qnt6,if_neg (show ¬3≤x.s 3 by omega)]
 rfl
section
variable{a:Act}{w:World}{d:Option Tmp}{p:String}{af:Array Edge}{gd:Option (Nat×Bool)}{x y z:Tmp}{r:TypeId}
theorem q0zh{g:Nat}(hx:a.eval (.tmp x) = .pointer (some ⟨g,0,none⟩)) :
 (execOp a.eval {dst:=d,op := .fieldAddr 28 (.tmp x) 18,type:=r,pos:=p,after:=af,guard:=gd}).run Tryz.prog w = .ok (.value (.pointer (some ⟨g,22,none⟩))) w:=by
 generalize a.eval=f at *
 go_simp
theorem q2iq{g:Nat}(hx:a.eval (.tmp x) = .pointer (some ⟨g,0,none⟩)) :
 (execOp a.eval {dst:=d,op := .fieldAddr 28 (.tmp x) 19,type:=r,pos:=p,after:=af,guard:=gd}).run Tryz.prog w = .ok (.value (.pointer (some ⟨g,23,none⟩))) w:=by
 generalize a.eval=f at *
 go_simp
theorem qxry{g:Nat}(hx:a.eval (.tmp x) = .pointer (some ⟨g,0,none⟩)) :
 (execOp a.eval {dst:=d,op := .fieldAddr 28 (.tmp x) 20,type:=r,pos:=p,after:=af,guard:=gd}).run Tryz.prog w = .ok (.value (.pointer (some ⟨g,24,none⟩))) w:=by
 generalize a.eval=f at *
 go_simp
theorem qtdp{g:Nat}(hx:a.eval (.tmp x) = .pointer (some ⟨g,0,none⟩)) :
 (execOp a.eval {dst:=d,op := .fieldAddr 28 (.tmp x) 15,type:=r,pos:=p,after:=af,guard:=gd}).run Tryz.prog w = .ok (.value (.pointer (some ⟨g,15,none⟩))) w:=by
 generalize a.eval=f at *
 go_simp
theorem qtwp{g:Nat}(hx:a.eval (.tmp x) = .pointer (some ⟨g,15,none⟩)) :
 (execOp a.eval {dst:=d,op := .fieldAddr 24 (.tmp x) 4,type:=r,pos:=p,after:=af,guard:=gd}).run Tryz.prog w = .ok (.value (.pointer (some ⟨g,19,none⟩))) w:=by
 generalize a.eval=f at *
 go_simp
theorem q2ns{g j n c:Nat}{A:Option Addr}(hx:a.eval (.tmp x) = .pointer (some ⟨g,j,none⟩))(hc:w.cell? ⟨g,j,none⟩=some (.slice A n c)) :
 (execOp a.eval {dst:=d,op := .load 25 (.tmp x),type:=25,pos:=p,after:=af,guard:=gd}).run Tryz.prog w = .ok (.value (.slice A n c)) w:=by
 generalize a.eval=f at *
 go_simp
theorem q4bt{g j n c n' c':Nat}{A A':Option Addr}(hx:a.eval (.tmp x) = .pointer (some ⟨g,j,none⟩))(hy:a.eval (.tmp y) = .slice A n c)(hc:w.cell? ⟨g,j,none⟩=some (.slice A' n' c'))(hf:w.frozen? ⟨g,j,none⟩=false) :
 (execOp a.eval {dst:=d,op := .store 25 (.tmp x) (.tmp y),type:=r,pos:=p,after:=af,guard:=gd}).run Tryz.prog w = .ok .skip (w.setCell ⟨g,j,none⟩ (.slice A n c)):=by
 generalize a.eval=f at *
 go_simp
theorem qvo7{g j n c:Nat}{A:Option Addr}(hx:a.eval (.tmp x) = .pointer (some ⟨g,j,none⟩))(hc:w.cell? ⟨g,j,none⟩=some (.slice A n c)) :
 (execOp a.eval {dst:=d,op := .load 26 (.tmp x),type:=26,pos:=p,after:=af,guard:=gd}).run Tryz.prog w = .ok (.value (.slice A n c)) w:=by
 generalize a.eval=f at *
 go_simp
theorem qdxg{g j n c n' c':Nat}{A A':Option Addr}(hx:a.eval (.tmp x) = .pointer (some ⟨g,j,none⟩))(hy:a.eval (.tmp y) = .slice A n c)(hc:w.cell? ⟨g,j,none⟩=some (.slice A' n' c'))(hf:w.frozen? ⟨g,j,none⟩=false) :
 (execOp a.eval {dst:=d,op := .store 26 (.tmp x) (.tmp y),type:=r,pos:=p,after:=af,guard:=gd}).run Tryz.prog w = .ok .skip (w.setCell ⟨g,j,none⟩ (.slice A n c)):=by
 generalize a.eval=f at *
 go_simp
theorem q2vi{g j n c:Nat}{A:Option Addr}(hx:a.eval (.tmp x) = .pointer (some ⟨g,j,none⟩))(hc:w.cell? ⟨g,j,none⟩=some (.slice A n c)) :
 (execOp a.eval {dst:=d,op := .load 22 (.tmp x),type:=22,pos:=p,after:=af,guard:=gd}).run Tryz.prog w = .ok (.value (.slice A n c)) w:=by
 generalize a.eval=f at *
 go_simp
theorem qshq{g j n c n' c':Nat}{A A':Option Addr}(hx:a.eval (.tmp x) = .pointer (some ⟨g,j,none⟩))(hy:a.eval (.tmp y) = .slice A n c)(hc:w.cell? ⟨g,j,none⟩=some (.slice A' n' c'))(hf:w.frozen? ⟨g,j,none⟩=false) :
 (execOp a.eval {dst:=d,op := .store 22 (.tmp x) (.tmp y),type:=r,pos:=p,after:=af,guard:=gd}).run Tryz.prog w = .ok .skip (w.setCell ⟨g,j,none⟩ (.slice A n c)):=by
 generalize a.eval=f at *
 go_simp
theorem qs2w{ts:Array TypeId}{u:Value}(hx:a.eval (.tmp x)=u) :
 (execOp a.eval {dst:=d,op := .call {callee := .value (.func 42),args:=#[.tmp x],argTypes:=ts},type:=r,pos:=p,after:=af,guard:=gd}).run Tryz.prog w = .ok (.enter 42 #[u]) w:=by
 have hf:a.eval (.func 42) = .func (.func 42) #[] #[]:=rfl
 generalize a.eval=f at *
 go_simp
theorem qq8n{ts:Array TypeId}{u:Value}(hx:a.eval (.tmp x)=u) :
 (execOp a.eval {dst:=d,op := .call {callee := .value (.func 43),args:=#[.tmp x],argTypes:=ts},type:=r,pos:=p,after:=af,guard:=gd}).run Tryz.prog w = .ok (.enter 43 #[u]) w:=by
 have hf:a.eval (.func 43) = .func (.func 43) #[] #[]:=rfl
 generalize a.eval=f at *
 go_simp
theorem qdzq{ts:Array TypeId}{u:Value}(hx:a.eval (.tmp x)=u) :
 (execOp a.eval {dst:=d,op := .call {callee := .value (.func 44),args:=#[.tmp x],argTypes:=ts},type:=r,pos:=p,after:=af,guard:=gd}).run Tryz.prog w = .ok (.enter 44 #[u]) w:=by
 have hf:a.eval (.func 44) = .func (.func 44) #[] #[]:=rfl
 generalize a.eval=f at *
 go_simp
end
theorem qc1g{Q:Exit→Act→World→Prop}{S:OwG→World→Prop}{W:World}{b:Nat}{p:Pk}{a:Ad}{x0 x2 x3 x4 x5 x6 x7 x8 x9 x10 x11 x12 x13 x14 x15 x16 x17 x18 x19 x20 x21:Value}
 (hS:S OwG.none W.drew) (KB:∀x w,S x w→w.heap[b]? = some (.cells (pkC p (qnt6 a x)) 28 (0,0)))
 (LD:∀k x w,k < 4→S x w→x.s k=0→S (x.to k 1) w)
 (H0:∀(x:OwG) (w:World),S x w→x.s 0=1→Calls Tryz.prog 42 #[(.slice a.cs p.codes.length a.cc)] w fun e w'=>∃A c,e = .returned (.slice A p.codes.length c)∧S (x.got 0 A c) w')
 (T0:∀(x:OwG) (w:World),S x w→x.s 0=2→S (x.to 0 3) (w.setCell ⟨b,22,none⟩ (.slice (x.A 0) p.codes.length (x.c 0))))
 (H1:∀(x:OwG) (w:World),S x w→x.s 1=1→Calls Tryz.prog 43 #[(.slice a.fs p.filters.length a.fc)] w fun e w'=>∃A c,e = .returned (.slice A p.filters.length c)∧S (x.got 1 A c) w')
 (T1:∀(x:OwG) (w:World),S x w→x.s 1=2→S (x.to 1 3) (w.setCell ⟨b,23,none⟩ (.slice (x.A 1) p.filters.length (x.c 1))))
 (H2:∀(x:OwG) (w:World),S x w→x.s 2=1→Calls Tryz.prog 44 #[(.slice a.ps p.props.length a.pc)] w fun e w'=>∃A c,e = .returned (.slice A p.props.length c)∧S (x.got 2 A c) w')
 (T2:∀(x:OwG) (w:World),S x w→x.s 2=2→S (x.to 2 3) (w.setCell ⟨b,24,none⟩ (.slice (x.A 2) p.props.length (x.c 2))))
 (H3:∀(x:OwG) (w:World),S x w→x.s 3=1→Calls Tryz.prog 44 #[(.slice a.w p.wProps.length a.wc)] w fun e w'=>∃A c,e = .returned (.slice A p.wProps.length c)∧S (x.got 3 A c) w')
 (T3:∀(x:OwG) (w:World),S x w→x.s 3=2→S (x.to 3 3) (w.setCell ⟨b,19,none⟩ (.slice (x.A 3) p.wProps.length (x.c 3))))
 (fin:∀x w,S x w→(3≤x.s 0∧3≤x.s 1∧3≤x.s 2∧3≤x.s 3)→Q .normal ⟨#[x0,(.pointer (some ⟨b,0,none⟩)),x2,(.pointer (some ⟨b,22,none⟩)),(.slice a.cs p.codes.length a.cc),(.slice (x.A 0) p.codes.length (x.c 0)),(.pointer (some ⟨b,23,none⟩)),(.slice a.fs p.filters.length a.fc),(.slice (x.A 1) p.filters.length (x.c 1)),(.pointer (some ⟨b,24,none⟩)),(.slice a.ps p.props.length a.pc),(.slice (x.A 2) p.props.length (x.c 2)),(.pointer (some ⟨b,15,none⟩)),(.pointer (some ⟨b,19,none⟩)),(.slice a.w p.wProps.length a.wc),(.slice (x.A 3) p.wProps.length (x.c 3)),(.pointer (some ⟨b,22,none⟩)),(.pointer (some ⟨b,23,none⟩)),(.pointer (some ⟨b,24,none⟩)),(.pointer (some ⟨b,15,none⟩)),(.pointer (some ⟨b,19,none⟩)),x21],[]⟩ w) :
 (Code.region 1 (qfhu.opsAt 1 Tryz.f11.body) true).wp Tryz.prog Q ⟨#[x0,(.pointer (some ⟨b,0,none⟩)),x2,x3,x4,x5,x6,x7,x8,x9,x10,x11,x12,x13,x14,x15,x16,x17,x18,x19,x20,x21],[]⟩ W:=by
 refine qu7n.wp (fresh:=fun i x=>∀k n,owSt i=some (k,n)→x.s k < n) (hf0:=fun i k n h=>qhef h) (x:=OwG.none) (S:=S) (made:=fun i x=>∀k n,owSt i=some (k,n)→n≤x.s k) (war:=[]) (ds:=[3,4,5,6,7,8,9,10,11,12,13,14,15,16,17,18,19,20]) (A:=[x0,(.pointer (some ⟨b,0,none⟩)),x2,x3,x4,x5,x6,x7,x8,x9,x10,x11,x12,x13,x14,x15,x16,x17,x18,x19,x20,x21]) (B:=fun x=>[x0,(.pointer (some ⟨b,0,none⟩)),x2,(.pointer (some ⟨b,22,none⟩)),(.slice a.cs p.codes.length a.cc),(.slice (x.A 0) p.codes.length (x.c 0)),(.pointer (some ⟨b,23,none⟩)),(.slice a.fs p.filters.length a.fc),(.slice (x.A 1) p.filters.length (x.c 1)),(.pointer (some ⟨b,24,none⟩)),(.slice a.ps p.props.length a.pc),(.slice (x.A 2) p.props.length (x.c 2)),(.pointer (some ⟨b,15,none⟩)),(.pointer (some ⟨b,19,none⟩)),(.slice a.w p.wProps.length a.wc),(.slice (x.A 3) p.wProps.length (x.c 3)),(.pointer (some ⟨b,22,none⟩)),(.pointer (some ⟨b,23,none⟩)),(.pointer (some ⟨b,24,none⟩)),(.pointer (some ⟨b,15,none⟩)),(.pointer (some ⟨b,19,none⟩)),x21]) (D:=[]) (by kernel_rfl) (by kernel_rfl) (by kernel_rfl) ?_ hS ?_ (fun x w hm hS=>fin x w hS (by have h0:=hm 14 (by decide) 0 3 rfl;have h1:=hm 16 (by decide) 1 3 rfl;have h2:=hm 18 (by decide) 2 3 rfl;have h3:=hm 21 (by decide) 3 3 rfl;exact⟨h0,h1,h2,h3⟩))
 ·exact fun x=>(by repeat (first | exact trivial | refine⟨.inr rfl,?_⟩ | refine⟨.inl rfl,?_⟩))
 refine q2y4.All.step rfl (qu7n.Does.pure (val:=fun x=>(.pointer (some ⟨b,22,none⟩))) rfl (fun x k n h=>by cases h) (fun x w hm hS=>⟨rfl,rfl,q0zh rfl⟩)) ?_
 refine q2y4.All.step rfl ((fun x w hm hf hS=>by
  have hs:x.s 0+1=1:=by have:=hf 0 1 rfl;omega
  exact .inl ⟨rfl,.value _ (x.to 0 1) w (q2ns rfl (qarg (KB x w hS) (by omega))) ⟨fun d hd=>by cases hd;rfl,LD 0 x w (by decide) hS (by omega),qcow (x:=x) (k:=0) (n:=1) rfl hs,fun i h=>qedx (k:=0) (n:=1) hs h,fun i hi h=>qjl5 (j:=1) (k:=0) (n:=1) rfl hs hi h,[],rfl,q2y4.off_refl 0 _⟩⟩)) ?_
 refine q2y4.All.step rfl ((fun x w hm hf hS=>by
  have hs:x.s 0+1=2:=by have:=hf 0 2 rfl;have:=hm 1 (by kernel_rfl) (by decide) 0 1 rfl;omega
  exact .inl ⟨rfl,.call _ _ (qs2w rfl) ((H0 x w hS (by omega)).mono fun e w' ⟨A',c',he,hk⟩=>⟨_,x.got 0 A' c',he,fun d hd=>by cases hd;rfl,hk,qcow (x:=x) (k:=0) (n:=2) rfl hs,fun i h=>qedx (k:=0) (n:=2) hs h,fun i hi h=>qjl5 (j:=2) (k:=0) (n:=2) rfl hs hi h,[5],by kernel_rfl,(by repeat (first | exact trivial | refine⟨.inr rfl,?_⟩ | refine⟨.inl rfl,?_⟩))⟩)⟩)) ?_
 refine q2y4.All.step rfl (qu7n.Does.pure (val:=fun x=>(.pointer (some ⟨b,23,none⟩))) rfl (fun x k n h=>by cases h) (fun x w hm hS=>⟨rfl,rfl,q2iq rfl⟩)) ?_
 refine q2y4.All.step rfl ((fun x w hm hf hS=>by
  have hs:x.s 1+1=1:=by have:=hf 1 1 rfl;omega
  exact .inl ⟨rfl,.value _ (x.to 1 1) w (qvo7 rfl (qwga (KB x w hS) (by omega))) ⟨fun d hd=>by cases hd;rfl,LD 1 x w (by decide) hS (by omega),qcow (x:=x) (k:=1) (n:=1) rfl hs,fun i h=>qedx (k:=1) (n:=1) hs h,fun i hi h=>qjl5 (j:=4) (k:=1) (n:=1) rfl hs hi h,[],rfl,q2y4.off_refl 0 _⟩⟩)) ?_
 refine q2y4.All.step rfl ((fun x w hm hf hS=>by
  have hs:x.s 1+1=2:=by have:=hf 1 2 rfl;have:=hm 4 (by kernel_rfl) (by decide) 1 1 rfl;omega
  exact .inl ⟨rfl,.call _ _ (qq8n rfl) ((H1 x w hS (by omega)).mono fun e w' ⟨A',c',he,hk⟩=>⟨_,x.got 1 A' c',he,fun d hd=>by cases hd;rfl,hk,qcow (x:=x) (k:=1) (n:=2) rfl hs,fun i h=>qedx (k:=1) (n:=2) hs h,fun i hi h=>qjl5 (j:=5) (k:=1) (n:=2) rfl hs hi h,[8],by kernel_rfl,(by repeat (first | exact trivial | refine⟨.inr rfl,?_⟩ | refine⟨.inl rfl,?_⟩))⟩)⟩)) ?_
 refine q2y4.All.step rfl (qu7n.Does.pure (val:=fun x=>(.pointer (some ⟨b,24,none⟩))) rfl (fun x k n h=>by cases h) (fun x w hm hS=>⟨rfl,rfl,qxry rfl⟩)) ?_
 refine q2y4.All.step rfl ((fun x w hm hf hS=>by
  have hs:x.s 2+1=1:=by have:=hf 2 1 rfl;omega
  exact .inl ⟨rfl,.value _ (x.to 2 1) w (q2vi rfl (q6hp (KB x w hS) (by omega))) ⟨fun d hd=>by cases hd;rfl,LD 2 x w (by decide) hS (by omega),qcow (x:=x) (k:=2) (n:=1) rfl hs,fun i h=>qedx (k:=2) (n:=1) hs h,fun i hi h=>qjl5 (j:=7) (k:=2) (n:=1) rfl hs hi h,[],rfl,q2y4.off_refl 0 _⟩⟩)) ?_
 refine q2y4.All.step rfl ((fun x w hm hf hS=>by
  have hs:x.s 2+1=2:=by have:=hf 2 2 rfl;have:=hm 7 (by kernel_rfl) (by decide) 2 1 rfl;omega
  exact .inl ⟨rfl,.call _ _ (qdzq rfl) ((H2 x w hS (by omega)).mono fun e w' ⟨A',c',he,hk⟩=>⟨_,x.got 2 A' c',he,fun d hd=>by cases hd;rfl,hk,qcow (x:=x) (k:=2) (n:=2) rfl hs,fun i h=>qedx (k:=2) (n:=2) hs h,fun i hi h=>qjl5 (j:=8) (k:=2) (n:=2) rfl hs hi h,[11],by kernel_rfl,(by repeat (first | exact trivial | refine⟨.inr rfl,?_⟩ | refine⟨.inl rfl,?_⟩))⟩)⟩)) ?_
 refine q2y4.All.step rfl (qu7n.Does.pure (val:=fun x=>(.pointer (some ⟨b,15,none⟩))) rfl (fun x k n h=>by cases h) (fun x w hm hS=>⟨rfl,rfl,qtdp rfl⟩)) ?_
 refine q2y4.All.step rfl (qu7n.Does.pure (val:=fun x=>(.pointer (some ⟨b,19,none⟩))) rfl (fun x k n h=>by cases h) (fun x w hm hS=>⟨rfl,rfl,qtwp rfl⟩)) ?_
 refine q2y4.All.step rfl ((fun x w hm hf hS=>by
  have hs:x.s 3+1=1:=by have:=hf 3 1 rfl;omega
  exact .inl ⟨rfl,.value _ (x.to 3 1) w (q2vi rfl (qgrp (KB x w hS) (by omega))) ⟨fun d hd=>by cases hd;rfl,LD 3 x w (by decide) hS (by omega),qcow (x:=x) (k:=3) (n:=1) rfl hs,fun i h=>qedx (k:=3) (n:=1) hs h,fun i hi h=>qjl5 (j:=11) (k:=3) (n:=1) rfl hs hi h,[],rfl,q2y4.off_refl 0 _⟩⟩)) ?_
 refine q2y4.All.step rfl ((fun x w hm hf hS=>by
  have hs:x.s 3+1=2:=by have:=hf 3 2 rfl;have:=hm 11 (by kernel_rfl) (by decide) 3 1 rfl;omega
  exact .inl ⟨rfl,.call _ _ (qdzq rfl) ((H3 x w hS (by omega)).mono fun e w' ⟨A',c',he,hk⟩=>⟨_,x.got 3 A' c',he,fun d hd=>by cases hd;rfl,hk,qcow (x:=x) (k:=3) (n:=2) rfl hs,fun i h=>qedx (k:=3) (n:=2) hs h,fun i hi h=>qjl5 (j:=12) (k:=3) (n:=2) rfl hs hi h,[15],by kernel_rfl,(by repeat (first | exact trivial | refine⟨.inr rfl,?_⟩ | refine⟨.inl rfl,?_⟩))⟩)⟩)) ?_
 refine q2y4.All.step rfl (qu7n.Does.pure (val:=fun x=>(.pointer (some ⟨b,22,none⟩))) rfl (fun x k n h=>by cases h) (fun x w hm hS=>⟨rfl,rfl,q0zh rfl⟩)) ?_
 refine q2y4.All.step rfl ((fun x w hm hf hS=>by
  have hs:x.s 0+1=3:=by have:=hf 0 3 rfl;have:=hm 2 (by kernel_rfl) (by decide) 0 2 rfl;omega
  exact .inl ⟨rfl,.skip (x.to 0 3) _ (q4bt rfl rfl (qarg (KB x w hS) (by omega)) (frozen_of_row _ _ _ _ _ (KB x w hS))) ⟨fun d hd=>(by cases hd),T0 x w hS (by omega),qcow (x:=x) (k:=0) (n:=3) rfl hs,fun i h=>qedx (k:=0) (n:=3) hs h,fun i hi h=>qjl5 (j:=14) (k:=0) (n:=3) rfl hs hi h,[],rfl,q2y4.off_refl 0 _⟩⟩)) ?_
 refine q2y4.All.step rfl (qu7n.Does.pure (val:=fun x=>(.pointer (some ⟨b,23,none⟩))) rfl (fun x k n h=>by cases h) (fun x w hm hS=>⟨rfl,rfl,q2iq rfl⟩)) ?_
 refine q2y4.All.step rfl ((fun x w hm hf hS=>by
  have hs:x.s 1+1=3:=by have:=hf 1 3 rfl;have:=hm 5 (by kernel_rfl) (by decide) 1 2 rfl;omega
  exact .inl ⟨rfl,.skip (x.to 1 3) _ (qdxg rfl rfl (qwga (KB x w hS) (by omega)) (frozen_of_row _ _ _ _ _ (KB x w hS))) ⟨fun d hd=>(by cases hd),T1 x w hS (by omega),qcow (x:=x) (k:=1) (n:=3) rfl hs,fun i h=>qedx (k:=1) (n:=3) hs h,fun i hi h=>qjl5 (j:=16) (k:=1) (n:=3) rfl hs hi h,[],rfl,q2y4.off_refl 0 _⟩⟩)) ?_
 refine q2y4.All.step rfl (qu7n.Does.pure (val:=fun x=>(.pointer (some ⟨b,24,none⟩))) rfl (fun x k n h=>by cases h) (fun x w hm hS=>⟨rfl,rfl,qxry rfl⟩)) ?_
 refine q2y4.All.step rfl ((fun x w hm hf hS=>by
  have hs:x.s 2+1=3:=by have:=hf 2 3 rfl;have:=hm 8 (by kernel_rfl) (by decide) 2 2 rfl;omega
  exact .inl ⟨rfl,.skip (x.to 2 3) _ (qshq rfl rfl (q6hp (KB x w hS) (by omega)) (frozen_of_row _ _ _ _ _ (KB x w hS))) ⟨fun d hd=>(by cases hd),T2 x w hS (by omega),qcow (x:=x) (k:=2) (n:=3) rfl hs,fun i h=>qedx (k:=2) (n:=3) hs h,fun i hi h=>qjl5 (j:=18) (k:=2) (n:=3) rfl hs hi h,[],rfl,q2y4.off_refl 0 _⟩⟩)) ?_
 refine q2y4.All.step rfl (qu7n.Does.pure (val:=fun x=>(.pointer (some ⟨b,15,none⟩))) rfl (fun x k n h=>by cases h) (fun x w hm hS=>⟨rfl,rfl,qtdp rfl⟩)) ?_
 refine q2y4.All.step rfl (qu7n.Does.pure (val:=fun x=>(.pointer (some ⟨b,19,none⟩))) rfl (fun x k n h=>by cases h) (fun x w hm hS=>⟨rfl,rfl,qtwp rfl⟩)) ?_
 refine q2y4.All.step rfl ((fun x w hm hf hS=>by
  have hs:x.s 3+1=3:=by have:=hf 3 3 rfl;have:=hm 12 (by kernel_rfl) (by decide) 3 2 rfl;omega
  exact .inl ⟨rfl,.skip (x.to 3 3) _ (qshq rfl rfl (qgrp (KB x w hS) (by omega)) (frozen_of_row _ _ _ _ _ (KB x w hS))) ⟨fun d hd=>(by cases hd),T3 x w hS (by omega),qcow (x:=x) (k:=3) (n:=3) rfl hs,fun i h=>qedx (k:=3) (n:=3) hs h,fun i hi h=>qjl5 (j:=21) (k:=3) (n:=3) rfl hs hi h,[],rfl,q2y4.off_refl 0 _⟩⟩)) ?_
 exact q2y4.All.fin rfl
end Go.Proofs.YtaahhbjnflimnaaGreat
