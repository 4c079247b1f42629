/- The contract of connect.Body. Condition: at most 70,000 elements a list, no more than their capacities; the fields are what their types hold. -/
import Derived.Deep.QuietTactic
import Derived.WalkSmall
import Derived.Deep.DeepCutAuto
import Derived.Maps.AppendAt
import Derived.Deep.AppendLies
import Derived.Test.YtaahhbjnflimnaaGreatK08
import Derived.Test.YtaahhbjnflimnaaGreatK16
import Derived.Test.YtaahhbjnflimnaaGreatK33
import Derived.Test.YtaahhbjnflimnaaGreatK27
import Derived.Test.YtaahhbjnflimnaaGreatK37
import Derived.Test.YtaahhbjnflimnaaGreatK06
import Derived.Test.YtaahhbjnflimnaaGreatK13
import Derived.Test.YtaahhbjnflimnaaGreatK10
import Derived.Test.YtaahhbjnflimnaaGreatK18
import Derived.Test.YtaahhbjnflimnaaGreatK12
set_option maxHeartbeats 2000000
set_option maxRecDepth 100000
namespace Go.Proofs.YtaahhbjnflimnaaGreat
open Go.RowKit
def GhS(w:World)(p:Pk)(a:Ad)(K:Nat→Array Value×TypeId)(x:Nat→Option Nat)(W:World):Prop:=
 BxS w p a W∧∀j g,x j=some g→W.heap[g]? = some (.cells (K j).1 (K j).2 (0,0))
section
variable{w W W':World}{p:Pk}{a:Ad}{K:Nat→Array Value×TypeId}{x:Nat→Option Nat}
theorem GhS.call(h:GhS w p a K x W)(hb:Below W.heap.size W W'):GhS w p a K x W':=
 ⟨h.1.call hb,fun j g hg=>(hb.block g (lt_of_block (h.2 j g hg))).trans (h.2 j g hg)⟩
theorem GhS.put(h:GhS w p a K x W)(j:Nat){cs:Array Value}{t:TypeId}(hK:K j=(cs,t)):GhS w p a K (putG x j W.heap.size) (W.alloc (.cells cs t)):=by
 have h1:=h.call (qybm (.cells cs t))
 refine⟨h1.1,fun i g hg=>?_⟩
 unfold putG at hg
 cases hi:Nat.beq i j with
 | true=>
  rw[hi] at hg
  obtain rfl:=Option.some.inj hg
  obtain rfl:=Nat.eq_of_beq_eq_true hi
  rw[hK]
  exact heap_alloc_new W _
 | false=>rw[hi] at hg;exact h1.2 i g hg
theorem GhS.begin(h:BxS w p a W):GhS w p a K (fun _=>none) W.drew:=⟨h.draw,fun _ _ h=>by cases h⟩
end
theorem q0ut{W:World}{g:Nat}{ls:List (List UInt8)}{cs:Array Value}(h:W.heap[g]? = some (.cells cs 9 (0,0)))(hc:cs=(strs ls).toArray):SR W (some ⟨g,0,none⟩) ls:=fun _=>by
 subst hc
 exact⟨_,_,rfl,lt_of_block h,fun j hj=>by rw[Nat.zero_add];exact(cell_of_row _ _ j _ _ _ h).trans (qx4f ls j hj)⟩
def ackK(b code:Int)(o t:List UInt8):Nat→Array Value×TypeId
 | 5=>(#[.int .i64 b,.int .i64 code],3)
 | 13=>(#[.string (bs o),.string (bs t)],9)
 | _=>(#[],0)
theorem qqai(v:Int)(p:Pk)(a:Ad)(w:World)(hp:PkAt w p a)(sp:q21o p)(ok:PkOk p)(ca:PkCap p a)(hv:validC v p=0)(hk:p.kind=2) :
 Calls Tryz.prog 10 #[.int .i64 v,pkV p a] w fun e w'=>e = .returned (.tuple #[.string (bs (rawC v p)),.int .i64 0])∧Below w.heap.size w w':=by
 have S0:=Lib.hid (BxS.made w p a)
 have VA:=fun W (h:BxS w p a W)=>qspo v p a W (hp.below h.low) sp ok ca
 rw[hv] at VA
 have VA:=Lib.hid VA
 have C1:=Lib.hid (qwmp p a)
 obtain⟨hok,_,_,_,_,_,hr,_⟩:=qgoi hv
 have hc:=((ok_c hok).2.2.2.2.1 hk).1
 have hc2:=qp3s hc
 obtain⟨b,hb⟩:∃b,(if p.session=true then(1:Int) else 0)=b:=⟨_,rfl⟩
 have hb0:0≤b∧b < 256:=by rw[←hb];split<;>decide
 have hbt:UInt8.ofNat b.toNat=UInt8.ofNat (bitC p.session 1):=by rw[←hb];unfold bitC;split<;>rfl
 have hraw:rawC v p=[UInt8.ofNat b.toNat,UInt8.ofNat p.code.toNat]++qasq v 2 p.props:=by rw[rawC,if_pos hk,hbt];rfl
 have htl:=qp2i hr
 rw[hk] at htl
 have KB:∀x W,GhS w p a (ackK b p.code [UInt8.ofNat b.toNat,UInt8.ofNat p.code.toNat] (qasq v 2 p.props)) x W→W.cell? ⟨w.heap.size,20,none⟩=some (.bool p.session)∧W.cell? ⟨w.heap.size,21,none⟩=some (.int .i64 p.code)∧W.cell? ⟨w.heap.size,0,none⟩=some (.int .i64 p.kind)∧W.cell? ⟨w.heap.size,24,none⟩=some (.slice a.ps p.props.length a.pc):=fun x W h=>⟨h.1.cell 20,h.1.cell 21,h.1.cell 0,h.1.cell 24⟩
 have H18:∀(x:Nat→Option Nat) W,GhS w p a (ackK b p.code [UInt8.ofNat b.toNat,UInt8.ofNat p.code.toNat] (qasq v 2 p.props)) x W→Calls Tryz.prog 37 #[.bool p.session,.int .i64 1] W fun e w'=>e = .returned (.int .i64 b)∧GhS w p a (ackK b p.code [UInt8.ofNat b.toNat,UInt8.ofNat p.code.toNat] (qasq v 2 p.props)) x w':=fun x W h=>by
  have:=qon0 p.session 1 W
  rw[hb] at this
  exact this.mono fun e w' ⟨he,hw⟩=>⟨he,hw▸h⟩
 have H22:∀(x:Nat→Option Nat) W,GhS w p a (ackK b p.code [UInt8.ofNat b.toNat,UInt8.ofNat p.code.toNat] (qasq v 2 p.props)) x W→(x 5).isSome=true→Calls Tryz.prog 36 #[rowN 2 (x 5)] W fun e w'=>e = .returned (.string (bs [UInt8.ofNat b.toNat,UInt8.ofNat p.code.toNat]))∧GhS w p a (ackK b p.code [UInt8.ofNat b.toNat,UInt8.ofNat p.code.toNat] (qasq v 2 p.props)) x w':=fun x W h hx=>by
  obtain⟨g,hg⟩:=Option.isSome_iff_exists.1 hx
  rw[hg]
  have hr:W.heap[g]? = some (.cells #[.int .i64 b,.int .i64 p.code] 3 (0,0)):=h.2 5 g hg
  exact(q9q1 g 2 b p.code W (lt_of_block hr) hb0.1 hb0.2 hc2.1 (by omega) (cell_of_row _ _ 0 _ _ _ hr) (cell_of_row _ _ 1 _ _ _ hr)).mono fun e w' ⟨he,hb⟩=>⟨he,h.call hb⟩
 have H28:∀(x:Nat→Option Nat) W,GhS w p a (ackK b p.code [UInt8.ofNat b.toNat,UInt8.ofNat p.code.toNat] (qasq v 2 p.props)) x W→Calls Tryz.prog 38 #[.int .i64 v,.int .i64 p.kind,.slice a.ps p.props.length a.pc] W fun e w'=>e = .returned (.string (bs (qasq v 2 p.props)))∧GhS w p a (ackK b p.code [UInt8.ofNat b.toNat,UInt8.ofNat p.code.toNat] (qasq v 2 p.props)) x w':=fun x W h=>by
  rw[hk]
  exact(q7sk v 2 a.ps p.props.length a.pc p.props W (by decide) (by decide) (hp.below h.1.low).ps rfl ca.pc (fun y hy=>(ok.pps y hy).1)).mono fun e w' ⟨he,hb⟩=>⟨he,h.call hb⟩
 have H30:∀(x:Nat→Option Nat) W,GhS w p a (ackK b p.code [UInt8.ofNat b.toNat,UInt8.ofNat p.code.toNat] (qasq v 2 p.props)) x W→(x 13).isSome=true→Calls Tryz.prog 35 #[rowN 2 (x 13)] W fun e w'=>e = .returned (.string (bs (rawC v p)))∧GhS w p a (ackK b p.code [UInt8.ofNat b.toNat,UInt8.ofNat p.code.toNat] (qasq v 2 p.props)) x w':=fun x W h hx=>by
  obtain⟨g,hg⟩:=Option.isSome_iff_exists.1 hx
  rw[hg,hraw]
  have hr:W.heap[g]? = some (.cells #[.string (bs [UInt8.ofNat b.toNat,UInt8.ofNat p.code.toNat]),.string (bs (qasq v 2 p.props))] 9 (0,0)):=h.2 13 g hg
  have:=qils g 0 2 [[UInt8.ofNat b.toNat,UInt8.ofNat p.code.toNat],qasq v 2 p.props] W (q0ut hr rfl) (by simp) (Nat.le_refl _) (by simp;omega) (by simp)
  have e1:[[UInt8.ofNat b.toNat,UInt8.ofNat p.code.toNat],qasq v 2 p.props].flatten=[UInt8.ofNat b.toNat,UInt8.ofNat p.code.toNat]++qasq v 2 p.props:=by simp
  rw[e1] at this
  exact this.mono fun e w' ⟨he,hb⟩=>⟨he,h.call hb⟩
 have M5:∀(x:Nat→Option Nat) W,GhS w p a (ackK b p.code [UInt8.ofNat b.toNat,UInt8.ofNat p.code.toNat] (qasq v 2 p.props)) x W→GhS w p a (ackK b p.code [UInt8.ofNat b.toNat,UInt8.ofNat p.code.toNat] (qasq v 2 p.props)) (putG x 5 W.heap.size) (W.alloc (.cells #[.int .i64 b,.int .i64 p.code] 3)):=fun x W h=>h.put 5 rfl
 have M13:∀(x:Nat→Option Nat) W,GhS w p a (ackK b p.code [UInt8.ofNat b.toNat,UInt8.ofNat p.code.toNat] (qasq v 2 p.props)) x W→GhS w p a (ackK b p.code [UInt8.ofNat b.toNat,UInt8.ofNat p.code.toNat] (qasq v 2 p.props)) (putG x 13 W.heap.size) (W.alloc (.cells #[.string (bs [UInt8.ofNat b.toNat,UInt8.ofNat p.code.toNat]),.string (bs (qasq v 2 p.props))] 9)):=fun x W h=>h.put 13 rfl
 have BE:∀W,BxS w p a W→GhS w p a (ackK b p.code [UInt8.ofNat b.toNat,UInt8.ofNat p.code.toNat] (qasq v 2 p.props)) (fun _=>none) W.drew:=fun W h=>GhS.begin h
 have LO:∀x W,GhS w p a (ackK b p.code [UInt8.ofNat b.toNat,UInt8.ofNat p.code.toNat] (qasq v 2 p.props)) x W→Below w.heap.size w W:=fun x W h=>h.1.low
 generalize GhS w p a (ackK b p.code [UInt8.ofNat b.toNat,UInt8.ofNat p.code.toNat] (qasq v 2 p.props))=S at *
 have KB:=Lib.hid KB
 have H18:=Lib.hid H18
 have H22:=Lib.hid H22
 have H28:=Lib.hid H28
 have H30:=Lib.hid H30
 have M5:=Lib.hid M5
 have M13:=Lib.hid M13
 have BE:=Lib.hid BE
 have LO:=Lib.hid LO
 have HK:=Lib.hid hk
 generalize rawC v p=R at *
 unfold pkV
 clear hp sp ok ca hv hok hr hc hc2 hb hb0 hbt hraw htl
 go_enter Tryz.func10,Tryz.ntmps10
 go_wp2_with (refine wpList_load_row rfl _ _ rfl w.heap.size rfl 28 _ (0,0) _ S0.out.box Tryz.underlying28 rfl (by rw[C1.out];exact q5nr) ?_)
 refine(VA.out _ S0.out).mono ?_
 rintro e W ⟨rfl,hb⟩
 have S1:=Lib.hid (S0.out.call hb)
 clear hb
 have k0:W.cell? ⟨w.heap.size,0,none⟩=some (.int .i64 p.kind):=S1.out.cell 0
 rw[HK.out] at k0
 go_upto_region 5 with fail
 refine q2ps (S:=S) (B:=w.heap.size) (BE.out _ S1.out) (fun x w h=>(KB.out x w h).2.2.1) (fun x w h=>(KB.out x w h).1) (fun x w h=>(KB.out x w h).2.1) (fun x w h=>(KB.out x w h).2.2.2) M5.out M13.out H18.out H22.out H28.out H30.out ?_
 intro x r5 r13 W2 hS
 have L2:=Lib.hid (LO.out x W2 hS)
 clear hS
 go_wp2_with fail
 go_ret2
 exact⟨rfl,L2.out⟩
def conK(v:Int)(F:Nat)(cl wt wp us pa k t tw:List UInt8)(hw hu ha:Bool):Nat→Array Value×TypeId
 | 3=>(#[.int .i64 v,.int .i64 F],3)
 | 17=>(#[.string (bs cl)],9)
 | 32=>(#[.string (bs wt),.string (bs wp)],9)
 | 34=>(#[.string (bs tw),.string (bs (enc2 wt++enc2 wp))],9)
 | 40=>(#[.string (bs us)],9)
 | 42=>(#[.string (bs (enc2 us))],9)
 | 48=>(#[.string (bs pa)],9)
 | 50=>(#[.string (bs (enc2 pa))],9)
 | 52=>(#[.string ⟨#[0,4,77,81,84,84]⟩,.string (bs [UInt8.ofNat v.toNat,UInt8.ofNat F]),.string (bs k),.string (bs t),.string (bs (enc2 cl)),.string (bs (if hw then tw++(enc2 wt++enc2 wp) else [])),.string (bs (if hu then enc2 us else [])),.string (bs (if ha then enc2 pa else []))],9)
 | _=>(#[],0)
theorem qglk{v:Int}{p:Pk}(hv:validC v p=0)(hk:p.kind=1):(v=4∨v=5)∧qc61 p < 256∧(0≤p.keep∧p.keep≤65535)∧p.client.length≤65535∧p.user.length≤65535∧p.wTopic.length≤65535∧p.wPayload.length≤65535∧p.pass.length≤65535∧
 (qasq v 1 p.props).length≤300000000∧(qasq v 16 p.wProps).length≤300000000:=by
 obtain⟨hok,h1,h2,h3,h4,h5,hr,hw⟩:=qgoi hv
 obtain⟨g1,g2,g3,g4,g5,g6⟩:=ok_c hok
 obtain⟨g7,g8,g9⟩:=g6 hk
 rw[hk] at hr
 refine⟨g1,?_,g8,((qbv6 _).1 h1).1,((qbv6 _).1 h2).1,?_,h4,h5,qp2i hr,qp2i hw⟩
 ·have hq:p.wQos=(p.wQos.toNat:Int):=by omega
  rw[qv7n hk hq (by omega)]
  exact(qwk3 _ _ _ _ _ (by omega)).1
 ·cases hw:p.hasWill with
  | true=>exact((qbv6 _).1 (qmh4 (h3 hw))).1
  | false=>
   have:p.wTopic=[]:=by rw[g3];unfold qm70;rw[if_neg (by omega)];simp[hw]
   rw[this];decide
theorem qfoi(v:Int)(p:Pk)(a:Ad)(w:World)(hp:PkAt w p a)(sp:q21o p)(ok:PkOk p)(ca:PkCap p a)(hv:validC v p=0)(hk:p.kind=1) :
 Calls Tryz.prog 10 #[.int .i64 v,pkV p a] w fun e w'=>e = .returned (.tuple #[.string (bs (rawC v p)),.int .i64 0])∧Below w.heap.size w w':=by
 have S0:=Lib.hid (BxS.made w p a)
 have VA:=fun W (h:BxS w p a W)=>qspo v p a W (hp.below h.low) sp ok ca
 rw[hv] at VA
 have VA:=Lib.hid VA
 have C1:=Lib.hid (qwmp p a)
 obtain⟨f1,f2,f3,l1,l2,l3,l4,l5,l6,l7⟩:=qglk hv hk
 obtain⟨F,hF⟩:∃F,qc61 p=F:=⟨_,rfl⟩
 rw[hF] at f2
 have hraw:rawC v p=[[0,4,77,81,84,84],[UInt8.ofNat v.toNat,UInt8.ofNat F],be p.keep.toNat 2,qasq v 1 p.props,enc2 p.client,(if p.hasWill then qasq v 16 p.wProps++(enc2 p.wTopic++enc2 p.wPayload) else []),(if p.hasUser then enc2 p.user else []),(if p.hasPass then enc2 p.pass else [])].flatten:=by
  rw[rawC,if_neg (by omega),hF]
  have e6:enc2 q1f4=[0,4,77,81,84,84]:=by decide
  rw[e6]
  simp
 have H33:∀(x:Nat→Option Nat) W,GhS w p a (conK v F p.client p.wTopic p.wPayload p.user p.pass (be p.keep.toNat 2) (qasq v 1 p.props) (qasq v 16 p.wProps) p.hasWill p.hasUser p.hasPass) x W→Calls Tryz.prog 18 #[.agg (pkC p a)] W fun e w'=>e = .returned (.int .i64 (F:Int))∧GhS w p a (conK v F p.client p.wTopic p.wPayload p.user p.pass (be p.keep.toNat 2) (qasq v 1 p.props) (qasq v 16 p.wProps) p.hasWill p.hasUser p.hasPass) x w':=fun x W h=>by
  have:=qdq7 p a W
  rw[hF] at this
  exact this.mono fun e w' ⟨he,hb⟩=>⟨he,h.call hb⟩
 have H35:∀(x:Nat→Option Nat) W,GhS w p a (conK v F p.client p.wTopic p.wPayload p.user p.pass (be p.keep.toNat 2) (qasq v 1 p.props) (qasq v 16 p.wProps) p.hasWill p.hasUser p.hasPass) x W→(x 3).isSome=true→Calls Tryz.prog 36 #[rowN 2 (x 3)] W fun e w'=>e = .returned (.string (bs [UInt8.ofNat v.toNat,UInt8.ofNat F]))∧GhS w p a (conK v F p.client p.wTopic p.wPayload p.user p.pass (be p.keep.toNat 2) (qasq v 1 p.props) (qasq v 16 p.wProps) p.hasWill p.hasUser p.hasPass) x w':=fun x W h hx=>by
  obtain⟨g,hg⟩:=Option.isSome_iff_exists.1 hx
  rw[hg]
  have hr:W.heap[g]? = some (.cells #[.int .i64 v,.int .i64 F] 3 (0,0)):=h.2 3 g hg
  have:=q9q1 g 2 v F W (lt_of_block hr) (by omega) (by omega) (by omega) (by omega) (cell_of_row _ _ 0 _ _ _ hr) (cell_of_row _ _ 1 _ _ _ hr)
  rw[Int.toNat_natCast] at this
  exact this.mono fun e w' ⟨he,hb⟩=>⟨he,h.call hb⟩
 have H39:∀(x:Nat→Option Nat) W,GhS w p a (conK v F p.client p.wTopic p.wPayload p.user p.pass (be p.keep.toNat 2) (qasq v 1 p.props) (qasq v 16 p.wProps) p.hasWill p.hasUser p.hasPass) x W→Calls Tryz.prog 39 #[.int .u64 p.keep,.int .i64 2] W fun e w'=>e = .returned (.string (bs (be p.keep.toNat 2)))∧GhS w p a (conK v F p.client p.wTopic p.wPayload p.user p.pass (be p.keep.toNat 2) (qasq v 1 p.props) (qasq v 16 p.wProps) p.hasWill p.hasUser p.hasPass) x w':=fun x W h=>by
  have:=qe3g p.keep.toNat 2 W (by omega)
  rw[show(min (2:Int) 16).toNat=2 by decide,show((p.keep.toNat:Nat):Int)=p.keep by omega] at this
  exact this.mono fun e w' ⟨he,hb⟩=>⟨he,h.call hb⟩
 have H45:∀(x:Nat→Option Nat) W,GhS w p a (conK v F p.client p.wTopic p.wPayload p.user p.pass (be p.keep.toNat 2) (qasq v 1 p.props) (qasq v 16 p.wProps) p.hasWill p.hasUser p.hasPass) x W→Calls Tryz.prog 38 #[.int .i64 v,.int .i64 p.kind,.slice a.ps p.props.length a.pc] W fun e w'=>e = .returned (.string (bs (qasq v 1 p.props)))∧GhS w p a (conK v F p.client p.wTopic p.wPayload p.user p.pass (be p.keep.toNat 2) (qasq v 1 p.props) (qasq v 16 p.wProps) p.hasWill p.hasUser p.hasPass) x w':=fun x W h=>by
  rw[hk]
  exact(q7sk v 1 a.ps p.props.length a.pc p.props W (by decide) (by decide) (hp.below h.1.low).ps rfl ca.pc (fun y hy=>(ok.pps y hy).1)).mono fun e w' ⟨he,hb⟩=>⟨he,h.call hb⟩
 have H49:∀(x:Nat→Option Nat) W,GhS w p a (conK v F p.client p.wTopic p.wPayload p.user p.pass (be p.keep.toNat 2) (qasq v 1 p.props) (qasq v 16 p.wProps) p.hasWill p.hasUser p.hasPass) x W→(x 17).isSome=true→Calls Tryz.prog 40 #[rowN 1 (x 17)] W fun e w'=>e = .returned (.string (bs (enc2 p.client)))∧GhS w p a (conK v F p.client p.wTopic p.wPayload p.user p.pass (be p.keep.toNat 2) (qasq v 1 p.props) (qasq v 16 p.wProps) p.hasWill p.hasUser p.hasPass) x w':=fun x W h hx=>by
  obtain⟨g,hg⟩:=Option.isSome_iff_exists.1 hx
  rw[hg]
  have hr:W.heap[g]? = some (.cells #[.string (bs p.client)] 9 (0,0)):=h.2 17 g hg
  exact(qyi6 g 1 p.client W (lt_of_block hr) l1 (cell_of_row _ _ 0 _ _ _ hr)).mono fun e w' ⟨he,hb⟩=>⟨he,h.call hb⟩
 have H56:∀(x:Nat→Option Nat) W,GhS w p a (conK v F p.client p.wTopic p.wPayload p.user p.pass (be p.keep.toNat 2) (qasq v 1 p.props) (qasq v 16 p.wProps) p.hasWill p.hasUser p.hasPass) x W→Calls Tryz.prog 38 #[.int .i64 v,.int .i64 16,.slice a.w p.wProps.length a.wc] W fun e w'=>e = .returned (.string (bs (qasq v 16 p.wProps)))∧GhS w p a (conK v F p.client p.wTopic p.wPayload p.user p.pass (be p.keep.toNat 2) (qasq v 1 p.props) (qasq v 16 p.wProps) p.hasWill p.hasUser p.hasPass) x w':=fun x W h=>by
  exact(q7sk v 16 a.w p.wProps.length a.wc p.wProps W (by decide) (by decide) (hp.below h.1.low).w rfl ca.wc (fun y hy=>(ok.wps y hy).1)).mono fun e w' ⟨he,hb⟩=>⟨he,h.call hb⟩
 have H64:∀(x:Nat→Option Nat) W,GhS w p a (conK v F p.client p.wTopic p.wPayload p.user p.pass (be p.keep.toNat 2) (qasq v 1 p.props) (qasq v 16 p.wProps) p.hasWill p.hasUser p.hasPass) x W→(x 32).isSome=true→Calls Tryz.prog 40 #[rowN 2 (x 32)] W fun e w'=>e = .returned (.string (bs (enc2 p.wTopic++enc2 p.wPayload)))∧GhS w p a (conK v F p.client p.wTopic p.wPayload p.user p.pass (be p.keep.toNat 2) (qasq v 1 p.props) (qasq v 16 p.wProps) p.hasWill p.hasUser p.hasPass) x w':=fun x W h hx=>by
  obtain⟨g,hg⟩:=Option.isSome_iff_exists.1 hx
  rw[hg]
  have hr:W.heap[g]? = some (.cells #[.string (bs p.wTopic),.string (bs p.wPayload)] 9 (0,0)):=h.2 32 g hg
  exact(qoy1 g 2 p.wTopic p.wPayload W (lt_of_block hr) l3 l4 (cell_of_row _ _ 0 _ _ _ hr) (cell_of_row _ _ 1 _ _ _ hr)).mono fun e w' ⟨he,hb⟩=>⟨he,h.call hb⟩
 have H66:∀(x:Nat→Option Nat) W,GhS w p a (conK v F p.client p.wTopic p.wPayload p.user p.pass (be p.keep.toNat 2) (qasq v 1 p.props) (qasq v 16 p.wProps) p.hasWill p.hasUser p.hasPass) x W→(x 34).isSome=true→Calls Tryz.prog 41 #[.bool p.hasWill,rowN 2 (x 34)] W fun e w'=>e = .returned (.string (bs (if p.hasWill then qasq v 16 p.wProps++(enc2 p.wTopic++enc2 p.wPayload) else [])))∧GhS w p a (conK v F p.client p.wTopic p.wPayload p.user p.pass (be p.keep.toNat 2) (qasq v 1 p.props) (qasq v 16 p.wProps) p.hasWill p.hasUser p.hasPass) x w':=fun x W h hx=>by
  obtain⟨g,hg⟩:=Option.isSome_iff_exists.1 hx
  rw[hg]
  have hr:W.heap[g]? = some (.cells #[.string (bs (qasq v 16 p.wProps)),.string (bs (enc2 p.wTopic++enc2 p.wPayload))] 9 (0,0)):=h.2 34 g hg
  have:=q99g p.hasWill g 0 2 [qasq v 16 p.wProps,enc2 p.wTopic++enc2 p.wPayload] W (q0ut hr rfl) (by simp) (Nat.le_refl _) (by simp[qnp6];omega) (by simp)
  rw[show [qasq v 16 p.wProps,enc2 p.wTopic++enc2 p.wPayload].flatten=qasq v 16 p.wProps++(enc2 p.wTopic++enc2 p.wPayload) by simp] at this
  exact this.mono fun e w' ⟨he,hb⟩=>⟨he,h.call hb⟩
 have H72:∀(x:Nat→Option Nat) W,GhS w p a (conK v F p.client p.wTopic p.wPayload p.user p.pass (be p.keep.toNat 2) (qasq v 1 p.props) (qasq v 16 p.wProps) p.hasWill p.hasUser p.hasPass) x W→(x 40).isSome=true→Calls Tryz.prog 40 #[rowN 1 (x 40)] W fun e w'=>e = .returned (.string (bs (enc2 p.user)))∧GhS w p a (conK v F p.client p.wTopic p.wPayload p.user p.pass (be p.keep.toNat 2) (qasq v 1 p.props) (qasq v 16 p.wProps) p.hasWill p.hasUser p.hasPass) x w':=fun x W h hx=>by
  obtain⟨g,hg⟩:=Option.isSome_iff_exists.1 hx
  rw[hg]
  have hr:W.heap[g]? = some (.cells #[.string (bs p.user)] 9 (0,0)):=h.2 40 g hg
  exact(qyi6 g 1 p.user W (lt_of_block hr) l2 (cell_of_row _ _ 0 _ _ _ hr)).mono fun e w' ⟨he,hb⟩=>⟨he,h.call hb⟩
 have H74:∀(x:Nat→Option Nat) W,GhS w p a (conK v F p.client p.wTopic p.wPayload p.user p.pass (be p.keep.toNat 2) (qasq v 1 p.props) (qasq v 16 p.wProps) p.hasWill p.hasUser p.hasPass) x W→(x 42).isSome=true→Calls Tryz.prog 41 #[.bool p.hasUser,rowN 1 (x 42)] W fun e w'=>e = .returned (.string (bs (if p.hasUser then enc2 p.user else [])))∧GhS w p a (conK v F p.client p.wTopic p.wPayload p.user p.pass (be p.keep.toNat 2) (qasq v 1 p.props) (qasq v 16 p.wProps) p.hasWill p.hasUser p.hasPass) x w':=fun x W h hx=>by
  obtain⟨g,hg⟩:=Option.isSome_iff_exists.1 hx
  rw[hg]
  have hr:W.heap[g]? = some (.cells #[.string (bs (enc2 p.user))] 9 (0,0)):=h.2 42 g hg
  have:=q99g p.hasUser g 0 1 [enc2 p.user] W (q0ut hr rfl) (by simp) (Nat.le_refl _) (by simp[qnp6];omega) (by simp)
  rw[show [enc2 p.user].flatten=enc2 p.user by simp] at this
  exact this.mono fun e w' ⟨he,hb⟩=>⟨he,h.call hb⟩
 have H80:∀(x:Nat→Option Nat) W,GhS w p a (conK v F p.client p.wTopic p.wPayload p.user p.pass (be p.keep.toNat 2) (qasq v 1 p.props) (qasq v 16 p.wProps) p.hasWill p.hasUser p.hasPass) x W→(x 48).isSome=true→Calls Tryz.prog 40 #[rowN 1 (x 48)] W fun e w'=>e = .returned (.string (bs (enc2 p.pass)))∧GhS w p a (conK v F p.client p.wTopic p.wPayload p.user p.pass (be p.keep.toNat 2) (qasq v 1 p.props) (qasq v 16 p.wProps) p.hasWill p.hasUser p.hasPass) x w':=fun x W h hx=>by
  obtain⟨g,hg⟩:=Option.isSome_iff_exists.1 hx
  rw[hg]
  have hr:W.heap[g]? = some (.cells #[.string (bs p.pass)] 9 (0,0)):=h.2 48 g hg
  exact(qyi6 g 1 p.pass W (lt_of_block hr) l5 (cell_of_row _ _ 0 _ _ _ hr)).mono fun e w' ⟨he,hb⟩=>⟨he,h.call hb⟩
 have H82:∀(x:Nat→Option Nat) W,GhS w p a (conK v F p.client p.wTopic p.wPayload p.user p.pass (be p.keep.toNat 2) (qasq v 1 p.props) (qasq v 16 p.wProps) p.hasWill p.hasUser p.hasPass) x W→(x 50).isSome=true→Calls Tryz.prog 41 #[.bool p.hasPass,rowN 1 (x 50)] W fun e w'=>e = .returned (.string (bs (if p.hasPass then enc2 p.pass else [])))∧GhS w p a (conK v F p.client p.wTopic p.wPayload p.user p.pass (be p.keep.toNat 2) (qasq v 1 p.props) (qasq v 16 p.wProps) p.hasWill p.hasUser p.hasPass) x w':=fun x W h hx=>by
  obtain⟨g,hg⟩:=Option.isSome_iff_exists.1 hx
  rw[hg]
  have hr:W.heap[g]? = some (.cells #[.string (bs (enc2 p.pass))] 9 (0,0)):=h.2 50 g hg
  have:=q99g p.hasPass g 0 1 [enc2 p.pass] W (q0ut hr rfl) (by simp) (Nat.le_refl _) (by simp[qnp6];omega) (by simp)
  rw[show [enc2 p.pass].flatten=enc2 p.pass by simp] at this
  exact this.mono fun e w' ⟨he,hb⟩=>⟨he,h.call hb⟩
 have H84:∀(x:Nat→Option Nat) W,GhS w p a (conK v F p.client p.wTopic p.wPayload p.user p.pass (be p.keep.toNat 2) (qasq v 1 p.props) (qasq v 16 p.wProps) p.hasWill p.hasUser p.hasPass) x W→(x 52).isSome=true→Calls Tryz.prog 35 #[rowN 8 (x 52)] W fun e w'=>e = .returned (.string (bs (rawC v p)))∧GhS w p a (conK v F p.client p.wTopic p.wPayload p.user p.pass (be p.keep.toNat 2) (qasq v 1 p.props) (qasq v 16 p.wProps) p.hasWill p.hasUser p.hasPass) x w':=fun x W h hx=>by
  obtain⟨g,hg⟩:=Option.isSome_iff_exists.1 hx
  rw[hg]
  have hr:W.heap[g]? = some (.cells #[.string ⟨#[0,4,77,81,84,84]⟩,.string (bs [UInt8.ofNat v.toNat,UInt8.ofNat F]),.string (bs (be p.keep.toNat 2)),.string (bs (qasq v 1 p.props)),.string (bs (enc2 p.client)),.string (bs (if p.hasWill then qasq v 16 p.wProps++(enc2 p.wTopic++enc2 p.wPayload) else [])),.string (bs (if p.hasUser then enc2 p.user else [])),.string (bs (if p.hasPass then enc2 p.pass else []))] 9 (0,0)):=h.2 52 g hg
  have hz:(if p.hasWill then qasq v 16 p.wProps++(enc2 p.wTopic++enc2 p.wPayload) else []).length≤400000000:=by split<;>simp[qnp6]<;>omega
  have hu:(if p.hasUser then enc2 p.user else []).length≤70000:=by split<;>simp[qnp6]<;>omega
  have ha:(if p.hasPass then enc2 p.pass else []).length≤70000:=by split<;>simp[qnp6]<;>omega
  have hc:(enc2 p.client).length≤70000:=by rw[qnp6];omega
  have hb2:(be p.keep.toNat 2).length=2:=q0rl 2 _
  have hl:[[0,4,77,81,84,84],[UInt8.ofNat v.toNat,UInt8.ofNat F],be p.keep.toNat 2,qasq v 1 p.props,enc2 p.client,(if p.hasWill then qasq v 16 p.wProps++(enc2 p.wTopic++enc2 p.wPayload) else []),(if p.hasUser then enc2 p.user else []),(if p.hasPass then enc2 p.pass else [])].flatten.length≤4000000000:=by
   generalize (if p.hasWill then qasq v 16 p.wProps++(enc2 p.wTopic++enc2 p.wPayload) else [])=z1 at *
   generalize (if p.hasUser then enc2 p.user else [])=z2 at *
   generalize (if p.hasPass then enc2 p.pass else [])=z3 at *
   generalize enc2 p.client=z4 at *
   generalize be p.keep.toNat 2=z5 at *
   simp
   omega
  have:=qils g 0 8 [[0,4,77,81,84,84],[UInt8.ofNat v.toNat,UInt8.ofNat F],be p.keep.toNat 2,qasq v 1 p.props,enc2 p.client,(if p.hasWill then qasq v 16 p.wProps++(enc2 p.wTopic++enc2 p.wPayload) else []),(if p.hasUser then enc2 p.user else []),(if p.hasPass then enc2 p.pass else [])] W (q0ut hr rfl) (by simp) (Nat.le_refl _) hl (by simp)
  rw[←hraw] at this
  exact this.mono fun e w' ⟨he,hb⟩=>⟨he,h.call hb⟩
 have M3:∀(x:Nat→Option Nat) W,GhS w p a (conK v F p.client p.wTopic p.wPayload p.user p.pass (be p.keep.toNat 2) (qasq v 1 p.props) (qasq v 16 p.wProps) p.hasWill p.hasUser p.hasPass) x W→GhS w p a (conK v F p.client p.wTopic p.wPayload p.user p.pass (be p.keep.toNat 2) (qasq v 1 p.props) (qasq v 16 p.wProps) p.hasWill p.hasUser p.hasPass) (putG x 3 W.heap.size) (W.alloc (.cells #[.int .i64 v,.int .i64 (F:Int)] 3)):=fun x W h=>h.put 3 rfl
 have M17:∀(x:Nat→Option Nat) W,GhS w p a (conK v F p.client p.wTopic p.wPayload p.user p.pass (be p.keep.toNat 2) (qasq v 1 p.props) (qasq v 16 p.wProps) p.hasWill p.hasUser p.hasPass) x W→GhS w p a (conK v F p.client p.wTopic p.wPayload p.user p.pass (be p.keep.toNat 2) (qasq v 1 p.props) (qasq v 16 p.wProps) p.hasWill p.hasUser p.hasPass) (putG x 17 W.heap.size) (W.alloc (.cells #[.string (bs p.client)] 9)):=fun x W h=>h.put 17 rfl
 have M32:∀(x:Nat→Option Nat) W,GhS w p a (conK v F p.client p.wTopic p.wPayload p.user p.pass (be p.keep.toNat 2) (qasq v 1 p.props) (qasq v 16 p.wProps) p.hasWill p.hasUser p.hasPass) x W→GhS w p a (conK v F p.client p.wTopic p.wPayload p.user p.pass (be p.keep.toNat 2) (qasq v 1 p.props) (qasq v 16 p.wProps) p.hasWill p.hasUser p.hasPass) (putG x 32 W.heap.size) (W.alloc (.cells #[.string (bs p.wTopic),.string (bs p.wPayload)] 9)):=fun x W h=>h.put 32 rfl
 have M34:∀(x:Nat→Option Nat) W,GhS w p a (conK v F p.client p.wTopic p.wPayload p.user p.pass (be p.keep.toNat 2) (qasq v 1 p.props) (qasq v 16 p.wProps) p.hasWill p.hasUser p.hasPass) x W→GhS w p a (conK v F p.client p.wTopic p.wPayload p.user p.pass (be p.keep.toNat 2) (qasq v 1 p.props) (qasq v 16 p.wProps) p.hasWill p.hasUser p.hasPass) (putG x 34 W.heap.size) (W.alloc (.cells #[.string (bs (qasq v 16 p.wProps)),.string (bs (enc2 p.wTopic++enc2 p.wPayload))] 9)):=fun x W h=>h.put 34 rfl
 have M40:∀(x:Nat→Option Nat) W,GhS w p a (conK v F p.client p.wTopic p.wPayload p.user p.pass (be p.keep.toNat 2) (qasq v 1 p.props) (qasq v 16 p.wProps) p.hasWill p.hasUser p.hasPass) x W→GhS w p a (conK v F p.client p.wTopic p.wPayload p.user p.pass (be p.keep.toNat 2) (qasq v 1 p.props) (qasq v 16 p.wProps) p.hasWill p.hasUser p.hasPass) (putG x 40 W.heap.size) (W.alloc (.cells #[.string (bs p.user)] 9)):=fun x W h=>h.put 40 rfl
 have M42:∀(x:Nat→Option Nat) W,GhS w p a (conK v F p.client p.wTopic p.wPayload p.user p.pass (be p.keep.toNat 2) (qasq v 1 p.props) (qasq v 16 p.wProps) p.hasWill p.hasUser p.hasPass) x W→GhS w p a (conK v F p.client p.wTopic p.wPayload p.user p.pass (be p.keep.toNat 2) (qasq v 1 p.props) (qasq v 16 p.wProps) p.hasWill p.hasUser p.hasPass) (putG x 42 W.heap.size) (W.alloc (.cells #[.string (bs (enc2 p.user))] 9)):=fun x W h=>h.put 42 rfl
 have M48:∀(x:Nat→Option Nat) W,GhS w p a (conK v F p.client p.wTopic p.wPayload p.user p.pass (be p.keep.toNat 2) (qasq v 1 p.props) (qasq v 16 p.wProps) p.hasWill p.hasUser p.hasPass) x W→GhS w p a (conK v F p.client p.wTopic p.wPayload p.user p.pass (be p.keep.toNat 2) (qasq v 1 p.props) (qasq v 16 p.wProps) p.hasWill p.hasUser p.hasPass) (putG x 48 W.heap.size) (W.alloc (.cells #[.string (bs p.pass)] 9)):=fun x W h=>h.put 48 rfl
 have M50:∀(x:Nat→Option Nat) W,GhS w p a (conK v F p.client p.wTopic p.wPayload p.user p.pass (be p.keep.toNat 2) (qasq v 1 p.props) (qasq v 16 p.wProps) p.hasWill p.hasUser p.hasPass) x W→GhS w p a (conK v F p.client p.wTopic p.wPayload p.user p.pass (be p.keep.toNat 2) (qasq v 1 p.props) (qasq v 16 p.wProps) p.hasWill p.hasUser p.hasPass) (putG x 50 W.heap.size) (W.alloc (.cells #[.string (bs (enc2 p.pass))] 9)):=fun x W h=>h.put 50 rfl
 have M52:∀(x:Nat→Option Nat) W,GhS w p a (conK v F p.client p.wTopic p.wPayload p.user p.pass (be p.keep.toNat 2) (qasq v 1 p.props) (qasq v 16 p.wProps) p.hasWill p.hasUser p.hasPass) x W→GhS w p a (conK v F p.client p.wTopic p.wPayload p.user p.pass (be p.keep.toNat 2) (qasq v 1 p.props) (qasq v 16 p.wProps) p.hasWill p.hasUser p.hasPass) (putG x 52 W.heap.size) (W.alloc (.cells #[.string ⟨#[0,4,77,81,84,84]⟩,.string (bs [UInt8.ofNat v.toNat,UInt8.ofNat F]),.string (bs (be p.keep.toNat 2)),.string (bs (qasq v 1 p.props)),.string (bs (enc2 p.client)),.string (bs (if p.hasWill then qasq v 16 p.wProps++(enc2 p.wTopic++enc2 p.wPayload) else [])),.string (bs (if p.hasUser then enc2 p.user else [])),.string (bs (if p.hasPass then enc2 p.pass else []))] 9)):=fun x W h=>h.put 52 rfl
 have K0:∀x W,GhS w p a (conK v F p.client p.wTopic p.wPayload p.user p.pass (be p.keep.toNat 2) (qasq v 1 p.props) (qasq v 16 p.wProps) p.hasWill p.hasUser p.hasPass) x W→W.cell? ⟨w.heap.size,0,none⟩=some (.int .i64 p.kind):=fun x W h=>h.1.cell 0
 have K8:∀x W,GhS w p a (conK v F p.client p.wTopic p.wPayload p.user p.pass (be p.keep.toNat 2) (qasq v 1 p.props) (qasq v 16 p.wProps) p.hasWill p.hasUser p.hasPass) x W→W.cell? ⟨w.heap.size,8,none⟩=some (.int .i64 p.keep):=fun x W h=>h.1.cell 8
 have K9:∀x W,GhS w p a (conK v F p.client p.wTopic p.wPayload p.user p.pass (be p.keep.toNat 2) (qasq v 1 p.props) (qasq v 16 p.wProps) p.hasWill p.hasUser p.hasPass) x W→W.cell? ⟨w.heap.size,9,none⟩=some (.string (bs p.client)):=fun x W h=>h.1.cell 9
 have K10:∀x W,GhS w p a (conK v F p.client p.wTopic p.wPayload p.user p.pass (be p.keep.toNat 2) (qasq v 1 p.props) (qasq v 16 p.wProps) p.hasWill p.hasUser p.hasPass) x W→W.cell? ⟨w.heap.size,10,none⟩=some (.bool p.hasUser):=fun x W h=>h.1.cell 10
 have K11:∀x W,GhS w p a (conK v F p.client p.wTopic p.wPayload p.user p.pass (be p.keep.toNat 2) (qasq v 1 p.props) (qasq v 16 p.wProps) p.hasWill p.hasUser p.hasPass) x W→W.cell? ⟨w.heap.size,11,none⟩=some (.string (bs p.user)):=fun x W h=>h.1.cell 11
 have K12:∀x W,GhS w p a (conK v F p.client p.wTopic p.wPayload p.user p.pass (be p.keep.toNat 2) (qasq v 1 p.props) (qasq v 16 p.wProps) p.hasWill p.hasUser p.hasPass) x W→W.cell? ⟨w.heap.size,12,none⟩=some (.bool p.hasPass):=fun x W h=>h.1.cell 12
 have K13:∀x W,GhS w p a (conK v F p.client p.wTopic p.wPayload p.user p.pass (be p.keep.toNat 2) (qasq v 1 p.props) (qasq v 16 p.wProps) p.hasWill p.hasUser p.hasPass) x W→W.cell? ⟨w.heap.size,13,none⟩=some (.string (bs p.pass)):=fun x W h=>h.1.cell 13
 have K14:∀x W,GhS w p a (conK v F p.client p.wTopic p.wPayload p.user p.pass (be p.keep.toNat 2) (qasq v 1 p.props) (qasq v 16 p.wProps) p.hasWill p.hasUser p.hasPass) x W→W.cell? ⟨w.heap.size,14,none⟩=some (.bool p.hasWill):=fun x W h=>h.1.cell 14
 have K15:∀x W,GhS w p a (conK v F p.client p.wTopic p.wPayload p.user p.pass (be p.keep.toNat 2) (qasq v 1 p.props) (qasq v 16 p.wProps) p.hasWill p.hasUser p.hasPass) x W→W.cell? ⟨w.heap.size,15,none⟩=some (.string (bs p.wTopic)):=fun x W h=>h.1.cell 15
 have K16:∀x W,GhS w p a (conK v F p.client p.wTopic p.wPayload p.user p.pass (be p.keep.toNat 2) (qasq v 1 p.props) (qasq v 16 p.wProps) p.hasWill p.hasUser p.hasPass) x W→W.cell? ⟨w.heap.size,16,none⟩=some (.string (bs p.wPayload)):=fun x W h=>h.1.cell 16
 have K19:∀x W,GhS w p a (conK v F p.client p.wTopic p.wPayload p.user p.pass (be p.keep.toNat 2) (qasq v 1 p.props) (qasq v 16 p.wProps) p.hasWill p.hasUser p.hasPass) x W→W.cell? ⟨w.heap.size,19,none⟩=some (.slice a.w p.wProps.length a.wc):=fun x W h=>h.1.cell 19
 have K24:∀x W,GhS w p a (conK v F p.client p.wTopic p.wPayload p.user p.pass (be p.keep.toNat 2) (qasq v 1 p.props) (qasq v 16 p.wProps) p.hasWill p.hasUser p.hasPass) x W→W.cell? ⟨w.heap.size,24,none⟩=some (.slice a.ps p.props.length a.pc):=fun x W h=>h.1.cell 24
 have S1X:∀x W,GhS w p a (conK v F p.client p.wTopic p.wPayload p.user p.pass (be p.keep.toNat 2) (qasq v 1 p.props) (qasq v 16 p.wProps) p.hasWill p.hasUser p.hasPass) x W→W.heap[w.heap.size]? = some (.cells (pkC p a) 28 (0,0)):=fun x W h=>h.1.box
 have BE:∀W,BxS w p a W→GhS w p a (conK v F p.client p.wTopic p.wPayload p.user p.pass (be p.keep.toNat 2) (qasq v 1 p.props) (qasq v 16 p.wProps) p.hasWill p.hasUser p.hasPass) (fun _=>none) W.drew:=fun W h=>GhS.begin h
 have LO:∀x W,GhS w p a (conK v F p.client p.wTopic p.wPayload p.user p.pass (be p.keep.toNat 2) (qasq v 1 p.props) (qasq v 16 p.wProps) p.hasWill p.hasUser p.hasPass) x W→Below w.heap.size w W:=fun x W h=>h.1.low
 generalize GhS w p a (conK v F p.client p.wTopic p.wPayload p.user p.pass (be p.keep.toNat 2) (qasq v 1 p.props) (qasq v 16 p.wProps) p.hasWill p.hasUser p.hasPass)=S at *
 have hS1X:=Lib.hid S1X
 have hBE:=Lib.hid BE
 have hLO:=Lib.hid LO
 have hK0:=Lib.hid K0
 have hK8:=Lib.hid K8
 have hK9:=Lib.hid K9
 have hK10:=Lib.hid K10
 have hK11:=Lib.hid K11
 have hK12:=Lib.hid K12
 have hK13:=Lib.hid K13
 have hK14:=Lib.hid K14
 have hK15:=Lib.hid K15
 have hK16:=Lib.hid K16
 have hK19:=Lib.hid K19
 have hK24:=Lib.hid K24
 have hM3:=Lib.hid M3
 have hM17:=Lib.hid M17
 have hM32:=Lib.hid M32
 have hM34:=Lib.hid M34
 have hM40:=Lib.hid M40
 have hM42:=Lib.hid M42
 have hM48:=Lib.hid M48
 have hM50:=Lib.hid M50
 have hM52:=Lib.hid M52
 have hH33:=Lib.hid H33
 have hH35:=Lib.hid H35
 have hH39:=Lib.hid H39
 have hH45:=Lib.hid H45
 have hH49:=Lib.hid H49
 have hH56:=Lib.hid H56
 have hH64:=Lib.hid H64
 have hH66:=Lib.hid H66
 have hH72:=Lib.hid H72
 have hH74:=Lib.hid H74
 have hH80:=Lib.hid H80
 have hH82:=Lib.hid H82
 have hH84:=Lib.hid H84
 have hkw:IntKind.u64.wrap p.keep=p.keep:=by rw[IntKind.wrap_u64];omega
 have HKW:=Lib.hid hkw
 have HK:=Lib.hid hk
 clear S1X BE LO K0 K8 K9 K10 K11 K12 K13 K14 K15 K16 K19 K24 M3 M17 M32 M34 M40 M42 M48 M50 M52 H33 H35 H39 H45 H49 H56 H64 H66 H72 H74 H80 H82 H84 hkw hraw
 generalize rawC v p=R at *
 generalize (if p.hasWill then qasq v 16 p.wProps++(enc2 p.wTopic++enc2 p.wPayload) else [])=z1 at *
 generalize (if p.hasUser then enc2 p.user else [])=z2 at *
 generalize (if p.hasPass then enc2 p.pass else [])=z3 at *
 unfold pkV
 clear hp sp ok ca hv f1 f2 f3 l1 l2 l3 l4 l5 l6 l7 hF
 go_enter Tryz.func10,Tryz.ntmps10
 go_wp2_with (refine wpList_load_row rfl _ _ rfl w.heap.size rfl 28 _ (0,0) _ S0.out.box Tryz.underlying28 rfl (by rw[C1.out];exact q5nr) ?_)
 refine(VA.out _ S0.out).mono ?_
 rintro e W ⟨rfl,hb⟩
 have S1:=Lib.hid (S0.out.call hb)
 clear hb
 have k0:W.cell? ⟨w.heap.size,0,none⟩=some (.int .i64 p.kind):=S1.out.cell 0
 rw[HK.out] at k0
 go_upto_region 6 with fail
 refine qnpt (S:=S) (B:=w.heap.size) (hBE.out _ S1.out) C1.out hS1X.out HKW.out hK0.out hK8.out hK9.out hK10.out hK11.out hK12.out hK13.out hK14.out hK15.out hK16.out hK19.out hK24.out hM3.out hM17.out hM32.out hM34.out hM40.out hM42.out hM48.out hM50.out hM52.out hH33.out hH35.out hH39.out hH45.out hH49.out hH56.out hH64.out hH66.out hH72.out hH74.out hH80.out hH82.out hH84.out ?_
 intro x r3 r17 r32 r34 r40 r42 r48 r50 r52 W2 hS
 have L2:=Lib.hid (hLO.out x W2 hS)
 clear hS
 go_wp2_with fail
 go_ret2
 exact⟨rfl,L2.out⟩
theorem qz43(v:Int)(p:Pk)(a:Ad)(w:World)(hp:PkAt w p a)(sp:q21o p)(ok:PkOk p)(ca:PkCap p a) :
 Calls Tryz.prog 10 #[.int .i64 v,pkV p a] w fun e w'=>e = .returned (.tuple #[.string (bs (qso1 v p).1),.int .i64 ((qso1 v p).2:Nat)])∧Below w.heap.size w w':=by
 unfold qso1
 by_cases hv:validC v p=0
 ·rw[if_neg (by simpa using hv)]
  rcases(ok_c (qgoi hv).1).2.1 with hk | hk
  ·exact qfoi v p a w hp sp ok ca hv hk
  ·exact qqai v p a w hp sp ok ca hv hk
 ·rw[if_pos hv]
  have S0:=Lib.hid (BxS.made w p a)
  have VA:=fun W (h:BxS w p a W)=>qspo v p a W (hp.below h.low) sp ok ca
  have C1:=Lib.hid (qwmp p a)
  generalize validC v p=R at *
  have hr1:((R:Int)==0)=false:=by simp;omega
  have hr2:((R:Int) != 0)=true:=by simp;omega
  have VA:=Lib.hid VA
  clear hv hp sp ok ca
  unfold pkV at *
  go_enter Tryz.func10,Tryz.ntmps10
  go_wp2_with (refine wpList_load_row rfl _ _ rfl w.heap.size rfl 28 _ (0,0) _ S0.out.box Tryz.underlying28 rfl (by rw[C1.out];exact q5nr) ?_)
  refine(VA.out _ S0.out).mono ?_
  rintro e W ⟨rfl,hb⟩
  have LO:=Lib.hid (qxh2 S0.out.low hb)
  clear hb
  go_wp2_with fail
  go_ret2
  exact⟨rfl,LO.out⟩
def ackP(b:Bool)(c:Int):Pk:={Pk.zero with kind:=2,session:=b,code:=c}
theorem q3un(w:World)(b:Bool)(c:Int):PkAt w (ackP b c) adZ:=⟨fun e=>absurd rfl e,fun e=>absurd rfl e,fun e=>absurd rfl e,fun e=>absurd rfl e⟩
theorem qe01(b:Bool)(c:Int):q21o (ackP b c):=⟨Nat.zero_le _,Nat.zero_le _,Nat.zero_le _,Nat.zero_le _⟩
theorem qw0z(b:Bool)(c:Int):PkOk (ackP b c):=by
 refine⟨⟨(show(-9223372036854775808:Int)≤2 by decide),(show(2:Int)≤9223372036854775807 by decide)⟩,⟨(show(-9223372036854775808:Int)≤0 by decide),(show(0:Int)≤9223372036854775807 by decide)⟩,fun t ht=>?_,fun x hx=>(nomatch hx),fun x hx=>(nomatch hx),fun x hx=>(nomatch hx)⟩
 have:t=[]:=by simpa [Pk.texts,ackP,Pk.zero] using ht
 rw[this];decide
theorem qlb1(b:Bool)(c:Int):PkCap (ackP b c) adZ:=⟨Nat.zero_le _,Nat.zero_le _,(show(-9223372036854775808:Int)≤0 by decide),(show(0:Int)≤9223372036854775807 by decide)⟩
theorem q9ca(v:Int)(b:Bool)(c:Int)(w:World) :
 Calls Tryz.prog 10 #[.int .i64 v,pkV (ackP b c) adZ] w fun e w'=>e = .returned (.tuple #[.string (bs (qso1 v (ackP b c)).1),.int .i64 ((qso1 v (ackP b c)).2:Nat)])∧Below w.heap.size w w':=
 qz43 v (ackP b c) adZ w (q3un w b c) (qe01 b c) (qw0z b c) (qlb1 b c)
theorem q7j2(w:World):Calls Tryz.prog 8 #[] w fun e w'=>e = .returned (.bool true)∧Below w.heap.size w w':=by
 have BO:=q9ca 4 false 5 w
 have e1:qso1 4 (ackP false 5)=([0,5],0):=by decide+kernel
 rw[e1] at BO
 unfold pkV at BO
 obtain⟨D,hD⟩:∃D,pkC (ackP false 5) adZ=D:=⟨_,rfl⟩
 rw[hD] at BO
 have HD:=Lib.hid hD
 have BO:=Lib.hid BO
 have HQ:=Lib.hid (show((bs [0,5]).toList==[0,5])=true by rw[q0c6];rfl)
 have hzv:=qrai
 clear hD e1
 go_enter Tryz.func8,Tryz.ntmps8
 go_wp2_with (refine wpList_buildTo rfl 28 _ rfl (some 4) rfl D (by rw[←HD.out];kernel_rfl) ?_)
 refine(BO.out).mono ?_
 rintro e w' ⟨rfl,hb⟩
 go_wp2_with fail
 go_ret
 exact⟨congrArg (fun b=>Ending.returned (Value.bool b)) HQ.out,hb⟩
theorem qyte:(Tryz.prog.info? 3).map (fun i=>(i.zero,i.size,i.bytes))=some (some (.int .i64 0),1,8):=by kernel_rfl
theorem qot5(A:Option Addr)(n c:Nat)(l:List Int)(w:World)(ha:CL w A (ics l))(hn:l.length=n)(hl:n≤2000) :
 Calls Tryz.prog 42 #[.slice A n c] w fun e w'=>∃v,e = .returned v∧w'.ownsRow w.heap.size 3 1 v n (ics l)∧Below w.heap.size w w':=by
 subst hn
 obtain⟨i0,hi,hz0,hz1,hz2⟩:=info_parts qyte
 cases A with
 | none=>
  have hnil:l=[]:=by
   cases l with
   | nil=>rfl
   | cons x l=>obtain⟨g,i,e,_⟩:=ha (by simp[ics]);cases e
  subst hnil
  clear ha
  go_enter Tryz.func42,Tryz.ntmps42
  go_wp2_with fail
  go_ret
  exact⟨_,rfl,World.ownsRow_made w #[] 0 (Nat.le_refl _) (by decide) rfl,(Below.refl _ _).alloc (Nat.le_refl _) _⟩
 | some a=>
  have SRC:=Lib.hid (show ∀j u,(ics l)[j]? = some u→(w.alloc (.cells #[] 3)).cell? (a.add j)=some u from fun j u hu=>by
   obtain⟨g,i,e,hg,hc⟩:=ha (by intro e;rw[e] at hu;cases hu)
   cases e
   rw[show(⟨g,i,none⟩:Addr).add j=⟨g,i+j,none⟩ from Addr.add_lit g i j,World.cell?_alloc_old _ _ _ (Nat.ne_of_lt hg)]
   exact hc j u hu)
  have HL:=Lib.hid hl
  clear ha hl
  go_enter Tryz.func42,Tryz.ntmps42
  go_wp2_with (at_builtin;refine wpList_append_own _ rfl _ _ 25 rfl w.heap.size 3 i0 (.int .i64 0) 1 8 Tryz.underlying25 hi hz0 hz1 hz2 rfl (by decide) _ 0 [] rfl (World.ownsRow_made w #[] 0 (Nat.le_refl _) (by decide) rfl) a l.length c (ics l) rfl (by rw[ql3l,Nat.mul_one]) SRC.out (qceb l) (by have:=HL.out;simp only[maxLen];omega) (by have:=HL.out;omega) (by simp) ?_;intro v' w1 hown hgrow _)
  go_ret
  rw[Nat.zero_add,List.nil_append] at hown
  refine⟨_,rfl,hown,⟨hgrow.os,hgrow.tape,hgrow.output,by have:=hgrow.size;simp at this;omega,fun k hk=>?_⟩⟩
  rw[hgrow.block k (by rw[World.size_alloc];omega) (fun e=>by have e2:k=w.heap.size:=Option.some.inj e;omega)]
  exact(Below.heap_alloc w _ k hk)
theorem q7zn:(Tryz.prog.info? 55).map (fun i=>(i.zero,i.size,i.bytes))=some (some (.agg #[.string .empty,.int .i64 0,.bool false,.bool false,.int .i64 0]),5,40):=by kernel_rfl
theorem qk6n(A:Option Addr)(n c:Nat)(l:List Fi)(w:World)(ha:CL w A (fcs l))(hn:l.length=n)(hl:n≤2000) :
 Calls Tryz.prog 43 #[.slice A n c] w fun e w'=>∃v,e = .returned v∧w'.ownsRow w.heap.size 55 5 v n (fcs l)∧Below w.heap.size w w':=by
 subst hn
 obtain⟨i0,hi,hz0,hz1,hz2⟩:=info_parts q7zn
 cases A with
 | none=>
  have hnil:l=[]:=by
   cases l with
   | nil=>rfl
   | cons x l=>obtain⟨g,i,e,_⟩:=ha (by simp[fcs,quk6]);cases e
  subst hnil
  clear ha
  go_enter Tryz.func43,Tryz.ntmps43
  go_wp2_with fail
  go_ret
  exact⟨_,rfl,World.ownsRow_made w #[] 0 (Nat.le_refl _) (by decide) rfl,(Below.refl _ _).alloc (Nat.le_refl _) _⟩
 | some a=>
  have SRC:=Lib.hid (show ∀j u,(fcs l)[j]? = some u→(w.alloc (.cells #[] 55)).cell? (a.add j)=some u from fun j u hu=>by
   obtain⟨g,i,e,hg,hc⟩:=ha (by intro e;rw[e] at hu;cases hu)
   cases e
   rw[show(⟨g,i,none⟩:Addr).add j=⟨g,i+j,none⟩ from Addr.add_lit g i j,World.cell?_alloc_old _ _ _ (Nat.ne_of_lt hg)]
   exact hc j u hu)
  have HL:=Lib.hid hl
  clear ha hl
  go_enter Tryz.func43,Tryz.ntmps43
  go_wp2_with (at_builtin;refine wpList_append_own _ rfl _ _ 26 rfl w.heap.size 55 i0 (.agg #[.string .empty,.int .i64 0,.bool false,.bool false,.int .i64 0]) 5 40 Tryz.underlying26 hi hz0 hz1 hz2 rfl (by decide) _ 0 [] rfl (World.ownsRow_made w #[] 0 (Nat.le_refl _) (by decide) rfl) a l.length c (fcs l) rfl (q4av l) SRC.out (qpp4 l) (by have:=HL.out;simp only[maxLen];omega) (by have:=HL.out;omega) (by simp) ?_;intro v' w1 hown hgrow _)
  go_ret
  rw[Nat.zero_add,List.nil_append] at hown
  refine⟨_,rfl,hown,⟨hgrow.os,hgrow.tape,hgrow.output,by have:=hgrow.size;simp at this;omega,fun k hk=>?_⟩⟩
  rw[hgrow.block k (by rw[World.size_alloc];omega) (fun e=>by have e2:k=w.heap.size:=Option.some.inj e;omega)]
  exact(Below.heap_alloc w _ k hk)
theorem qvch:(Tryz.prog.info? 46).map (fun i=>(i.zero,i.size,i.bytes))=some (some (.agg #[.int .i64 0,.int .u32 0,.string .empty,.string .empty]),4,48):=by kernel_rfl
theorem qi9z(A:Option Addr)(c:Nat)(w:World) :
 Calls Tryz.prog 44 #[.slice A 0 c] w fun e w'=>∃v,e = .returned v∧w'.ownsRow w.heap.size 46 4 v 0 (pcs [])∧Below w.heap.size w w':=by
 obtain⟨i0,hi,hz0,hz1,hz2⟩:=info_parts qvch
 cases A with
 | none=>
  go_enter Tryz.func44,Tryz.ntmps44
  go_wp2_with fail
  go_ret
  exact⟨_,rfl,World.ownsRow_made w #[] 0 (Nat.le_refl _) (by decide) rfl,(Below.refl _ _).alloc (Nat.le_refl _) _⟩
 | some a=>
  go_enter Tryz.func44,Tryz.ntmps44
  go_wp2_with (at_builtin;refine wpList_append_own _ rfl _ _ 22 rfl w.heap.size 46 i0 (.agg #[.int .i64 0,.int .u32 0,.string .empty,.string .empty]) 4 48 Tryz.underlying22 hi hz0 hz1 hz2 rfl (by decide) _ 0 [] rfl (World.ownsRow_made w #[] 0 (Nat.le_refl _) (by decide) rfl) a 0 c (pcs []) rfl (qv9d []) (fun j u hu=>by simp[pcs] at hu) (qtvz []) (by decide) (by decide) (by simp) ?_;intro v' w1 hown hgrow _)
  go_ret
  rw[Nat.zero_add,List.nil_append] at hown
  refine⟨_,rfl,hown,⟨hgrow.os,hgrow.tape,hgrow.output,by have:=hgrow.size;simp at this;omega,fun k hk=>?_⟩⟩
  rw[hgrow.block k (by rw[World.size_alloc];omega) (fun e=>by have e2:k=w.heap.size:=Option.some.inj e;omega)]
  exact(Below.heap_alloc w _ k hk)
theorem q5pb(g i c:Nat)(l:List Pr)(w:World)(ha:PL w (some ⟨g,i,none⟩) l)(hl:l.length≤2000) :
 Calls Tryz.prog 44 #[.slice (some ⟨g,i,none⟩) l.length c] w fun e w'=>∃v,e = .returned v∧w'.ownsRow w.heap.size 46 4 v l.length (pcs l)∧Below w.heap.size w w':=by
 obtain⟨i0,hi,hz0,hz1,hz2⟩:=info_parts qvch
 have src:∀j u,(pcs l)[j]? = some u→(w.alloc (.cells #[] 46)).cell? ((⟨g,i,none⟩:Addr).add j)=some u:=fun j u hu=>by
  have hj:j < l.length*4:=by
   have:=(List.getElem?_eq_some_iff.1 hu).1
   rwa [qv9d] at this
  obtain⟨p,hp⟩:∃p,l[j / 4]? = some p:=⟨_,List.getElem?_eq_getElem (by omega)⟩
  obtain⟨g',i',e',hg,a0,a1,a2,a3⟩:=ha.at hp
  cases e'
  have e1:j=j / 4*4+j%4:=by omega
  have hq:(pcs l)[j]? = (pc p)[j%4]? := by
   have:=qsrc l (j / 4) (j%4) p hp (by omega)
   rwa [←e1] at this
  rw[hu] at hq
  have hadd:(⟨g,i,none⟩:Addr).add j=⟨g,i+j,none⟩:=Addr.add_lit g i j
  rw[hadd,World.cell?_alloc_old _ _ _ (Nat.ne_of_lt hg)]
  have hr:j%4=0∨j%4=1∨j%4=2∨j%4=3:=by omega
  rcases hr with h | h | h | h
  ·rw[h] at hq;rw[show i+j=i+j / 4*4 by omega,a0];exact hq.symm
  ·rw[h] at hq;rw[show i+j=i+j / 4*4+1 by omega,a1];exact hq.symm
  ·rw[h] at hq;rw[show i+j=i+j / 4*4+2 by omega,a2];exact hq.symm
  ·rw[h] at hq;rw[show i+j=i+j / 4*4+3 by omega,a3];exact hq.symm
 have SRC:=Lib.hid src
 have HL:=Lib.hid hl
 clear src ha hl
 go_enter Tryz.func44,Tryz.ntmps44
 go_wp2_with (at_builtin;refine wpList_append_own _ rfl _ _ 22 rfl w.heap.size 46 i0 (.agg #[.int .i64 0,.int .u32 0,.string .empty,.string .empty]) 4 48 Tryz.underlying22 hi hz0 hz1 hz2 rfl (by decide) _ 0 [] rfl (World.ownsRow_made w #[] 0 (Nat.le_refl _) (by decide) rfl) ⟨g,i,none⟩ l.length c (pcs l) rfl (qv9d l) SRC.out (qtvz l) (by have:=HL.out;simp only[maxLen];omega) (by have:=HL.out;omega) (by simp) ?_;intro v' w1 hown hgrow _)
 go_ret
 rw[Nat.zero_add,List.nil_append] at hown
 refine⟨_,rfl,hown,⟨hgrow.os,hgrow.tape,hgrow.output,by have:=hgrow.size;simp at this;omega,fun k hk=>?_⟩⟩
 rw[hgrow.block k (by rw[World.size_alloc];omega) (fun e=>by have e2:k=w.heap.size:=Option.some.inj e;omega)]
 exact(Below.heap_alloc w _ k hk)
theorem q56q(A:Option Addr)(n c:Nat)(l:List Pr)(w:World)(ha:PL w A l)(hn:l.length=n)(hl:n≤2000) :
 Calls Tryz.prog 44 #[.slice A n c] w fun e w'=>∃v,e = .returned v∧w'.ownsRow w.heap.size 46 4 v n (pcs l)∧Below w.heap.size w w':=by
 subst hn
 by_cases h:l=[]
 ·subst h
  exact qi9z A c w
 ·obtain⟨g,i,rfl,_⟩:=ha.addr h
  exact q5pb g i c l w ha hl
structure OwS(w:World)(p:Pk)(a:Ad)(x:OwG)(W:World):Prop where
 low:Below w.heap.size w W
 box:W.heap[w.heap.size]? = some (.cells (pkC p (qnt6 a x)) 28 (0,0))
 res:W.heap[w.heap.size+1]? = some (.cells pkZ 28 (0,0))
 l0:2≤x.s 0→CL W (x.A 0) (ics p.codes)∧p.codes.length≤x.c 0∧∀g i,x.A 0=some ⟨g,i,none⟩→w.heap.size+1 < g
 l1:2≤x.s 1→CL W (x.A 1) (fcs p.filters)∧p.filters.length≤x.c 1∧∀g i,x.A 1=some ⟨g,i,none⟩→w.heap.size+1 < g
 l2:2≤x.s 2→PL W (x.A 2) p.props∧p.props.length≤x.c 2∧∀g i,x.A 2=some ⟨g,i,none⟩→w.heap.size+1 < g
 l3:2≤x.s 3→PL W (x.A 3) p.wProps∧p.wProps.length≤x.c 3∧∀g i,x.A 3=some ⟨g,i,none⟩→w.heap.size+1 < g
section
variable{w W W':World}{p:Pk}{a:Ad}{x:OwG}
theorem CL.other{A:Option Addr}{cs:List Value}(h:CL W A cs)(b j:Nat)(u:Value)(hne:∀g i,A=some ⟨g,i,none⟩→b < g):CL (W.setCell ⟨b,j,none⟩ u) A cs:=
 h.kept (q99v W b j u).size fun g i e _=>heap_setCell_other W ⟨b,j,none⟩ g u (by have:=hne g i e;show g≠b;omega)
theorem PL.other{A:Option Addr}{l:List Pr}(h:PL W A l)(b j:Nat)(u:Value)(hne:∀g i,A=some ⟨g,i,none⟩→b < g):PL (W.setCell ⟨b,j,none⟩ u) A l:=
 h.kept (q99v W b j u).size fun g i e _=>heap_setCell_other W ⟨b,j,none⟩ g u (by have:=hne g i e;show g≠b;omega)
theorem OwS.below(h:OwS w p a x W)(hb:Below W.heap.size W W'):OwS w p a x W':=
 ⟨qxh2 h.low hb,(hb.block _ (lt_of_block h.box)).trans h.box,(hb.block _ (lt_of_block h.res)).trans h.res,
  fun e=>⟨(h.l0 e).1.below hb,(h.l0 e).2⟩,fun e=>⟨(h.l1 e).1.below hb,(h.l1 e).2⟩,fun e=>⟨(h.l2 e).1.below hb,(h.l2 e).2⟩,fun e=>⟨(h.l3 e).1.below hb,(h.l3 e).2⟩⟩
theorem OwS.made(w:World)(p:Pk)(a:Ad):OwS w p a OwG.none ((w.alloc (.cells (pkC p a) 28)).alloc (.cells pkZ 28)):=
 ⟨qxh2 (qybm _) (qybm _),heap_alloc2_old _ _ _,heap_alloc2_new _ _ _,fun e=>absurd e (by decide),fun e=>absurd e (by decide),fun e=>absurd e (by decide),fun e=>absurd e (by decide)⟩
theorem OwS.load(h:OwS w p a x W){k:Nat}(hk:k < 4)(hs:x.s k=0):OwS w p a (x.to k 1) W:=by
 have hn:∀i,2≤(x.to k 1).s i→2≤x.s i:=fun i hi=>by
  unfold OwG.to at hi
  by_cases e:i=k
  ·subst e;simp at hi
  ·simpa [e] using hi
 have ha:qnt6 a (x.to k 1)=qnt6 a x:=by
  obtain rfl | rfl | rfl | rfl:k=0∨k=1∨k=2∨k=3:=by omega
  all_goals simp[qnt6,OwG.to,hs]
 exact⟨h.low,by rw[ha];exact h.box,h.res,fun e=>h.l0 (hn 0 e),fun e=>h.l1 (hn 1 e),fun e=>h.l2 (hn 2 e),fun e=>h.l3 (hn 3 e)⟩
theorem qdsl(a:Ad)(x:OwG)(k:Nat)(A:Option Addr)(c:Nat)(hs:x.s k=1):qnt6 a (x.got k A c)=qnt6 a x:=by
 unfold qnt6 OwG.got
 by_cases e0:0=k
 ·subst e0;simp[hs]
 by_cases e1:1=k
 ·subst e1;simp[hs]
 by_cases e2:2=k
 ·subst e2;simp[hs]
 by_cases e3:3=k
 ·subst e3;simp[hs]
 simp[e0,e1,e2,e3]
theorem OwS.store0(h:OwS w p a x W)(hs:x.s 0=2):OwS w p a (x.to 0 3) (W.setCell ⟨w.heap.size,22,none⟩ (.slice (x.A 0) p.codes.length (x.c 0))):=
 ⟨qo4g h.low (Nat.le_refl _),qv6p h.box (by simp[pkC,qnt6,OwG.to]),(heap_setCell_other W ⟨w.heap.size,22,none⟩ _ _ (by show w.heap.size+1≠w.heap.size;omega)).trans h.res,
  fun _=>⟨(h.l0 (by omega)).1.other _ _ _ (fun g i e=>by have:=(h.l0 (by omega)).2.2 g i e;omega),(h.l0 (by omega)).2⟩,
  fun e=>⟨(h.l1 e).1.other _ _ _ (fun g i f=>by have:=(h.l1 e).2.2 g i f;omega),(h.l1 e).2⟩,fun e=>⟨(h.l2 e).1.other _ _ _ (fun g i f=>by have:=(h.l2 e).2.2 g i f;omega),(h.l2 e).2⟩,fun e=>⟨(h.l3 e).1.other _ _ _ (fun g i f=>by have:=(h.l3 e).2.2 g i f;omega),(h.l3 e).2⟩⟩
theorem OwS.store1(h:OwS w p a x W)(hs:x.s 1=2):OwS w p a (x.to 1 3) (W.setCell ⟨w.heap.size,23,none⟩ (.slice (x.A 1) p.filters.length (x.c 1))):=
 ⟨qo4g h.low (Nat.le_refl _),qv6p h.box (by simp[pkC,qnt6,OwG.to]),(heap_setCell_other W ⟨w.heap.size,23,none⟩ _ _ (by show w.heap.size+1≠w.heap.size;omega)).trans h.res,
  fun e=>⟨(h.l0 e).1.other _ _ _ (fun g i f=>by have:=(h.l0 e).2.2 g i f;omega),(h.l0 e).2⟩,
  fun _=>⟨(h.l1 (by omega)).1.other _ _ _ (fun g i e=>by have:=(h.l1 (by omega)).2.2 g i e;omega),(h.l1 (by omega)).2⟩,
  fun e=>⟨(h.l2 e).1.other _ _ _ (fun g i f=>by have:=(h.l2 e).2.2 g i f;omega),(h.l2 e).2⟩,fun e=>⟨(h.l3 e).1.other _ _ _ (fun g i f=>by have:=(h.l3 e).2.2 g i f;omega),(h.l3 e).2⟩⟩
theorem OwS.store2(h:OwS w p a x W)(hs:x.s 2=2):OwS w p a (x.to 2 3) (W.setCell ⟨w.heap.size,24,none⟩ (.slice (x.A 2) p.props.length (x.c 2))):=
 ⟨qo4g h.low (Nat.le_refl _),qv6p h.box (by simp[pkC,qnt6,OwG.to]),(heap_setCell_other W ⟨w.heap.size,24,none⟩ _ _ (by show w.heap.size+1≠w.heap.size;omega)).trans h.res,
  fun e=>⟨(h.l0 e).1.other _ _ _ (fun g i f=>by have:=(h.l0 e).2.2 g i f;omega),(h.l0 e).2⟩,fun e=>⟨(h.l1 e).1.other _ _ _ (fun g i f=>by have:=(h.l1 e).2.2 g i f;omega),(h.l1 e).2⟩,
  fun _=>⟨(h.l2 (by omega)).1.other _ _ _ (fun g i e=>by have:=(h.l2 (by omega)).2.2 g i e;omega),(h.l2 (by omega)).2⟩,
  fun e=>⟨(h.l3 e).1.other _ _ _ (fun g i f=>by have:=(h.l3 e).2.2 g i f;omega),(h.l3 e).2⟩⟩
theorem OwS.store3(h:OwS w p a x W)(hs:x.s 3=2):OwS w p a (x.to 3 3) (W.setCell ⟨w.heap.size,19,none⟩ (.slice (x.A 3) p.wProps.length (x.c 3))):=
 ⟨qo4g h.low (Nat.le_refl _),qv6p h.box (by simp[pkC,qnt6,OwG.to]),(heap_setCell_other W ⟨w.heap.size,19,none⟩ _ _ (by show w.heap.size+1≠w.heap.size;omega)).trans h.res,
  fun e=>⟨(h.l0 e).1.other _ _ _ (fun g i f=>by have:=(h.l0 e).2.2 g i f;omega),(h.l0 e).2⟩,fun e=>⟨(h.l1 e).1.other _ _ _ (fun g i f=>by have:=(h.l1 e).2.2 g i f;omega),(h.l1 e).2⟩,
  fun e=>⟨(h.l2 e).1.other _ _ _ (fun g i f=>by have:=(h.l2 e).2.2 g i f;omega),(h.l2 e).2⟩,
  fun _=>⟨(h.l3 (by omega)).1.other _ _ _ (fun g i e=>by have:=(h.l3 (by omega)).2.2 g i e;omega),(h.l3 (by omega)).2⟩⟩
end
def q981(w:World)(p:Pk)(e:Ending)(W:World):Prop:=
 ∃a:Ad,e = .returned (.agg (pkC p a))∧PkAt W p a∧(p.props.length≤a.pc∧p.wProps.length≤a.wc)∧Below w.heap.size w W
theorem qzxl(p:Pk)(a:Ad)(w:World)(hp:PkAt w p a)(h1:p.codes.length≤2000)(h2:p.filters.length≤2000)(h3:p.props.length≤2000)(h4:p.wProps.length≤2000) :
 Calls Tryz.prog 11 #[.agg (pkC p a)] w (q981 w p):=by
 have S0:=Lib.hid (OwS.made w p a)
 have O0:=fun(x:OwG) W (h:OwS w p a x W) (hs:x.s 0=1)=>(qot5 a.cs p.codes.length a.cc p.codes W (hp.below h.low).cs rfl h1).mono fun e W' hh=>(show ∃A c,e = .returned (.slice A p.codes.length c)∧OwS w p a (x.got 0 A c) W' by
  obtain⟨v,he,ho,hb⟩:=hh
  obtain⟨A,c,rfl,hc,hC,hg⟩:=CL.owned ho (by rw[ql3l,Nat.mul_one])
  have k:=h.below hb
  have hlt:=lt_of_block h.res
  exact⟨A,c,he,k.low,by rw[qdsl _ _ _ _ _ hs];exact k.box,k.res,fun _=>⟨hC,hc,fun g i e=>by have:=hg g i e;omega⟩,fun e=>k.l1 e,fun e=>k.l2 e,fun e=>k.l3 e⟩)
 have O1:=fun(x:OwG) W (h:OwS w p a x W) (hs:x.s 1=1)=>(qk6n a.fs p.filters.length a.fc p.filters W (hp.below h.low).fs rfl h2).mono fun e W' hh=>(show ∃A c,e = .returned (.slice A p.filters.length c)∧OwS w p a (x.got 1 A c) W' by
  obtain⟨v,he,ho,hb⟩:=hh
  obtain⟨A,c,rfl,hc,hC,hg⟩:=CL.owned ho (by rw[q4av])
  have k:=h.below hb
  have hlt:=lt_of_block h.res
  exact⟨A,c,he,k.low,by rw[qdsl _ _ _ _ _ hs];exact k.box,k.res,fun e=>k.l0 e,fun _=>⟨hC,hc,fun g i e=>by have:=hg g i e;omega⟩,fun e=>k.l2 e,fun e=>k.l3 e⟩)
 have O2:=fun(x:OwG) W (h:OwS w p a x W) (hs:x.s 2=1)=>(q56q a.ps p.props.length a.pc p.props W (hp.below h.low).ps rfl h3).mono fun e W' hh=>(show ∃A c,e = .returned (.slice A p.props.length c)∧OwS w p a (x.got 2 A c) W' by
  obtain⟨v,he,ho,hb⟩:=hh
  obtain⟨A,c,rfl,hc,hC,hg⟩:=PL.owned ho rfl
  have k:=h.below hb
  have hlt:=lt_of_block h.res
  exact⟨A,c,he,k.low,by rw[qdsl _ _ _ _ _ hs];exact k.box,k.res,fun e=>k.l0 e,fun e=>k.l1 e,fun _=>⟨hC,hc,fun g i e=>by have:=hg g i e;omega⟩,fun e=>k.l3 e⟩)
 have O3:=fun(x:OwG) W (h:OwS w p a x W) (hs:x.s 3=1)=>(q56q a.w p.wProps.length a.wc p.wProps W (hp.below h.low).w rfl h4).mono fun e W' hh=>(show ∃A c,e = .returned (.slice A p.wProps.length c)∧OwS w p a (x.got 3 A c) W' by
  obtain⟨v,he,ho,hb⟩:=hh
  obtain⟨A,c,rfl,hc,hC,hg⟩:=PL.owned ho rfl
  have k:=h.below hb
  have hlt:=lt_of_block h.res
  exact⟨A,c,he,k.low,by rw[qdsl _ _ _ _ _ hs];exact k.box,k.res,fun e=>k.l0 e,fun e=>k.l1 e,fun e=>k.l2 e,fun _=>⟨hC,hc,fun g i e=>by have:=hg g i e;omega⟩⟩)
 have HZ:=Lib.hid qbwp
 have hzv:=qrai
 have hne:¬pkZ=#[]:=by intro h;have:=qbwp;rw[h] at this;cases this
 have O0:=Lib.hid O0
 have O1:=Lib.hid O1
 have O2:=Lib.hid O2
 have O3:=Lib.hid O3
 clear hp h1 h2 h3 h4
 go_enter Tryz.func11,Tryz.ntmps11
 go_upto_region 1 with fail
 refine qc1g (S:=fun x W=>OwS w p a x W) (b:=w.heap.size) (p:=p) (a:=a) (S0.out.below (by exact(Below.refl _ _).drew)) (fun x w h=>h.box) (fun k x w hk h hs=>h.load hk hs) O0.out (fun x w h hs=>h.store0 hs) O1.out (fun x w h hs=>h.store1 hs) O2.out (fun x w h hs=>h.store2 hs) O3.out (fun x w h hs=>h.store3 hs) ?_
 intro x W hS hs
 have hA:PkAt W p (qnt6 a x):=by
  unfold qnt6
  rw[if_pos hs.1,if_pos hs.2.1,if_pos hs.2.2.1,if_pos hs.2.2.2]
  simp only[if_pos hs.1,if_pos hs.2.1,if_pos hs.2.2.1,if_pos hs.2.2.2]
  exact⟨(hS.l3 (by omega)).1,(hS.l0 (by omega)).1,(hS.l1 (by omega)).1,(hS.l2 (by omega)).1⟩
 have hC:p.props.length≤(qnt6 a x).pc∧p.wProps.length≤(qnt6 a x).wc:=by
  unfold qnt6
  simp only[if_pos hs.2.2.1,if_pos hs.2.2.2]
  exact⟨(hS.l2 (by omega)).2.1,(hS.l3 (by omega)).2.1⟩
 have hG:(∀g i,(qnt6 a x).w=some ⟨g,i,none⟩→w.heap.size+1 < g)∧(∀g i,(qnt6 a x).cs=some ⟨g,i,none⟩→w.heap.size+1 < g)∧(∀g i,(qnt6 a x).fs=some ⟨g,i,none⟩→w.heap.size+1 < g)∧(∀g i,(qnt6 a x).ps=some ⟨g,i,none⟩→w.heap.size+1 < g):=by
  unfold qnt6
  simp only[if_pos hs.1,if_pos hs.2.1,if_pos hs.2.2.1,if_pos hs.2.2.2]
  exact⟨(hS.l3 (by omega)).2.2,(hS.l0 (by omega)).2.2,(hS.l1 (by omega)).2.2,(hS.l2 (by omega)).2.2⟩
 have GB:=hS.box
 generalize qnt6 a x=b at *
 have hE1:=qwmp p b
 have hE2:=qmz0 p b
 have RT:q981 w p (.returned (.agg (pkC p b))) (W.setRow (w.heap.size+1) (pkC p b)):=by
  have hr:=fun(A:Option Addr) (hg:∀g i,A=some ⟨g,i,none⟩→w.heap.size+1 < g)=>(fun g i e (_:g < W.heap.size)=>setRow_other W (w.heap.size+1) g (pkC p b) (by have:=hg g i e;omega):∀g i,A=some ⟨g,i,none⟩→g < W.heap.size→(W.setRow (w.heap.size+1) (pkC p b)).heap[g]? = W.heap[g]?)
  have hz:W.heap.size≤(W.setRow (w.heap.size+1) (pkC p b)).heap.size:=by simp[World.setRow]
  exact⟨b,rfl,⟨hA.w.kept hz (hr _ hG.1),hA.cs.kept hz (hr _ hG.2.1),hA.fs.kept hz (hr _ hG.2.2.1),hA.ps.kept hz (hr _ hG.2.2.2)⟩,hC,q8xz hS.low (by omega) _⟩
 obtain⟨E,hE⟩:∃E,pkC p b=E:=⟨_,rfl⟩
 rw[hE] at hE1 hE2 GB RT
 have GR:=Lib.hid hS.res
 have HE1:=Lib.hid hE1
 have HE2:=Lib.hid hE2
 have GB:=Lib.hid GB
 have RT:=Lib.hid RT
 clear hE1 hE2 hE hS hs hA hC hG O0 O1 O2 O3 S0
 go_wp2_with (first
  | (refine wpList_load_row rfl _ _ rfl w.heap.size rfl 28 E (0,0) _ GB.out Tryz.underlying28 rfl (by rw[HE1.out];exact q5nr) ?_)
  | (refine wpList_store_row rfl _ _ _ rfl (w.heap.size+1) E rfl rfl 28 _ GR.out (by rw[HE1.out];exact q5nr) (by rw[HZ.out,HE1.out]) HE2.out ?_))
 exact q7wi (cs:=E) rfl rfl rfl Tryz.underlying28 rfl (by rw[HE1.out];exact q5nr) (setRow_heap _ _ _ _ _ _ GR.out) RT.out
theorem q58f{W W':World}{base n size:Nat}{t:TypeId}{v:Value}{xs:List Value}(h:W.ownsRow base t size v n xs)(hg:W.grownBy W' v.ownBlock)(hb:base≤W.heap.size):Below base W W':=by
 rcases h.2 with ⟨rfl,_⟩ | ⟨g,cap,cur,rfl,hbg,_⟩
 ·exact⟨hg.os,hg.tape,hg.output,hg.size,fun k hk=>hg.block k (Nat.lt_of_lt_of_le hk hb) (fun e=>by cases e)⟩
 ·exact qwrj hg hb hbg
theorem PL.cells{W:World}{g i:Nat}{l:List Pr}(h:PL W (some ⟨g,i,none⟩) l):∀j u,(pcs l)[j]? = some u→W.cell? ((⟨g,i,none⟩:Addr).add j)=some u:=fun j u hu=>by
 have hj:j < l.length*4:=by
  have:=(List.getElem?_eq_some_iff.1 hu).1
  rwa [qv9d] at this
 obtain⟨p,hp⟩:∃p,l[j / 4]? = some p:=⟨_,List.getElem?_eq_getElem (by omega)⟩
 obtain⟨g',i',e',hg,a0,a1,a2,a3⟩:=h.at hp
 cases e'
 have e1:j=j / 4*4+j%4:=by omega
 have hq:(pcs l)[j]? = (pc p)[j%4]? := by
  have:=qsrc l (j / 4) (j%4) p hp (by omega)
  rwa [←e1] at this
 rw[hu] at hq
 rw[Addr.add_lit g i j]
 have hr:j%4=0∨j%4=1∨j%4=2∨j%4=3:=by omega
 rcases hr with h | h | h | h
 ·rw[h] at hq;rw[show i+j=i+j / 4*4 by omega,a0];exact hq.symm
 ·rw[h] at hq;rw[show i+j=i+j / 4*4+1 by omega,a1];exact hq.symm
 ·rw[h] at hq;rw[show i+j=i+j / 4*4+2 by omega,a2];exact hq.symm
 ·rw[h] at hq;rw[show i+j=i+j / 4*4+3 by omega,a3];exact hq.symm
theorem qyqq{W:World}{v:Value}{base nA g i m c:Nat}{L M:List Pr}(ty:TypeId)(hown:W.ownsRow base 46 4 v nA (pcs L))(hM:PL W (some ⟨g,i,none⟩) M)(hm:M.length=m)(hn:nA+m≤3000)(hb:base≤W.heap.size) :
 ∃v' w',(Builtin.append_ #[22,22] ty #[v,.slice (some ⟨g,i,none⟩) m c]).run Tryz.prog W = .ok v' w'∧w'.ownsRow base 46 4 v' (nA+m) (pcs (L++M))∧Below base W w':=by
 obtain⟨i0,hi,hz0,hz1,hz2⟩:=info_parts qvch
 obtain⟨v',w',hr,h2,h3,_,_⟩:=run_append_own_at (P:=Tryz.prog) W base 22 ty 46 i0 (.agg #[.int .i64 0,.int .u32 0,.string .empty,.string .empty]) 4 48 Tryz.underlying22 hi hz0 hz1 hz2 rfl (by decide) v nA (pcs L) hown ⟨g,i,none⟩ m c (pcs M) (by rw[qv9d,hm]) hM.cells (qtvz M) (by simp only[maxLen];omega) (by omega) hb
 rw[←qdoo] at h2
 exact⟨v',w',hr,h2,q58f hown h3 hb⟩
theorem q2qx{P:Program}{W:World}{o:Oper}{a:Act}{K:Act→World→Prop}{Q:Exit→Act→World→Prop}(s x:Operand)(t:TypeId)
 (ho:o.op = .call {callee := .builtin .append,args:=#[s,x],argTypes:=#[t,t]}) {v sl v':Value} {w':World} (hs:a.eval s=v) (hx:a.eval x=sl)
 (hr:(Builtin.append_ #[t,t] o.type #[v,sl]).run P W = .ok v' w') (h:K (a.put o.dst v') w'):o.wp P a W K Q:=by
 unfold Oper.wp execOp
 simp only[ho,resolve,invoke,builtin,Sem.run_bind,Sem.run_pure,Result.andThen_ok,List.map_toArray,List.map_cons,List.map_nil,hs,hx,hr]
 exact h
theorem qvgk{W:World}{o:Oper}{a:Act}{K:Act→World→Prop}{Q:Exit→Act→World→Prop}(s x:Operand)
 (ho:o.op = .call {callee := .builtin .append,args:=#[s,x],argTypes:=#[22,22]})
 {v:Value} {base nA g i m c:Nat} {L M:List Pr} (hs:a.eval s=v) (hx:a.eval x = .slice (some ⟨g,i,none⟩) m c) (hown:W.ownsRow base 46 4 v nA (pcs L)) (hM:PL W (some ⟨g,i,none⟩) M) (hm:M.length=m) (hn:nA+m≤3000) (hb:base≤W.heap.size)
 (h:∀v' w',w'.ownsRow base 46 4 v' (nA+m) (pcs (L++M))→Below base W w'→K (a.put o.dst v') w'):o.wp Tryz.prog a W K Q:=by
 obtain⟨v',w',hr,h2,h3⟩:=qyqq o.type hown hM hm hn hb
 exact q2qx s x _ ho hs hx hr (h v' w' h2 h3)
end Go.Proofs.YtaahhbjnflimnaaGreat
