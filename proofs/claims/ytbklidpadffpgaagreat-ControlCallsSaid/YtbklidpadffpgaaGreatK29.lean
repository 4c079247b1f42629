/- The contract of control.fits. Condition: the packet's lists lie where it says; they are short. -/
import Derived.Great.BuildSlice
import Derived.Deep.DeepCutAuto
import Derived.Test.YtbklidpadffpgaaGreatK18
import Derived.Test.YtbklidpadffpgaaGreatK08
import Derived.Test.YtbklidpadffpgaaGreatK11
import Derived.Test.YtbklidpadffpgaaGreatK21
import Derived.Test.YtbklidpadffpgaaGreatK25
set_option maxHeartbeats 4000000
set_option maxRecDepth 100000
namespace Go.Proofs.YtbklidpadffpgaaGreat
open Go.RowKit
def qtij(t:Bool)(p:Pk):Pk:={Pk.zero with kind:=p.kind,code:=if t then p.code else 0,props:=if t then p.props else []}
def qlcd(t:Bool)(a:Ad):Ad:={adZ with ps:=if t then a.ps else none,pc:=if t then a.pc else 0}
theorem qt8s(v:Int)(p:Pk):usedK v p=qtij (!q6gd v p.kind) p:=by
 unfold usedK qtij
 cases q6gd v p.kind<;>rfl
theorem qciq{w:World}{p:Pk}{a:Ad}(t:Bool)(h:PkAt w p a):PkAt w (qtij t p) (qlcd t a):=by
 refine⟨fun e=>absurd rfl e,fun e=>absurd rfl e,fun e=>absurd rfl e,?_⟩
 unfold qtij qlcd
 cases t with
 | true=>exact h.ps
 | false=>exact fun e=>absurd rfl e
theorem q191{p:Pk}(t:Bool)(h:q21o p):q21o (qtij t p):=by
 refine⟨Nat.zero_le _,Nat.zero_le _,?_,Nat.zero_le _⟩
 cases t with
 | true=>exact h.2.2.1
 | false=>exact Nat.zero_le _
section
variable{w W W':World}{p x:Pk}{a b:Ad}
theorem SmS.cell(h:SmS w p a x b W)(j:Nat):W.cell? ⟨w.heap.size,j,none⟩=(pkC p a)[j]? := cell_of_row _ _ j _ _ _ h.p
theorem SmS.ncell(h:SmS w p a x b W)(j:Nat):W.cell? ⟨w.heap.size+1,j,none⟩=(pkC x b)[j]? := cell_of_row _ _ j _ _ _ h.q
theorem SmS.fr(h:SmS w p a x b W)(j:Nat):W.frozen? ⟨w.heap.size+1,j,none⟩=false:=frozen_of_row _ _ _ _ _ h.q
theorem SmS.put(h:SmS w p a x b W)(j:Nat)(u:Value){x':Pk}{b':Ad}(he:(pkC x b).setIfInBounds j u=pkC x' b'):SmS w p a x' b' (W.setCell ⟨w.heap.size+1,j,none⟩ u):=
 ⟨h.low.setCell (by show _≤w.heap.size+1;omega) u,(heap_setCell_other W ⟨w.heap.size+1,j,none⟩ _ u (by show w.heap.size≠w.heap.size+1;omega)).trans h.p,
  by have:=qlvy h.q j u;rw[he] at this;exact this⟩
theorem SmS.drew(h:SmS w p a x b W):SmS w p a x b W.drew:=⟨h.low.drew,h.p,h.q⟩
end
def us0T(p:Pk):Pk:={Pk.zero with kind:=p.kind}
theorem qqfg(t:Bool)(p:Pk)(a:Ad)(w:World)(hp:PkAt w p a)(sp:q21o p) :
 Calls Tryz.prog 25 #[.bool t,.agg (pkC p a)] w fun e w'=>e = .returned (.bool (decide (p=qtij t p)&&(!t || mayR p.kind p.code)))∧Below w.heap.size w w':=by
 have Z0:(w.alloc (.cells (pkC p a) 35)).heap.size=w.heap.size+1:=by simp
 have GN:((w.alloc (.cells (pkC p a) 35)).alloc (.cells pkZ 35)).heap[w.heap.size+1]? = some (.cells pkZ 35 (0,0)):=by
  have:=heap_alloc_new (w.alloc (.cells (pkC p a) 35)) (.cells pkZ 35)
  rw[Z0] at this;exact this
 have S0:SmS w p a (us0T p) adZ (((w.alloc (.cells (pkC p a) 35)).alloc (.cells pkZ 35)).setRow (w.heap.size+1) (pkC (us0T p) adZ)):=
  ⟨q8xz (qxh2 (qybm _) (qybm _)) (by omega) _,(setRow_other _ _ _ _ (by omega)).trans (heap_alloc2_old _ _ _),setRow_heap _ _ _ _ _ _ GN⟩
 have SM:=Lib.hid (fun V (h:SmS w p a (qtij t p) (qlcd t a) V)=>(qyk8 p (qtij t p) a (qlcd t a) V (hp.below h.low) (qciq t (hp.below h.low)) sp (q191 t sp)).mono fun e W' hh=>(⟨hh.1,h.call hh.2⟩:_∧SmS w p a (qtij t p) (qlcd t a) W'))
 have MA:=Lib.hid (fun V (h:SmS w p a (qtij t p) (qlcd t a) V)=>(qeiz p.kind p.code V).mono fun e W' hh=>(⟨hh.1,h.call hh.2⟩:_∧SmS w p a (qtij t p) (qlcd t a) W'))
 have hzv:=qrai
 have hne:¬pkZ=#[]:=by intro h;have:=qbwp;rw[h] at this;cases this
 have HZ:=Lib.hid qbwp
 have GN:=Lib.hid GN
 have hD1:=qwmp (us0T p) adZ
 have hD2:=qmz0 (us0T p) adZ
 obtain⟨D,hD⟩:∃D,pkC (us0T p) adZ=D:=⟨_,rfl⟩
 rw[hD] at hD1 hD2 S0
 have HD:=Lib.hid hD
 have HD1:=Lib.hid hD1
 have HD2:=Lib.hid hD2
 have HS0:=Lib.hid S0
 have C1:=Lib.hid (qwmp p a)
 have C2:=Lib.hid (qwmp (qtij t p) (qlcd t a))
 have k0:(w.alloc (.cells (pkC p a) 35)).cell? ⟨w.heap.size,0,none⟩=some (.int .i64 p.kind):=cell_of_row _ _ 0 _ _ _ (heap_alloc_new _ _)
 clear S0 hD hD1 hD2 Z0 hp sp
 generalize decide (p=qtij t p)=s at *
 generalize mayR p.kind p.code=m at *
 obtain⟨r,hr⟩:∃r,(s&&(!t || m))=r:=⟨_,rfl⟩
 rw[hr]
 have HR:=Lib.hid hr
 clear hr
 go_enter Tryz.func25,Tryz.ntmps25
 go_upto_if 9 with (first
  | (refine wpList_buildTo rfl 35 _ rfl (some _) rfl D (by rw[←HD.out];kernel_rfl) ?_)
  | (refine wpList_store_row rfl _ _ _ rfl (w.heap.size+1) D rfl rfl 35 _ GN.out (by rw[HD1.out];exact q5nr) (by rw[HZ.out,HD1.out]) HD2.out ?_))
 clear k0 GN HZ hne hzv
 go_cut [] (fun wx=>SmS w p a (qtij t p) (qlcd t a) wx)
 case first=>
  generalize ((w.alloc (.cells (pkC p a) 35)).alloc (.cells pkZ 35)).setRow (w.heap.size+1) D=W at *
  cases t with
  | true=>
   have S1:=Lib.hid ((HS0.out.put 21 (.int .i64 p.code) (x':={us0T p with code:=p.code}) (b':=adZ) rfl).put 24 (.slice a.ps p.props.length a.pc) (x':=qtij true p) (b':=qlcd true a) rfl)
   have k21:W.cell? ⟨w.heap.size,21,none⟩=some (.int .i64 p.code):=HS0.out.cell 21
   have k24:W.cell? ⟨w.heap.size,24,none⟩=some (.slice a.ps p.props.length a.pc):=HS0.out.cell 24
   have n21:W.cell? ⟨w.heap.size+1,21,none⟩=some (.int .i64 0):=HS0.out.ncell 21
   have n24:W.cell? ⟨w.heap.size+1,24,none⟩=some (.slice none 0 0):=HS0.out.ncell 24
   have f21:=HS0.out.fr 21
   have f24:=HS0.out.fr 24
   clear HS0
   go_upto_region 3 with fail
   go_region
   go_wp2_with fail
   go_meet
   exact S1.out.drew
  | false=>
   go_wp2_with fail
   go_meet
   exact HS0.out
 case rest=>
  have HS:=Lib.hid hcut
  clear hcut HS0
  go_upto_region 4 with fail
  clear HD HD1 HD2
  obtain⟨C,hC⟩:∃C,pkC p a=C:=⟨_,rfl⟩
  obtain⟨E,hE⟩:∃E,pkC (qtij t p) (qlcd t a)=E:=⟨_,rfl⟩
  have BC:=Lib.hid (fun V (h:SmS w p a (qtij t p) (qlcd t a) V)=>(by rw[←hC];exact h.p:V.heap[w.heap.size]? = some (.cells C 35 (0,0))))
  have BE:=Lib.hid (fun V (h:SmS w p a (qtij t p) (qlcd t a) V)=>(by rw[←hE];exact h.q:V.heap[w.heap.size+1]? = some (.cells E 35 (0,0))))
  have LOW:=Lib.hid (fun V (h:SmS w p a (qtij t p) (qlcd t a) V)=>h.low)
  have c0:∀V,SmS w p a (qtij t p) (qlcd t a) V→V.cell? ⟨w.heap.size,0,none⟩=some (.int .i64 p.kind):=fun V h=>h.cell 0
  have c21:∀V,SmS w p a (qtij t p) (qlcd t a) V→V.cell? ⟨w.heap.size,21,none⟩=some (.int .i64 p.code):=fun V h=>h.cell 21
  have K0:=Lib.hid c0
  have K21:=Lib.hid c21
  clear c0 c21
  unfold pkV at SM
  rw[hC] at C1 SM
  rw[hE] at C2 SM
  rw[hC]
  clear hC hE
  generalize p.kind=k at *
  generalize p.code=c at *
  cases s with
  | false=>
   clear MA
   go_wp2_with (first
    | (refine wpList_load_row rfl _ _ rfl w.heap.size rfl 35 _ (0,0) _ (BC.out _ HS.out) Tryz.underlying35 rfl (by rw[C1.out];exact q5nr) ?_)
    | (refine wpList_load_row rfl _ _ rfl (w.heap.size+1) rfl 35 _ (0,0) _ (BE.out _ HS.out) Tryz.underlying35 rfl (by rw[C2.out];exact q5nr) ?_))
   refine(SM.out _ HS.out).mono ?_
   rintro e W ⟨rfl,hb⟩
   have LO:=Lib.hid (LOW.out _ hb)
   clear hb
   go_wp2_with fail
   go_ret
   exact⟨by rw[←HR.out];rfl,LO.out⟩
  | true=>
   cases t with
   | false=>
    clear MA
    go_wp2_with (first
     | (refine wpList_load_row rfl _ _ rfl w.heap.size rfl 35 _ (0,0) _ (BC.out _ HS.out) Tryz.underlying35 rfl (by rw[C1.out];exact q5nr) ?_)
     | (refine wpList_load_row rfl _ _ rfl (w.heap.size+1) rfl 35 _ (0,0) _ (BE.out _ HS.out) Tryz.underlying35 rfl (by rw[C2.out];exact q5nr) ?_))
    refine(SM.out _ HS.out).mono ?_
    rintro e W ⟨rfl,hb⟩
    have LO:=Lib.hid (LOW.out _ hb)
    clear hb
    go_wp2_with fail
    go_ret
    exact⟨by rw[←HR.out];rfl,LO.out⟩
   | true=>
    go_wp2_with (first
     | (refine wpList_load_row rfl _ _ rfl w.heap.size rfl 35 _ (0,0) _ (BC.out _ HS.out) Tryz.underlying35 rfl (by rw[C1.out];exact q5nr) ?_)
     | (refine wpList_load_row rfl _ _ rfl (w.heap.size+1) rfl 35 _ (0,0) _ (BE.out _ HS.out) Tryz.underlying35 rfl (by rw[C2.out];exact q5nr) ?_))
    refine(SM.out _ HS.out).mono ?_
    rintro e W ⟨rfl,hb⟩
    have HS2:=Lib.hid hb
    have k0:W.cell? ⟨w.heap.size,0,none⟩=some (.int .i64 k):=K0.out _ hb
    have k21:W.cell? ⟨w.heap.size,21,none⟩=some (.int .i64 c):=K21.out _ hb
    clear hb HS
    go_wp2_with fail
    refine(MA.out _ HS2.out).mono ?_
    rintro e W2 ⟨rfl,hb⟩
    have LO:=Lib.hid (LOW.out _ hb)
    clear hb
    go_wp2_with fail
    go_ret
    exact⟨by rw[←HR.out];rfl,LO.out⟩
end Go.Proofs.YtbklidpadffpgaaGreat
