/- The walk of SubscribeOptions. Condition: the filter's topic is no more than memory holds; the number is an int. -/
import Derived.Deep.DeepCutAuto
import Derived.Test.YtbecggefmbpnoaaGreatDoorK49
import Derived.Test.YtbecggefmbpnoaaGreatDoorK51
import Derived.Test.YtbecggefmbpnoaaGreatDoorK21
set_option maxHeartbeats 2000000
set_option maxRecDepth 100000
namespace Go.Proofs.YtbecggefmbpnoaaGreatDoor
open Go.RowKit
structure OpS(w:World)(f:Fi)(n:Nat)(W:World):Prop where
 bx:BxF w f W
 low:w.heap.size≤n
 cl:CL W (some ⟨n,0,none⟩) (fcs [f])
 pk:W.heap[n+1]? = some (.cells (pkC (askS 9 [f]) (adF (some ⟨n,0,none⟩) 1)) 29 (0,0))
theorem OpS.call{w W W':World}{f:Fi}{n:Nat}(h:OpS w f n W)(hb:Below W.heap.size W W'):OpS w f n W':=
 ⟨h.bx.call hb,h.low,h.cl.below hb,(hb.block _ (lt_of_block h.pk)).trans h.pk⟩
theorem q1zm{W:World}{g i:Nat}{cs:List Value}(h:CL W (some ⟨g,i,none⟩) cs){j:Nat}{u:Value}(hj:cs[j]? = some u):W.cell? ⟨g,i+j,none⟩=some u:=by
 obtain⟨g',i',e,_,hc⟩:=h (fun e=>by rw[e] at hj;simp at hj)
 cases e
 exact hc j u hj
theorem qn1g(l:List UInt8)(b:UInt8):∃h:l.length < (bs (l++[b])).size,(bs (l++[b]))[l.length]'h=b:=
 ⟨by rw[q5zk];simp,by show(l++[b]).toArray[l.length]'(by simp)=b;simp⟩
structure LaS(w:World)(f:Fi)(G:Nat)(D:Array Value)(A:Option Addr)(W:World):Prop where
 bx:BxF w f W
 cl:CL W A (fcs [f])
 pk:W.heap[G]? = some (.cells D 29 (0,0))
theorem LaS.call{w W W':World}{f:Fi}{G:Nat}{D:Array Value}{A:Option Addr}(h:LaS w f G D A W)(hb:Below W.heap.size W W'):LaS w f G D A W':=
 ⟨h.bx.call hb,h.cl.below hb,(hb.block _ (lt_of_block h.pk)).trans h.pk⟩
theorem LaS.draw{w W:World}{f:Fi}{G:Nat}{D:Array Value}{A:Option Addr}(h:LaS w f G D A W):LaS w f G D A W.drew:=
 ⟨h.bx.draw,h.cl,h.pk⟩
theorem quu2(f:Fi)(v:Int)(w:World)(hf:f.topic.length≤140737488351232) :
 Calls Tryz.prog 6 #[.agg (fiC f),.int .i64 v] w fun e w'=>e = .returned (.bool true)∧Below w.heap.size w w':=by
 have S0:=Lib.hid (BxF.made w f)
 by_cases h2:200 < f.topic.length
 ·have hd:decide ((200:Int) < ((bs f.topic).size:Int))=true:=decide_eq_true (by rw[q5zk];omega)
  clear h2
  go_enter Tryz.func6,Tryz.ntmps6
  go_wp2_with fail
  refine(qv1l _).mono ?_
  rintro e W ⟨rfl,hb⟩
  have S1:=Lib.hid (S0.out.call hb)
  clear hb
  have k0:W.cell? ⟨w.heap.size,0,none⟩=some (.string (bs f.topic)):=S1.out.cell 0
  have LO:=Lib.hid S1.out.low
  clear S0 S1
  go_wp2_with fail
  go_ret
  exact⟨rfl,LO.out⟩
 ·have hd:decide ((200:Int) < ((bs f.topic).size:Int))=false:=decide_eq_false (by rw[q5zk];omega)
  have FI:=fun W=>q2e6 (bs f.topic) W (by rw[q5zk];omega)
  have SH:=fun W=>q466 (bs f.topic) W (by rw[q5zk];omega)
  rw[qkd1] at FI SH
  unfold shv at SH
  cases hl:qw8n f.topic with
  | false=>
   rw[hl] at FI
   replace FI:=Lib.hid FI
   clear hl SH h2 hf
   go_enter Tryz.func6,Tryz.ntmps6
   go_wp2_with fail
   refine(qv1l _).mono ?_
   rintro e W ⟨rfl,hb⟩
   have S1:=Lib.hid (S0.out.call hb)
   clear hb
   have k0:W.cell? ⟨w.heap.size,0,none⟩=some (.string (bs f.topic)):=S1.out.cell 0
   go_wp2_with fail
   refine(FI.out _).mono ?_
   rintro e W2 ⟨rfl,hb⟩
   have LO:=Lib.hid (S1.out.call hb).low
   clear hb k0 S0 S1
   go_wp2_with fail
   go_ret
   exact⟨rfl,LO.out⟩
  | true=>
   rw[hl] at FI
   replace FI:=Lib.hid FI
   replace SH:=Lib.hid SH
   obtain⟨u,hu,KV⟩:=qw59 v
   replace KV:=Lib.hid KV
   have HU:=Lib.hid hu
   have HV:=Lib.hid (qsls hu hl)
   have HR:=Lib.hid (show optS u 8 f=true→q98d u 8 (rawS u (askS 9 [f]))=(askS 9 [f],0) from fun h=>q2r8 (v:=u) (p:=askS 9 [f]) (by rw[qsls hu hl,if_pos h]))
   have sp:q21o (askS 9 [f]):=⟨Nat.zero_le _,(by decide:1≤70000),Nat.zero_le _,Nat.zero_le _⟩
   have ok:PkOk (askS 9 [f]):=qdqr (fun x hx=>by simp at hx;subst hx;omega)
   have HL:=Lib.hid (show optS u 8 f=true→(rawS u (askS 9 [f])).length≤140000000000∧FewS u 8 (rawS u (askS 9 [f])) from fun h=>⟨qp9r (by rw[qsls hu hl,if_pos h]) sp,qevb (v:=u) (p:=askS 9 [f]) (by rw[qsls hu hl,if_pos h]) sp⟩)
   have BO:=Lib.hid (fun n W (h:OpS w f n W)=>(q7zk u (askS 9 [f]) (adF (some ⟨n,0,none⟩) 1) W (q66c h.cl) sp ok (Nat.zero_le _)).mono fun e W' hh=>(⟨hh.1,h.call hh.2⟩:_∧OpS w f n W'))
   clear sp ok hu hl
   have hzv:=qrai
   have hne:¬pkZ=#[]:=by intro h;have:=qbwp;rw[h] at this;cases this
   have HZ:=Lib.hid qbwp
   clear h2 hf
   go_enter Tryz.func6,Tryz.ntmps6
   go_wp2_with fail
   refine(qv1l _).mono ?_
   rintro e W ⟨rfl,hb⟩
   have S1:=Lib.hid (S0.out.call hb)
   clear hb
   have k0:W.cell? ⟨w.heap.size,0,none⟩=some (.string (bs f.topic)):=S1.out.cell 0
   go_wp2_with fail
   refine(FI.out _).mono ?_
   rintro e W2 ⟨rfl,hb⟩
   have S2:=Lib.hid (S1.out.call hb)
   clear hb k0 S0 S1
   go_wp2_with fail
   refine(KV.out _).mono ?_
   rintro e W3 ⟨rfl,rfl⟩
   have H1:=Lib.hid (qwmp (askS 9 [f]) (adF (some ⟨W2.heap.size,0,none⟩) 1))
   have H2:=Lib.hid (qmz0 (askS 9 [f]) (adF (some ⟨W2.heap.size,0,none⟩) 1))
   have hsz:=Lib.hid S2.out.low.size
   have SF:=Lib.hid (show BxF w f W2 from S2.out)
   go_upto_region 7 with (first
    | (refine wpList_load_row rfl _ _ rfl w.heap.size rfl 32 #[.string (bs f.topic),.int .i64 f.qos,.bool f.noLocal,.bool f.asPub,.int .i64 f.handling] (0,0) _ SF.out.box Tryz.underlying32 rfl qhg6 ?_)
    | (refine wpList_buildTo rfl 29 _ rfl (some _) rfl (pkC (askS 9 [f]) (adF (some ⟨W2.heap.size,0,none⟩) 1)) (by kernel_rfl) ?_)
    | (refine wpList_store_row rfl _ _ _ rfl (W2.heap.size+1) (pkC (askS 9 [f]) (adF (some ⟨W2.heap.size,0,none⟩) 1)) rfl rfl 29 _ (heap_alloc2_new _ _ _) (by rw[H1.out];exact q5nr) (by rw[HZ.out,H1.out]) H2.out ?_))
   have O5:OpS w f W2.heap.size (((W2.alloc (.cells #[.string (bs f.topic),.int .i64 f.qos,.bool f.noLocal,.bool f.asPub,.int .i64 f.handling] 32)).alloc (.cells pkZ 29)).setRow (W2.heap.size+1) (pkC (askS 9 [f]) (adF (some ⟨W2.heap.size,0,none⟩) 1))):=by
    refine⟨S2.out.call (q8xz (qxh2 (qybm _) (qybm _)) (by omega) _),hsz.out,?_,setRow_heap _ _ _ _ _ _ (heap_alloc2_new _ _ _)⟩
    exact CL.of_cells ((setRow_other _ _ _ _ (by omega)).trans (heap_alloc2_old _ _ _)) (fun j u hu=>by
     rw[←hu,←Array.getElem?_toList]
     rfl)
   replace O5:=Lib.hid O5
   generalize ((W2.alloc (.cells #[.string (bs f.topic),.int .i64 f.qos,.bool f.noLocal,.bool f.asPub,.int .i64 f.handling] 32)).alloc (.cells pkZ 29)).setRow (W2.heap.size+1) (pkC (askS 9 [f]) (adF (some ⟨W2.heap.size,0,none⟩) 1))=W5 at *
   generalize W2.heap.size=n at *
   have k0:W5.cell? ⟨w.heap.size,0,none⟩=some (.string (bs f.topic)):=O5.out.bx.cell 0
   clear SF S2 H2
   go_wp2_with fail
   refine(SH.out _).mono ?_
   rintro e W6 ⟨rfl,hb⟩
   have O6:=Lib.hid (O5.out.call hb)
   clear hb k0 O5
   go_upto_region 8 with fail
   refine qip0 (S:=OpS w f n) (B:=w.heap.size) (f:=f) (sh:=(qar3 f.topic).2.2) (st:=(qar3 f.topic).2.2) O6.out (fun W h=>h.bx.cell 1) (fun W h=>h.bx.cell 2) (fun W h=>h.bx.cell 4) rfl ?_
   intro r W7 hr hS
   intros
   have O7:=Lib.hid hS
   have HRR:=Lib.hid hr
   clear hr hS O6
   go_upto_if 66 with fail
   go_cut [10] (fun s10 wx=>s10 = .bool (optS u 8 f)∧OpS w f n wx)
   case first=>
    obtain rfl | rfl:=HU.out
    ·go_upto_region 10 with fail
     refine qwsp (S:=OpS w f n) (B:=w.heap.size) (f:=f) O7.out (fun W h=>h.bx.cell 0) (fun W h=>h.bx.cell 1) (fun W h=>h.bx.box) ?_
     intro r2 W8 hr hS
     intros
     have e:=(qhuv f).trans hr
     have O8:=Lib.hid hS
     subst e
     clear hr hS
     go_wp2_with fail
     go_meet
     exact⟨rfl,O8.out⟩
    ·have e:=(q3bc f).trans HRR.out
     subst e
     clear HRR
     go_wp2_with fail
     go_meet
     exact⟨rfl,O7.out⟩
   case rest=>
    obtain⟨rfl,hS⟩:=hcut
    have O8:=Lib.hid hS
    clear hS O7 HRR
    have BD:=fun W h=>BO.out n W h
    unfold qktk at BD
    rw[HV.out] at BD
    obtain⟨R,hR⟩:∃R,optS u 8 f=R:=⟨_,rfl⟩
    rw[hR] at BD ⊢
    cases R with
    | false=>
     have BD:=Lib.hid BD
     go_wp2_with (refine wpList_load_row rfl _ _ rfl (n+1) rfl 29 _ (0,0) _ O8.out.pk Tryz.underlying29 rfl (by rw[H1.out];exact q5nr) ?_)
     refine(BD.out _ O8.out).mono ?_
     rintro e W9 ⟨rfl,hS⟩
     have LO:=Lib.hid hS.bx.low
     clear hS O8
     go_wp2_with fail
     go_ret
     exact⟨rfl,LO.out⟩
    | true=>
     obtain⟨pre,hp⟩:=qerv u 9 f
     have hlen:=(HL.out hR).1
     have RE:=fun W=>qmor u 8 (bs (rawS u (askS 9 [f]))) W (by decide) (by decide) (by rw[q5zk];omega) (by rw[qkd1];exact(HL.out hR).2)
     rw[qkd1,HR.out hR] at RE
     rw[if_pos rfl,if_neg (by decide)] at BD
     rw[hp] at hlen RE BD
     rw[List.length_append] at hlen
     have hpl:pre.length≤140000000000:=by omega
     obtain⟨hk,hb⟩:=qn1g pre (UInt8.ofNat (qang f))
     have hsub:IntKind.i64.wrap (((bs (pre++[UInt8.ofNat (qang f)])).size:Nat) - 1:Int)=(pre.length:Nat):=by
      rw[q5zk,List.length_append,IntKind.wrap_i64]
      simp only[List.length_cons,List.length_nil]
      omega
     have HO:=fun W=>q3gr f W
     rw[←q0c1 f] at HO
     have hlt:(UInt8.ofNat (qang f)).toNat < 256:=UInt8.toNat_lt _
     generalize UInt8.ofNat (qang f)=b at *
     generalize bs (pre++[b])=s at *
     generalize pre.length=k at *
     have HS:=Lib.hid (show ∃h:k < s.size,s[k]'h=b from⟨hk,hb⟩)
     have HS2:=Lib.hid (And.intro hlt hsub)
     replace HO:=Lib.hid HO
     replace RE:=Lib.hid RE
     have BD:=Lib.hid BD
     clear HL HR HV BO hp hlen hpl hb hk hsub hlt hR
     go_wp2_with (refine wpList_load_row rfl _ _ rfl (n+1) rfl 29 _ (0,0) _ O8.out.pk Tryz.underlying29 rfl (by rw[H1.out];exact q5nr) ?_)
     refine(BD.out _ O8.out).mono ?_
     rintro e W9 ⟨rfl,hS⟩
     have O9:=Lib.hid hS.bx
     clear hS O8
     go_wp2_with fail
     refine(RE.out _).mono ?_
     rintro e WA ⟨a,rfl,atA,-,-,hb,-⟩
     have hbx:Below WA.heap.size WA ((WA.alloc (.cells pkZ 29)).setRow WA.heap.size (pkC (askS 9 [f]) a)):=q8xz (qybm _) (Nat.le_refl _) _
     have HD1:=Lib.hid (qwmp (askS 9 [f]) a)
     have HD2:=Lib.hid (qmz0 (askS 9 [f]) a)
     have LB:=Lib.hid (show LaS w f WA.heap.size (pkC (askS 9 [f]) a) a.fs ((WA.alloc (.cells pkZ 29)).setRow WA.heap.size (pkC (askS 9 [f]) a)) from
      ⟨(O9.out.call hb).call hbx,(atA.below hbx).fs,setRow_heap _ _ _ _ _ _ (heap_alloc_new WA _)⟩)
     clear hb hbx O9
     go_upto_region 17 with (refine wpList_store_row rfl _ _ _ rfl WA.heap.size (pkC (askS 9 [f]) a) rfl rfl 29 _ (heap_alloc_new WA _) (by rw[HD1.out];exact q5nr) (by rw[HZ.out,HD1.out]) HD2.out ?_)
     generalize (WA.alloc (.cells pkZ 29)).setRow WA.heap.size (pkC (askS 9 [f]) a)=WB at *
     generalize WA.heap.size=G at *
     obtain⟨g,j,hfs,-,-⟩:=LB.out.cl (by simp[fcs,quk6])
     obtain⟨hk,hb⟩:=HS.out
     refine q4e2 (S:=LaS w f G (pkC (askS 9 [f]) a) a.fs) (B:=w.heap.size) (G:=G) (g:=g) (j:=j) (c:=a.fc) (k:=k) (f:=f) (s:=s) (b:=b) LB.out.draw
      (fun W h=>h.bx.box)
      (fun W h=>(cell_of_row _ _ 23 _ _ _ h.pk).trans (by rw[←hfs];rfl))
      (fun W h=>q1zm (j:=0) (hfs▸h.cl) rfl) (fun W h=>q1zm (j:=1) (hfs▸h.cl) rfl) (fun W h=>q1zm (j:=2) (hfs▸h.cl) rfl) (fun W h=>q1zm (j:=3) (hfs▸h.cl) rfl) (fun W h=>q1zm (j:=4) (hfs▸h.cl) rfl)
      hk hb HS2.out.1 HS2.out.2
      (fun W h=>(HO.out W).mono fun e W' hh=>⟨hh.1,h.call hh.2⟩) ?_
     intro WC hS
     have LO:=Lib.hid hS.bx.low
     clear hS LB
     go_wp2_with fail
     go_ret
     exact⟨rfl,LO.out⟩
end Go.Proofs.YtbecggefmbpnoaaGreatDoor
