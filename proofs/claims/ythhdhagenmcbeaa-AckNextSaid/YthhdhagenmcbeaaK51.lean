/- The walk of AckNext. Condition: the packet's fields are what their types hold, its lists within their capacities. -/
import Derived.Deep.DeepCutAuto
import Derived.Great.BuildSlice
import Derived.Test.YthhdhagenmcbeaaK50
import Derived.Test.YthhdhagenmcbeaaK20
import Derived.Test.YthhdhagenmcbeaaK23
import Derived.Test.YthhdhagenmcbeaaK24
import Derived.Test.YthhdhagenmcbeaaK16
set_option maxHeartbeats 4000000
set_option maxRecDepth 100000
namespace Go.Proofs.Ythhdhagenmcbeaa
open Go.RowKit
theorem qdbr(p:Pk):(qo1u p).1=Pk.zero∨∃k i,(qo1u p).1=numA k i 0∧6≤k∧k≤7:=by
 unfold qo1u
 split
 ·exact .inr ⟨6,p.id,rfl,by decide,by decide⟩
 ·split
  ·exact .inr ⟨7,p.id,rfl,by decide,by decide⟩
  ·exact .inl rfl
theorem qnyo(p:Pk):PkOk (qo1u p).1:=by
 rcases qdbr p with h | ⟨k,i,h,h1,h2⟩
 ·rw[h];exact q9n6 (k:=0) (i:=0) (c:=0) (by decide)
 ·rw[h];exact q9n6 (by omega)
theorem qr29(p:Pk):(qo1u p).1.wProps=[]∧(qo1u p).1.codes=[]∧(qo1u p).1.filters=[]∧(qo1u p).1.props=[]:=by
 rcases qdbr p with h | ⟨k,i,h,h1,h2⟩
 ·rw[h];exact⟨rfl,rfl,rfl,rfl⟩
 ·rw[h];exact⟨rfl,rfl,rfl,rfl⟩
theorem qnxf(v:Int)(p:Pk)(w:World):Calls Try.prog 10 #[.int .i64 v,.agg (pkC (qo1u p).1 adZ)] w fun e w'=>e = .returned (.int .i64 (qryp v (qo1u p).1:Nat))∧Below w.heap.size w w':=by
 obtain⟨h1,h2,h3,h4⟩:=qr29 p
 exact qat7 v _ adZ w (qx9v _ w ⟨h1,h2,h3,h4⟩) ⟨by rw[h2];exact Nat.zero_le _,by rw[h3];exact Nat.zero_le _,by rw[h4];exact Nat.zero_le _,by rw[h1];exact Nat.zero_le _⟩ (qnyo p) (by rw[h4];exact Nat.zero_le _)
structure NtS(w:World)(v:Int)(p:Pk)(a:Ad)(W:World):Prop where
 low:Below w.heap.size w W
 pb:W.heap[w.heap.size]? = some (.cells (pkC p a) 31 (0,0))
theorem NtS.call{w W W':World}{v:Int}{p:Pk}{a:Ad}(h:NtS w v p a W)(hb:Below W.heap.size W W'):NtS w v p a W':=⟨qxh2 h.low hb,(hb.block _ (lt_of_block h.pb)).trans h.pb⟩
theorem NtS.cell{w W:World}{v:Int}{p:Pk}{a:Ad}(h:NtS w v p a W)(j:Nat):W.cell? ⟨w.heap.size,j,none⟩=(pkC p a)[j]? := cell_of_row _ _ j _ _ _ h.pb
theorem NtS.new{w W:World}{v:Int}{p:Pk}{a:Ad}(h:NtS w v p a W)(D:Array Value):NtS w v p a ((W.alloc (.cells pkZ 31)).setRow W.heap.size D):=h.call (q8xz (qybm _) (Nat.le_refl _) D)
theorem qvyf(v:Int)(p:Pk)(a:Ad)(w:World)(hp:PkAt w p a)(ok:PkOk p)(hc:PkCap p a) :
 Calls Try.prog 4 #[.int .i64 v,.agg (pkC p a)] w fun e w'=>e = .returned (.bool true)∧Below w.heap.size w w':=by
 have S0:Hid (NtS w v p a (w.alloc (.cells (pkC p a) 31))):=Lib.hid ⟨qybm _,heap_alloc_new _ _⟩
 have C1:=Lib.hid (qwmp p a)
 have LI:=Lib.hid (fun W (h:NtS w v p a W)=>(q1dl p a W (hp.below h.low) ok).mono fun e W' hh=>(⟨hh.1,h.call hh.2⟩:_∧NtS w v p a W'))
 unfold pkV at LI
 cases hl:qa3g p with
 | false=>
  rw[hl] at LI
  clear hp ok hc
  go_enter Try.func4,Try.ntmps4
  go_wp2_with fail
  refine(q6if _).mono ?_
  rintro e W ⟨rfl,hb⟩
  have S1:=Lib.hid (S0.out.call hb)
  clear hb S0
  go_wp2_with (refine wpList_load_row rfl _ _ rfl w.heap.size rfl 31 _ (0,0) _ S1.out.pb Try.underlying31 rfl (by rw[C1.out];exact q5nr) ?_)
  refine(LI.out _ S1.out).mono ?_
  rintro e W2 ⟨rfl,hb⟩
  have S2:=Lib.hid hb
  clear hb S1
  go_wp2_with fail
  go_ret
  exact⟨rfl,S2.out.low⟩
 | true=>
  rw[hl] at LI
  have sh:=q2qrt hl
  have sp:q21o p:=⟨by omega,by omega,by omega,by omega⟩
  have VA:=fun W (h:NtS w v p a W)=>(qat7 v p a W (hp.below h.low) sp ok hc.pc).mono fun e W' hh=>(⟨hh.1,h.call hh.2⟩:_∧NtS w v p a W')
  by_cases hv:qryp v p=0
  ·rw[hv] at VA
   replace VA:=Lib.hid VA
   have NX:=Lib.hid (fun W (h:NtS w v p a W)=>(qj9k p a W).mono fun e W' hh=>(⟨hh.1,h.call hh.2⟩:_∧NtS w v p a W'))
   obtain⟨ht,hf⟩:=q7nc hv
   have NV:=fun W=>qnxf v p W
   have N2:=fun W=>qj9k (qo1u p).1 adZ W
   have N3:=fun W=>qj9k (qo1u (qo1u p).1).1 adZ W
   obtain⟨q,hq⟩:∃q,qo1u p=q:=⟨_,rfl⟩
   obtain⟨q1,q2⟩:=q
   rw[hq] at ht hf NX NV N2 N3
   simp only at ht hf NX NV N2 N3
   have hkind:=ok.kind
   have k0:∀W,NtS w v p a W→W.cell? ⟨w.heap.size,0,none⟩=some (.int .i64 p.kind):=fun W h=>h.cell 0
   have k4:∀W,NtS w v p a W→W.cell? ⟨w.heap.size,4,none⟩=some (.int .i64 p.id):=fun W h=>h.cell 4
   have k21:∀W,NtS w v p a W→W.cell? ⟨w.heap.size,21,none⟩=some (.int .i64 p.code):=fun W h=>h.cell 21
   have HZ:=Lib.hid qbwp
   cases q2 with
   | false=>
    obtain⟨rfl,h6,h5⟩:=hf rfl
    rw[qgcz] at NX
    have NZ:=Lib.hid qy61
    have e6:(p.kind==6)=false:=by simpa using h6
    have e6':(p.kind != 6)=true:=by simpa using h6
    have K0:=Lib.hid k0
    have K21:=Lib.hid k21
    have PZ:Hid (pkZ.all (·.oneCell')=true):=Lib.hid (qmz0 Pk.zero adZ)
    have h7:((p.kind==5)=false∧(p.kind != 5)=true)∨((p.kind==5)=true∧Hid (decide (128≤p.code)=true)):=by
     by_cases e:p.kind=5
     ·right
      exact⟨by simpa using e,Lib.hid (decide_eq_true (h5.resolve_left (fun h=>h e)))⟩
     ·left;exact⟨by simpa using e,by simpa using e⟩
    generalize p.kind=k at *
    generalize p.code=c at *
    have NX:=Lib.hid NX
    have hzv:=qrai
    have hne:¬pkZ=#[]:=by intro h;have:=qbwp;rw[h] at this;cases this
    clear hp ok hc ht hf hq NV N2 N3 hv sh sp h5 h6 hkind k0 k4 k21 hl
    rcases h7 with ⟨h7,h8⟩ | ⟨h7,h8⟩
    all_goals
     go_enter Try.func4,Try.ntmps4
     go_wp2_with fail
     refine(q6if _).mono ?_
     rintro e W ⟨rfl,hb⟩
     have S1:=Lib.hid (S0.out.call hb)
     clear hb S0
     go_wp2_with (refine wpList_load_row rfl _ _ rfl w.heap.size rfl 31 _ (0,0) _ S1.out.pb Try.underlying31 rfl (by rw[C1.out];exact q5nr) ?_)
     refine(LI.out _ S1.out).mono ?_
     rintro e W2 ⟨rfl,hb⟩
     have S2:=Lib.hid hb
     clear hb S1
     go_wp2_with (refine q2a5 rfl _ _ rfl w.heap.size rfl 31 _ (0,0) _ S2.out.pb Try.underlying31 rfl (by rw[C1.out];exact q5nr) ?_)
     refine(VA.out _ S2.out).mono ?_
     rintro e W3 ⟨rfl,hb⟩
     have S3:=Lib.hid hb
     clear hb S2
     go_wp2_with (refine wpList_load_row rfl _ _ rfl w.heap.size rfl 31 _ (0,0) _ S3.out.pb Try.underlying31 rfl (by rw[C1.out];exact q5nr) ?_)
     refine(NX.out _ S3.out).mono ?_
     rintro e W4 ⟨rfl,hb⟩
     have S4:=Lib.hid hb
     have S5:=Lib.hid (hb.new pkZ)
     have G4:=Lib.hid (heap_alloc_new W4 (.cells pkZ 31))
     have G5:=Lib.hid (setRow_heap _ _ _ pkZ _ _ (heap_alloc_new W4 (.cells pkZ 31)))
     clear hb S3
     go_wp2_with (first
      | (refine wpList_store_row rfl _ _ _ rfl W4.heap.size pkZ rfl rfl 31 _ G4.out (by rw[HZ.out];exact q5nr) (by rw[HZ.out]) PZ.out ?_)
      | (refine wpList_load_row rfl _ _ rfl W4.heap.size rfl 31 pkZ (0,0) _ G5.out Try.underlying31 rfl (by rw[HZ.out];exact q5nr) ?_))
     refine(NZ.out _).mono ?_
     rintro e W6 ⟨rfl,hb⟩
     have S6:=Lib.hid (S5.out.call hb)
     have k0:=K0.out _ S6.out
     have k21:=K21.out _ S6.out
     clear hb S5
     go_wp2_with fail
     all_goals go_ret
     all_goals first
      | exact⟨rfl,S6.out.low⟩
      | exact⟨congrArg (fun b=>Ending.returned (Value.bool b)) h8.out,S6.out.low⟩
   | true=>
    obtain⟨e1,e2,e3,e4⟩:=ht rfl
    rw[e3] at NV
    have hh:∃k1 m2 D1 D2,(p.kind=5∧k1=6∧m2=true∨p.kind=6∧k1=7∧m2=false)∧pkC q1 adZ=D1∧pkC (qo1u q1).1 adZ=D2∧(qo1u q1).2=m2∧pkC (qo1u (qo1u q1).1).1 adZ=pkZ∧(qo1u (qo1u q1).1).2=false∧D1[0]? = some (.int .i64 k1)∧D1[4]? = some (.int .i64 p.id)∧D1.size=25∧D1.all (·.oneCell')=true∧D2.size=25∧D2.all (·.oneCell')=true:=by
     rcases e4 with ⟨h5,hlt⟩ | h6
     ·have hx:q1=numA 6 p.id 0:=by
       have:=congrArg Prod.fst hq
       simp only at this
       rw[←this,qo1u,if_pos ⟨h5,hlt⟩];rfl
      subst hx
      exact⟨6,true,_,_,.inl ⟨h5,rfl,rfl⟩,rfl,rfl,rfl,rfl,rfl,rfl,rfl,qwmp _ _,qmz0 _ _,qwmp _ _,qmz0 _ _⟩
     ·have hx:q1=numA 7 p.id 0:=by
       have:=congrArg Prod.fst hq
       simp only at this
       rw[←this,qo1u,if_neg (by omega),if_pos h6];rfl
      subst hx
      exact⟨7,false,_,_,.inr ⟨h6,rfl,rfl⟩,rfl,rfl,rfl,rfl,rfl,rfl,rfl,qwmp _ _,qmz0 _ _,qwmp _ _,qmz0 _ _⟩
    obtain⟨k1,m2,D1,D2,hk,hD1,hD2,hm2,hz3,hb3,c10,c14,s1,o1,s2,o2⟩:=hh
    rw[hD1] at NX NV N2
    rw[hD2,hm2] at N2
    rw[hD2,hz3,hb3] at N3
    generalize p.kind=k at *
    generalize p.id=i at *
    have K0:=Lib.hid k0
    have K4:=Lib.hid k4
    have PZ:Hid (pkZ.all (·.oneCell')=true):=Lib.hid (qmz0 Pk.zero adZ)
    have C10:=Lib.hid c10
    have C14:=Lib.hid c14
    have HS1:=Lib.hid s1
    have HO1:=Lib.hid o1
    have HS2:=Lib.hid s2
    have HO2:=Lib.hid o2
    have NX:=Lib.hid NX
    have NV:=Lib.hid NV
    have N2:=Lib.hid N2
    have N3:=Lib.hid N3
    have hzv:=qrai
    have hne:¬pkZ=#[]:=by intro h;have:=qbwp;rw[h] at this;cases this
    clear hp ok hc ht hf hq hv sh sp hkind k0 k4 k21 hl e1 e2 e3 e4 hD1 hD2 hm2 hz3 hb3 c10 c14 s1 o1 s2 o2
    rcases hk with ⟨rfl,rfl,rfl⟩ | ⟨rfl,rfl,rfl⟩
    all_goals
     go_enter Try.func4,Try.ntmps4
     go_wp2_with fail
     refine(q6if _).mono ?_
     rintro e W ⟨rfl,hb⟩
     have S1:=Lib.hid (S0.out.call hb)
     clear hb S0
     go_wp2_with (refine wpList_load_row rfl _ _ rfl w.heap.size rfl 31 _ (0,0) _ S1.out.pb Try.underlying31 rfl (by rw[C1.out];exact q5nr) ?_)
     refine(LI.out _ S1.out).mono ?_
     rintro e W2 ⟨rfl,hb⟩
     have S2:=Lib.hid hb
     clear hb S1
     go_wp2_with (refine q2a5 rfl _ _ rfl w.heap.size rfl 31 _ (0,0) _ S2.out.pb Try.underlying31 rfl (by rw[C1.out];exact q5nr) ?_)
     refine(VA.out _ S2.out).mono ?_
     rintro e W3 ⟨rfl,hb⟩
     have S3:=Lib.hid hb
     clear hb S2
     go_wp2_with (refine wpList_load_row rfl _ _ rfl w.heap.size rfl 31 _ (0,0) _ S3.out.pb Try.underlying31 rfl (by rw[C1.out];exact q5nr) ?_)
     refine(NX.out _ S3.out).mono ?_
     rintro e W4 ⟨rfl,hb⟩
     have S5:=Lib.hid (hb.new D1)
     have G4:=Lib.hid (heap_alloc_new W4 (.cells pkZ 31))
     have G5:=Lib.hid (setRow_heap _ _ _ D1 _ _ (heap_alloc_new W4 (.cells pkZ 31)))
     have k0:=K0.out _ S5.out
     have k4:=K4.out _ S5.out
     have q0:=(cell_of_row _ _ 0 _ _ _ G5.out).trans C10.out
     have q4:=(cell_of_row _ _ 4 _ _ _ G5.out).trans C14.out
     clear hb S3
     go_wp2_with (first
      | (refine wpList_store_row rfl _ _ _ rfl W4.heap.size D1 rfl rfl 31 _ G4.out (by rw[HS1.out];exact q5nr) (by rw[HZ.out,HS1.out]) HO1.out ?_)
      | (refine q2a5 rfl _ _ rfl W4.heap.size rfl 31 D1 (0,0) _ G5.out Try.underlying31 rfl (by rw[HS1.out];exact q5nr) ?_))
     refine(NV.out _).mono ?_
     rintro e W6 ⟨rfl,hb⟩
     have S6:=Lib.hid (S5.out.call hb)
     have G6:=Lib.hid ((hb.block _ (lt_of_block G5.out)).trans G5.out)
     clear hb S5 k0 k4 q0 q4
     go_wp2_with (refine wpList_load_row rfl _ _ rfl W4.heap.size rfl 31 D1 (0,0) _ G6.out Try.underlying31 rfl (by rw[HS1.out];exact q5nr) ?_)
     refine(N2.out _).mono ?_
     rintro e W7 ⟨rfl,hb⟩
     have S7:=Lib.hid (S6.out.call hb)
     have S8:=Lib.hid (S7.out.new D2)
     have G7:=Lib.hid (heap_alloc_new W7 (.cells pkZ 31))
     have G8:=Lib.hid (setRow_heap _ _ _ D2 _ _ (heap_alloc_new W7 (.cells pkZ 31)))
     clear hb S6 S7
     go_wp2_with (first
      | (refine wpList_store_row rfl _ _ _ rfl W7.heap.size D2 rfl rfl 31 _ G7.out (by rw[HS2.out];exact q5nr) (by rw[HZ.out,HS2.out]) HO2.out ?_)
      | (refine wpList_load_row rfl _ _ rfl W7.heap.size rfl 31 D2 (0,0) _ G8.out Try.underlying31 rfl (by rw[HS2.out];exact q5nr) ?_))
     refine(N3.out _).mono ?_
     rintro e W9 ⟨rfl,hb⟩
     have S9:=Lib.hid (S8.out.call hb)
     have S10:=Lib.hid (S9.out.new pkZ)
     have G9:=Lib.hid (heap_alloc_new W9 (.cells pkZ 31))
     have k0:=K0.out _ S10.out
     clear hb S8 S9
     go_wp2_with (refine wpList_store_row rfl _ _ _ rfl W9.heap.size pkZ rfl rfl 31 _ G9.out (by rw[HZ.out];exact q5nr) (by rw[HZ.out]) PZ.out ?_)
     go_ret
     exact⟨rfl,S10.out.low⟩
  ·generalize qryp v p=R at *
   replace VA:=Lib.hid VA
   have hr1:((R:Int)==0)=false:=by simp;omega
   have hr2:((R:Int) != 0)=true:=by simp;omega
   clear hp ok hc hv sh sp hl
   go_enter Try.func4,Try.ntmps4
   go_wp2_with fail
   refine(q6if _).mono ?_
   rintro e W ⟨rfl,hb⟩
   have S1:=Lib.hid (S0.out.call hb)
   clear hb S0
   go_wp2_with (refine wpList_load_row rfl _ _ rfl w.heap.size rfl 31 _ (0,0) _ S1.out.pb Try.underlying31 rfl (by rw[C1.out];exact q5nr) ?_)
   refine(LI.out _ S1.out).mono ?_
   rintro e W2 ⟨rfl,hb⟩
   have S2:=Lib.hid hb
   clear hb S1
   go_wp2_with (refine q2a5 rfl _ _ rfl w.heap.size rfl 31 _ (0,0) _ S2.out.pb Try.underlying31 rfl (by rw[C1.out];exact q5nr) ?_)
   refine(VA.out _ S2.out).mono ?_
   rintro e W3 ⟨rfl,hb⟩
   have S3:=Lib.hid hb
   clear hb S2
   go_wp2_with fail
   go_ret
   exact⟨rfl,S3.out.low⟩
end Go.Proofs.Ythhdhagenmcbeaa
