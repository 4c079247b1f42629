/- The contract of control.Read. Condition: the bytes are no more than memory holds. -/
import Derived.Test.YtbklidpadffpgaaGreatK51
import Derived.Test.YtbklidpadffpgaaGreatK22
set_option maxRecDepth 100000
set_option maxHeartbeats 1000000
namespace Go.Proofs.YtbklidpadffpgaaGreat
open Go.RowKit
structure KtS(w:World)(B:Nat)(P:Pk)(a:Ad)(W:World):Prop where
 low:Below w.heap.size w W
 rs:W.heap[w.heap.size]? = some (.cells pkZ 35 (0,0))
 hB:w.heap.size < B
 pk:W.heap[B]? = some (.cells (pkC P a) 35 (0,0))
 at_:PkAt W P a
 pf:∀g i,a.ps=some ⟨g,i,none⟩→w.heap.size < g
theorem KtS.call{w W W':World}{B:Nat}{P:Pk}{a:Ad}(h:KtS w B P a W)(hb:Below W.heap.size W W'):KtS w B P a W':=
 ⟨qxh2 h.low hb,(hb.block _ (lt_of_block h.rs)).trans h.rs,h.hB,(hb.block _ (lt_of_block h.pk)).trans h.pk,h.at_.below hb,h.pf⟩
theorem qzm9{kind:Int}(hk:-9223372036854775808≤kind∧kind≤9223372036854775807)(l:List UInt8):FitA (pkT kind (q6u6 kind l).1.1 (q6u6 kind l).1.2):=by
 refine q0yw hk ?_
 rw[qiic]
 unfold qs8t
 split
 ·exact⟨fun p hp=>(nomatch hp),Nat.zero_le _⟩
 ·exact qdz1 _ _
theorem quz6(s:ByteArray):(s.toList==[])=decide (s.data.toList=[]):=by
 rw[qrze]
 cases s.data.toList<;>simp
theorem qpg4(v kind:Int)(s:ByteArray)(w:World)(hk0:-9223372036854775808≤kind)(hk1:kind≤9223372036854775807)(hm:s.size≤140737488351232) :
 Calls Tryz.prog 8 #[.int .i64 v,.int .i64 kind,.string s] w (qplq w (qf4x v kind s.data.toList)):=by
 have HZ:=Lib.hid qbwp
 have hzv:=qrai
 have hne:¬pkZ=#[]:=by intro h;have:=qbwp;rw[h] at this;cases this
 have PZ:Hid (pkZ.all (·.oneCell')=true):=Lib.hid (qmz0 Pk.zero adZ)
 have RZ:=Lib.hid (fun(e:Nat) W (hb:Below w.heap.size w W)=>(show qplq w (Pk.zero,e) (.returned (.tuple #[.agg pkZ,.int .i64 (e:Nat)])) (W.setRow w.heap.size pkZ) from⟨adZ,rfl,qa3p _,Nat.zero_le _,qkys,q8xz hb (Nat.le_refl _) _,fun _=>rfl⟩))
 rw[q54j]
 have TA:=Lib.hid (fun W=>qkgb v kind W hk0 hk1)
 have R0:=heap_alloc_new w (.cells pkZ 35)
 have L0:=qybm (w:=w) (.cells pkZ 35)
 have S0:=Lib.hid (And.intro L0 R0)
 have ST:=Lib.hid (fun W W' (h:Below w.heap.size w W∧W.heap[w.heap.size]? = some (.cells pkZ 35 (0,0))) (hb:Below W.heap.size W W')=>(⟨qxh2 h.1 hb,(hb.block _ (lt_of_block h.2)).trans h.2⟩:Below w.heap.size w W'∧W'.heap[w.heap.size]? = some (.cells pkZ 35 (0,0))))
 clear R0 L0
 obtain⟨⟨tl,q0⟩,hT⟩:∃t,qyjk v kind=t:=⟨_,rfl⟩
 rw[hT] at TA ⊢
 simp only at TA ⊢
 clear hT
 by_cases hq:q0=0
 ·subst hq
  rw[if_neg (by simp)]
  by_cases hb0:tl=false∧s.data.toList≠[]
  ·rw[if_pos hb0]
   obtain⟨rfl,hl⟩:=hb0
   have h1:(s.toList==[])=false:=by rw[quz6];exact decide_eq_false hl
   have h2:(s.toList != [])=true:=by rw[bne,h1];rfl
   clear hl hm hk0 hk1
   go_enter Tryz.func8,Tryz.ntmps8
   go_wp2_with fail
   refine(TA.out _).mono ?_
   rintro e W ⟨rfl,hb⟩
   have S1:=Lib.hid (ST.out _ _ S0.out hb)
   clear hb S0
   go_wp2_with (first
    | (refine wpList_buildTo rfl 35 _ rfl (some _) rfl pkZ (by kernel_rfl) ?_)
    | (refine wpList_store_row rfl _ _ _ rfl w.heap.size pkZ rfl rfl 35 _ S1.out.2 (by rw[HZ.out];exact q5nr) rfl PZ.out ?_))
   refine q8iy (cs:=pkZ) rfl rfl rfl rfl Tryz.underlying35 rfl (by rw[HZ.out];exact q5nr) (setRow_heap _ _ _ _ _ _ S1.out.2) ?_
   exact RZ.out 5 _ S1.out.1
  rw[if_neg hb0]
  have hg:tl=true∨tl=false∧(s.toList==[])=true∧(s.toList != [])=false:=by
   cases tl with
   | true=>exact .inl rfl
   | false=>
    have hl:s.data.toList=[]:=by
     by_cases h:s.data.toList=[]
     ·exact h
     ·exact absurd ⟨rfl,h⟩ hb0
    have h1:(s.toList==[])=true:=by rw[quz6];exact decide_eq_true hl
    exact .inr ⟨rfl,h1,by rw[bne,h1];rfl⟩
  have RD:=Lib.hid (fun W=>qtnz kind s W hk0 hk1 hm)
  have FI:=Lib.hid (qzm9 ⟨hk0,hk1⟩ s.data.toList)
  have VA:=Lib.hid (fun a W (h:PkAt W (pkT kind (q6u6 kind s.data.toList).1.1 (q6u6 kind s.data.toList).1.2) a) (hc:(pkT kind (q6u6 kind s.data.toList).1.1 (q6u6 kind s.data.toList).1.2).props.length≤a.pc)=>qcuz v _ a W h FI.out.2 FI.out.1 hc)
  have PT:=Lib.hid (fun W a (h:PL W a.ps (pkT kind (q6u6 kind s.data.toList).1.1 (q6u6 kind s.data.toList).1.2).props)=>(⟨fun e=>absurd rfl e,fun e=>absurd rfl e,fun e=>absurd rfl e,h⟩:PkAt W (pkT kind (q6u6 kind s.data.toList).1.1 (q6u6 kind s.data.toList).1.2) a))
  generalize pkT kind (q6u6 kind s.data.toList).1.1 (q6u6 kind s.data.toList).1.2=P at *
  generalize endK kind s.data.toList=f at *
  generalize q1ra v P=q at *
  obtain⟨R,hR⟩:∃R,(if (if f≠0 then f else q)≠0 then(Pk.zero,(if f≠0 then f else q)) else(P,0))=R:=⟨_,rfl⟩
  rw[hR]
  have HR:=Lib.hid hR
  clear hb0 hR hm hk0 hk1
  rcases hg with rfl | ⟨rfl,h1,h2⟩
  all_goals
   go_enter Tryz.func8,Tryz.ntmps8
   go_wp2_with fail
   refine(TA.out _).mono ?_
   rintro e W ⟨rfl,hb⟩
   have S1:=Lib.hid (ST.out _ _ S0.out hb)
   clear hb S0
   go_wp2_with fail
   refine(RD.out _).mono ?_
   rintro e W2 ⟨a,rfl,p1,p2,p3,hb⟩
   have S2:=Lib.hid (ST.out _ _ S1.out hb)
   have hbx:Below W2.heap.size W2 ((W2.alloc (.cells pkZ 35)).setRow W2.heap.size (pkC P a)):=q8xz (qybm (w:=W2) (.cells pkZ 35)) (Nat.le_refl _) (pkC P a)
   have S3:KtS w W2.heap.size P a ((W2.alloc (.cells pkZ 35)).setRow W2.heap.size (pkC P a)):=
    ⟨qxh2 S2.out.1 hbx,(hbx.block _ (lt_of_block S2.out.2)).trans S2.out.2,lt_of_block S2.out.2,setRow_heap _ _ _ _ _ _ (heap_alloc_new W2 _),(PT.out _ a p1).below hbx,fun g i e=>by have:=p3 g i e;have:=lt_of_block S1.out.2;omega⟩
   have S3:=Lib.hid S3
   have CP:=Lib.hid p2
   have hD1:=qwmp P a
   have hD2:=qmz0 P a
   obtain⟨D,hD⟩:∃D,pkC P a=D:=⟨_,rfl⟩
   rw[hD] at hD1 hD2 S3 ⊢
   have HD:=Lib.hid hD
   have HD1:=Lib.hid hD1
   have HD2:=Lib.hid hD2
   have PKD:=Lib.hid (fun V (h:KtS w W2.heap.size P a V)=>(by rw[←hD];exact h.pk:V.heap[W2.heap.size]? = some (.cells D 35 (0,0))))
   have VAa:=VA.out a
   have VAa:=fun V (h:KtS w W2.heap.size P a V)=>(VAa V h.at_ CP.out).mono fun e W' hh=>(⟨hh.1,h.call hh.2⟩:_∧KtS w W2.heap.size P a W')
   rw[hD] at VAa
   have VAa:=Lib.hid VAa
   have FINT:=Lib.hid (fun V (h:KtS w W2.heap.size P a V)=>(show qplq w (P,0) (.returned (.tuple #[.agg D,.int .i64 ((0:Nat):Int)])) (V.setRow w.heap.size D) from
    ⟨a,by rw[hD],PT.out _ a (h.at_.ps.kept (by simp[World.setRow]) (fun g i e _=>setRow_other V w.heap.size g _ (by have:=h.pf g i e;omega))),CP.out,FI.out,q8xz h.low (Nat.le_refl _) _,fun h=>absurd rfl h⟩))
   clear p1 p2 p3 hb S2 S1 hbx hD1 hD2 hD VA PT RD
   by_cases hf0:f=0
   ·subst hf0
    by_cases hq:q=0
    ·subst hq
     have hr:R=(P,0):=by rw[←HR.out];simp
     subst hr
     go_wp2_with (first
      | (refine wpList_store_row rfl _ _ _ rfl W2.heap.size D rfl rfl 35 _ (heap_alloc_new W2 _) (by rw[HD1.out];exact q5nr) (by rw[HZ.out,HD1.out]) HD2.out ?_)
      | (refine wpList_load_row rfl _ _ rfl W2.heap.size rfl 35 D (0,0) _ (PKD.out _ S3.out) Tryz.underlying35 rfl (by rw[HD1.out];exact q5nr) ?_))
     refine(VAa.out _ S3.out).mono ?_
     rintro e W4 ⟨rfl,hS⟩
     have S4:=Lib.hid hS
     have RS4:=Lib.hid hS.rs
     clear hS
     go_wp2_with (first
      | (refine wpList_store_row rfl _ _ _ rfl w.heap.size D rfl rfl 35 _ RS4.out (by rw[HD1.out];exact q5nr) (by rw[HZ.out,HD1.out]) HD2.out ?_)
      | (refine wpList_load_row rfl _ _ rfl W2.heap.size rfl 35 D (0,0) _ (PKD.out _ S4.out) Tryz.underlying35 rfl (by rw[HD1.out];exact q5nr) ?_))
     exact q8iy (cs:=D) rfl rfl rfl rfl Tryz.underlying35 rfl (by rw[HD1.out];exact q5nr) (setRow_heap _ _ _ _ _ _ RS4.out) (FINT.out _ S4.out)
    ·have hr:R=(Pk.zero,q):=by rw[←HR.out];simp[hq]
     subst hr
     have q1:((q:Int)==0)=false:=by simp;omega
     have q2:((q:Int) != 0)=true:=by simp;omega
     clear hq
     go_wp2_with (first
      | (refine wpList_store_row rfl _ _ _ rfl W2.heap.size D rfl rfl 35 _ (heap_alloc_new W2 _) (by rw[HD1.out];exact q5nr) (by rw[HZ.out,HD1.out]) HD2.out ?_)
      | (refine wpList_load_row rfl _ _ rfl W2.heap.size rfl 35 D (0,0) _ (PKD.out _ S3.out) Tryz.underlying35 rfl (by rw[HD1.out];exact q5nr) ?_))
     refine(VAa.out _ S3.out).mono ?_
     rintro e W4 ⟨rfl,hS⟩
     have RS4:=Lib.hid hS.rs
     have RT:=Lib.hid (RZ.out q W4 hS.low)
     clear hS
     go_wp2_with (first
      | (refine wpList_buildTo rfl 35 _ rfl (some _) rfl pkZ (by kernel_rfl) ?_)
      | (refine wpList_store_row rfl _ _ _ rfl w.heap.size pkZ rfl rfl 35 _ RS4.out (by rw[HZ.out];exact q5nr) rfl PZ.out ?_))
     exact q8iy (cs:=pkZ) rfl rfl rfl rfl Tryz.underlying35 rfl (by rw[HZ.out];exact q5nr) (setRow_heap _ _ _ _ _ _ RS4.out) RT.out
   ·have hr:R=(Pk.zero,f):=by rw[←HR.out];simp[hf0]
    subst hr
    have q1:((f:Int)==0)=false:=by simp;omega
    have q2:((f:Int) != 0)=true:=by simp;omega
    have RS4:=Lib.hid S3.out.rs
    have RT:=Lib.hid (RZ.out f _ S3.out.low)
    clear hf0
    go_wp2_with (first
     | (refine wpList_store_row rfl _ _ _ rfl W2.heap.size D rfl rfl 35 _ (heap_alloc_new W2 _) (by rw[HD1.out];exact q5nr) (by rw[HZ.out,HD1.out]) HD2.out ?_)
     | (refine wpList_buildTo rfl 35 _ rfl (some _) rfl pkZ (by kernel_rfl) ?_)
     | (refine wpList_store_row rfl _ _ _ rfl w.heap.size pkZ rfl rfl 35 _ RS4.out (by rw[HZ.out];exact q5nr) rfl PZ.out ?_))
    exact q8iy (cs:=pkZ) rfl rfl rfl rfl Tryz.underlying35 rfl (by rw[HZ.out];exact q5nr) (setRow_heap _ _ _ _ _ _ RS4.out) RT.out
 ·rw[if_pos hq]
  have q1:((q0:Int)==0)=false:=by simp;omega
  have q2:((q0:Int) != 0)=true:=by simp;omega
  clear hq hm hk0 hk1
  go_enter Tryz.func8,Tryz.ntmps8
  go_wp2_with fail
  refine(TA.out _).mono ?_
  rintro e W ⟨rfl,hb⟩
  have S1:=Lib.hid (ST.out _ _ S0.out hb)
  clear hb S0
  go_wp2_with (first
   | (refine wpList_buildTo rfl 35 _ rfl (some _) rfl pkZ (by kernel_rfl) ?_)
   | (refine wpList_store_row rfl _ _ _ rfl w.heap.size pkZ rfl rfl 35 _ S1.out.2 (by rw[HZ.out];exact q5nr) rfl PZ.out ?_))
  refine q8iy (cs:=pkZ) rfl rfl rfl rfl Tryz.underlying35 rfl (by rw[HZ.out];exact q5nr) (setRow_heap _ _ _ _ _ _ S1.out.2) ?_
  exact RZ.out q0 _ S1.out.1
end Go.Proofs.YtbklidpadffpgaaGreat
