/- The contracts of ustring.Bad and Valid. Condition: the string is no longer than an int says. -/
import Derived.Test.YtbklidpadffpgaaK37
set_option maxRecDepth 100000
set_option maxHeartbeats 2000000
namespace Go.Proofs.Ytbklidpadffpgaa
open Go.RowKit
attribute [local go_sem] Oper.semAt_some
theorem qcg7(cs:List Nat):∀(q:Nat) (p:Nat×Nat),p∈marks q cs→p.2∈cs∧p.1+(cb p.2).length≤q+(cbs cs).length:=by
 induction cs with
 | nil=>intro q p h;simp[marks] at h
 | cons c cs ih=>
  intro q p h
  rw[marks,List.mem_cons] at h
  rw[q7su,List.length_append]
  rcases h with rfl | h
  ·exact⟨List.mem_cons_self ..,by simp⟩
  ·obtain⟨h1,h2⟩:=ih _ _ h
   exact⟨List.mem_cons_of_mem _ h1,by omega⟩
theorem qgag{l:List UInt8}(x:Mk l):okc x.1.2∧x.1.1+(cb x.1.2).length≤l.length:=by
 obtain⟨h1,h2⟩:=qcg7 _ _ _ x.2
 exact⟨qiv7 l _ h1,by have:=q1um l;unfold fin at this;omega⟩
def endL(ps:List (Nat×Nat)):Nat:=ps.foldl (fun _ p=>p.1+(cb p.2).length) 0
theorem qd6g(ps:List (Nat×Nat))(p:Nat×Nat):endL (ps++[p])=p.1+(cb p.2).length:=by simp[endL]
theorem qova(cs:List Nat):endL (marks 0 cs)=(cbs cs).length:=by
 rcases List.eq_nil_or_concat cs with rfl | ⟨a,c,rfl⟩
 ·rfl
 ·rw[List.concat_eq_append,qwxc,qd6g,q6ts,List.length_append]
theorem qykm(s:ByteArray)(w:World)(hs:s.size≤9223372036854775807) :
 Calls Try.prog 79 #[.string s] w fun e w'=>e = .returned (.int .i64 (qpht s.data.toList))∧Below w.heap.size w w':=by
 refine(callsIn_wide (n:=5)).1 ?_
 refine callsIn_of_wp_marks Try.func79 rfl trivial ?_ rfl
 simp only[Try.ntmps79,List.size_toArray,List.length_cons,List.length_nil,Nat.reduceAdd,Nat.reduceSub,Array.replicate_succ,Array.replicate_zero,List.push_toArray,List.append_toArray,List.nil_append,List.cons_append]
 gi_wp2_with (refine⟨trivial,?_⟩;gi_at_call 82;refine(callsIn_wide.2 (q9zu s _)).mono ?_;rintro e w' ⟨rfl,rfl⟩)
 have bS:=Boxed.new w 3 (.int .i64 0)
 have bN:=Boxed.new (w.alloc (.cells #[.int .i64 0] 3)) 9 (.string s)
 rw[World.size_alloc] at bN
 have hB0:Below w.heap.size w ((w.alloc (.cells #[.int .i64 0] 3)).alloc (.cells #[.string s] 9)):=((Below.refl _ w).alloc (Nat.le_refl _) _).alloc (by simp) _
 refine wpIn_rangeFunc_ownG rfl (by omega) (gf:=85) (lb:=#[.pointer (some ⟨w.heap.size+1,0,none⟩)]) rfl trivial (enters_of Try.func85 (by kernel_rfl) rfl)
  (qfha _ (by omega) (w.heap.size+1) s hs _ bN) qdke (q0v9 (by simp)) (Below.refl _ _) (fun _=>rfl)
  (fun pre W=>(W.cell? ⟨w.heap.size,0,none⟩=some (.int .i64 ((endL (pre.map (·.1)):Nat):Int))∧W.frozen? ⟨w.heap.size,0,none⟩=false)∧Below w.heap.size w W)
  (fun _ _ _=>False)
  (OwnFrom.and (Own.from (fun s A B row hs hg hr=>⟨cell_kept hs.1 hg hr,(frozen_kept hs.1 hg hr).trans hs.2⟩) _) (ownFrom_below (Nat.le_refl _) (by simp;omega)))
  (fun _ _ _ _ _ hs _ _=>hs)
  ⟨⟨(bS.alloc _).cell,(bS.alloc _).frozen⟩,hB0⟩
  (fun x=>{tmps:=#[.string s,undef,.int .i64 0,.pointer (some ⟨w.heap.size,0,none⟩),.int .i64 (x.1.1:Int),.int .i32 (x.1.2:Int),.string s,.func (.func 85) #[] #[.pointer (some ⟨w.heap.size+1,0,none⟩)],.int .i64 (x.1.1:Int),.int .i32 (x.1.2:Int),undef,undef,undef,undef,undef,undef,undef,undef,undef],defers:=[]}) ?assign ?body ?done ?stop
 case assign=>
  intro l x W K hK
  dsimp only[encM]
  gi_wp2
  exact hK
 case body=>
  rintro l pre x W ⟨⟨hc,hf⟩,hB⟩ _
  obtain⟨ho,hle⟩:=qgag x
  have hend:endL ((pre++[x]).map (·.1))=x.1.1+(cb x.1.2).length:=by rw[List.map_append];exact qd6g _ _
  have hrl:=q6d9 x.1.2 W ho
  obtain⟨a,ha⟩:∃a,x.1.1=a:=⟨_,rfl⟩
  obtain⟨c,hcc⟩:∃c,x.1.2=c:=⟨_,rfl⟩
  obtain⟨k,hk⟩:∃k,(cb x.1.2).length=k:=⟨_,rfl⟩
  rw[hk] at hrl hend hle
  rw[ha] at hend hle ⊢
  rw[hcc] at hrl ⊢
  rw[←q4ad] at hle
  have hend:=Lib.hid hend
  have hrl:=Lib.hid hrl
  have hsum:IntKind.i64.wrap ((a:Int)+(k:Int))=((a+k:Nat):Int):=by simp only[IntKind.wrap_i64];omega
  clear ha hcc hk ho
  gi_wp2_with (refine⟨trivial,?_⟩;gi_at_call 83;refine(CallsIn.inRound l (callsIn_wide.2 hrl.out)).mono ?_;rintro e w' ⟨rfl,rfl⟩)
  exact⟨(KeepsOthers.setCell _ _ _).from _,qx40 W _ 0 _ (by omega),⟨by rw[hend.out,Int.natCast_add];exact World.cell?_setCell_same' _ _ _ (by rw[hc];rfl),by rw[World.frozen?_setCell];exact hf⟩,hB.setCell (p:=⟨w.heap.size,0,none⟩) (Nat.le_refl _) _⟩
 case done=>
  rintro D ys W hD hys ⟨⟨hc,_⟩,hB⟩ hK
  rw[hys,qova] at hc
  have hfin:qpht s.data.toList=if ((cbs (pts s.data.toList)).length:Int) < (s.size:Int) then((cbs (pts s.data.toList)).length:Int) else -1:=by
   unfold qpht fin
   rw[q4ad]
   split<;>split<;>first | rfl | omega
  obtain⟨q,hq⟩:∃q,(cbs (pts s.data.toList)).length=q:=⟨_,rfl⟩
  rw[hq] at hc hfin
  by_cases hlt:(q:Int) < (s.size:Int)
  ·rw[if_pos hlt] at hfin
   have hfin2:=Lib.hid hfin
   clear hfin hq hys bS bN hB0
   gi_wp2
   refine⟨by simp,.inl ⟨_,_,rfl,run_takeDeferred hK,?_⟩⟩
   exact⟨_,results_tmp rfl _ _ _,by rw[hfin2.out];rfl,hB.trans (belowK_b (w:=w) (Nat.le_refl _) W D _ _ (by simp at hD;omega) hK rfl rfl)⟩
  ·rw[if_neg hlt] at hfin
   have hfin2:=Lib.hid hfin
   clear hfin hq hys bS bN hB0
   gi_wp2
   refine⟨by simp,.inl ⟨_,_,rfl,run_takeDeferred hK,?_⟩⟩
   exact⟨_,results_tmp rfl _ _ _,by rw[hfin2.out];rfl,hB.trans (belowK_b (w:=w) (Nat.le_refl _) W D _ _ (by simp at hD;omega) hK rfl rfl)⟩
 case stop=>
  rintro D c pre W _ _ h _
  exact h.elim
theorem qkls(s:ByteArray)(w:World)(hs:s.size≤9223372036854775807) :
 Calls Try.prog 77 #[.string s] w fun e w'=>e = .returned (.bool (qecx s.data.toList))∧Below w.heap.size w w':=by
 have hb:=Lib.hid (qykm s w hs)
 by_cases h1:s.size≤65535
 ·have hv:qecx s.data.toList=decide (qpht s.data.toList < 0):=by
   unfold qecx
   rw[←q4ad]
   simp[h1]
  obtain⟨z,hz⟩:∃z,qpht s.data.toList=z:=⟨_,rfl⟩
  rw[hz] at hv hb
  have hv:=Lib.hid hv
  go_enter Try.func77,Try.ntmps77
  go_wp2_with fail
  refine(hb.out).mono ?_
  rintro e w' ⟨rfl,hb'⟩
  go_wp2_with fail
  go_ret
  exact⟨by rw[hv.out];rfl,hb'⟩
 ·have hv:qecx s.data.toList=false:=by
   unfold qecx
   rw[←q4ad]
   simp;omega
  have h2:65535 < s.size:=by omega
  clear h1
  rw[hv]
  go_enter Try.func77,Try.ntmps77
  go_wp2_with fail
  go_ret
  exact⟨rfl,Below.refl _ _⟩
end Go.Proofs.Ytbklidpadffpgaa
