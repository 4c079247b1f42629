/- The sets of reason codes: (set).and, of, codes, (set).has, May. Condition: codes below 256. -/
import Derived.Below
import Derived.Lib.Hide
import Derived.StillTailTactics
import Derived.Deep.LoopGhost
import Derived.Test.YtbklidpadffpgaaGreatRows
import Derived.Test.YtbklidpadffpgaaGreatK03
import Derived.Test.YtbklidpadffpgaaGreatK10
set_option maxRecDepth 100000
set_option maxHeartbeats 1000000
namespace Go.Proofs.YtbklidpadffpgaaGreat
open Go.RowKit
def V4(s:W4):Value := .agg #[.int .u64 s.a,.int .u64 s.b,.int .u64 s.c,.int .u64 s.d]
def C4(s:W4):Array Value:=#[.int .u64 s.a,.int .u64 s.b,.int .u64 s.c,.int .u64 s.d]
theorem qikd{x m:Nat}(hm:m < 64)(hx:x < 18446744073709551616):bits .or .u64 (x:Int) (IntKind.u64.wrap (2^m))=((x ||| 2^m:Nat):Int):=by
 have h2:2^m < 18446744073709551616:=Nat.pow_lt_pow_right (n:=64) (by decide) hm
 have e:IntKind.u64.wrap (2^m)=((2^m:Nat):Int):=by
  have:((2:Int)^m)=((2^m:Nat):Int):=by simp
  rw[this]
  generalize 2^m=y at *
  simp only[IntKind.wrap_u64];omega
 rw[e,bits_or_u64_nat _ _ hx h2]
theorem q4jf:(Tryz.prog.info? 129).map (·.size)=some 4:=by kernel_rfl
theorem qc5m{fn:Func}{R:Ending→World→Prop}{a:Act}{W:World}{p:Tmp}{B:Nat}{cs:Array Value}(h:fn.results=#[.cell p 129])(hp:a.tmps.getD p undef = .pointer (some ⟨B,0,none⟩))(hd:a.defers=[])(hcs:cs.size=4)
 (hg:W.heap[B]? = some (.cells cs 129 (0,0))) (hR:R (.returned (.agg cs)) W):bodyPost Tryz.prog fn R .ret a W:=
 bodyPost_ret (results_cell_row h a.tmps W B 129 cs (0,0) _ hp hg Tryz.underlying129 rfl (by rw[hcs];kernel_rfl)) hd hR
theorem q6i6{w W:World}{B k:Nat}(h:Below B w W)(hB:B≤k)(cs:Array Value):Below B w (W.setRow k cs):=
 ⟨h.os,h.tape,h.output,by have:=h.size;simpa [World.setRow] using this,fun m hm=>(setRow_other _ _ _ _ (by omega)).trans (h.block m hm)⟩
structure SetAt(w:World)(f:Nat)(s:W4)(k:Nat)(wx:World):Prop where
 low:Below w.heap.size w wx
 set:wx.heap[w.heap.size]? = some (.cells (C4 (addR s f k)) 129 (0,0))
 out:wx.heap[w.heap.size+1]? = some (.cells #[.int .u64 0,.int .u64 0,.int .u64 0,.int .u64 0] 129 (0,0))
theorem SetAt.next{w W:World}{f k:Nat}{s:W4}(h:SetAt w f s k W)(j:Nat)(v:Value)(he:C4 (addR s f (k+1))=(C4 (addR s f k)).setIfInBounds j v):SetAt w f s (k+1) (W.drew.setCell ⟨w.heap.size,j,none⟩ v):=
 ⟨h.low.drew.setCell (Nat.le_refl _) _,by rw[he];exact qlvy (w:=W.drew) h.set j v,(heap_setCell_other _ _ _ _ (by simp)).trans h.out⟩
theorem qi6f(s:W4)(f n:Nat)(l:Int)(hs:OkW s)(hl:l+1=((f+n:Nat):Int))(hb:f+n≤256)(w:World) :
 Calls Tryz.prog 119 #[V4 s,.int .i64 f,.int .i64 l] w fun e w'=>e = .returned (V4 (addR s f n))∧Below w.heap.size w w':=by
 have HO:=Lib.hid (fun k=>hs.addR f k)
 have HL:=Lib.hid hl
 have h0:(0:Int)≤l+1:=by omega
 have h1:l+1≤256:=by omega
 have h2:(f:Int)≤256:=by omega
 have B0:=Lib.hid (show SetAt w f s 0 ((w.alloc (.cells (C4 s) 129)).alloc (.cells #[.int .u64 0,.int .u64 0,.int .u64 0,.int .u64 0] 129)) from
  ⟨(
   (Below.refl _ _).alloc (Nat.le_refl _) _).alloc (by simp) _,(heap_alloc_old _ _ (by simp)).trans (heap_alloc_new w _),by
   have:=heap_alloc_new (w.alloc (.cells (C4 s) 129)) (.cells #[.int .u64 0,.int .u64 0,.int .u64 0,.int .u64 0] 129)
   rw[World.size_alloc] at this
   exact this⟩)
 clear hs hl
 unfold V4
 unfold C4 at B0
 go_enter Tryz.func119,Tryz.ntmps119
 go_wp2_with fail
 generalize (w.alloc (.cells #[.int .u64 s.a,.int .u64 s.b,.int .u64 s.c,.int .u64 s.d] 129)).alloc (.cells #[.int .u64 0,.int .u64 0,.int .u64 0,.int .u64 0] 129)=w0 at *
 go_loopg [7] n (fun gk s7 wx=>∃k:Nat,k≤n∧gk=n - k∧s7 = .int .i64 ((f+k:Nat):Int)∧SetAt w f s k wx)
 case atStart=>exact⟨0,Nat.zero_le _,rfl,rfl,B0.out⟩
 case round=>
  obtain⟨k,hk,rfl,rfl,hS⟩:=hrel
  by_cases hlt:k < n
  ·have hok:=HO.out k
   have hset:=hS.set
   have HS:=Lib.hid hS
   have HK:=Lib.hid hlt
   have nx:addR s f (k+1)=setc (addR s f k) (f+k):=rfl
   have hc:((f+k:Nat):Int)≤l:=by have:=HL.out;omega
   have hc1:f+k < 256:=by omega
   obtain⟨t,HT0⟩:∃t,addR s f k=t:=⟨_,rfl⟩
   rw[HT0] at nx hok hset
   have HT:=Lib.hid HT0
   clear HT0
   obtain⟨c,HC0⟩:∃c,f+k=c:=⟨_,rfl⟩
   rw[HC0] at nx hc hc1 ⊢
   have HC:=Lib.hid HC0
   clear HC0
   unfold C4 at hset
   have hm:c%64 < 64:=Nat.mod_lt _ (by decide)
   have c0:=cell_of_row _ w.heap.size 0 _ _ _ hset
   have c1:=cell_of_row _ w.heap.size 1 _ _ _ hset
   have c2:=cell_of_row _ w.heap.size 2 _ _ _ hset
   have c3:=cell_of_row _ w.heap.size 3 _ _ _ hset
   obtain⟨m,hmm⟩:∃m,c%64=m:=⟨_,rfl⟩
   have e2:(c:Int)%64=(m:Int):=by omega
   rw[hmm] at hm
   have hset0:wr.drew.heap[w.heap.size]? = some (.cells #[.int .u64 t.a,.int .u64 t.b,.int .u64 t.c,.int .u64 t.d] 129 (0,0)):=hset
   clear hset HL
   by_cases q0:c < 64
   ·have e1:(c:Int) / 64=0:=by omega
    have hx:setc t c={t with a:=t.a ||| 2^m}:=by unfold setc;rw[if_pos q0,hmm]
    have e3:=qikd hm hok.a
    have w1:IntKind.i64.wrap 0=0:=rfl
    have w2:IntKind.i64.wrap (m:Int)=(m:Int):=IntWalk.i64_in _ (by omega)
    have m0:(0:Int)≤(m:Int):=by omega
    have m1:(m:Int) < 64:=by omega
    have e4:(c:Int).tmod 64=(m:Int):=by rw[←e2];exact Int.tmod_eq_emod_of_nonneg (by omega)
    have e5:(c:Int).tdiv 64=0:=by rw[←e1];exact Int.tdiv_eq_ediv_of_nonneg (by omega)
    have HN:=Lib.hid (HS.out.next 0 (.int .u64 ((t.a ||| 2^m:Nat):Int)) (by rw[nx,hx,HT.out];rfl))
    clear nx hx
    go_wp2_with fail
    go_still_tail 9,(by kernel_rfl)
    change wpList _ _ _ _ _ wr.drew
    have f0:wr.drew.frozen? ⟨w.heap.size,0,none⟩=false:=frozen_of_row _ _ _ _ _ hset0
    have d0:=cell_of_row wr.drew w.heap.size 0 _ _ _ hset0
    clear e1 e2 e3 e4 e5 w1 w2 m0 m1 c0 c1 c2 c3 hset0 hok
    go_wp2_with fail
    go_roundg (n - (k+1))
    case measure=>have:=HK.out;omega
    case rel=>exact⟨k+1,HK.out,rfl,by rw[show f+(k+1)=c+1 by have:=HC.out;omega];go_num,HN.out⟩
   by_cases q1:c < 128
   ·have e1:(c:Int) / 64=1:=by omega
    have hx:setc t c={t with b:=t.b ||| 2^m}:=by unfold setc;rw[if_neg q0,if_pos q1,hmm]
    have e3:=qikd hm hok.b
    have w1:IntKind.i64.wrap 1=1:=rfl
    have w2:IntKind.i64.wrap (m:Int)=(m:Int):=IntWalk.i64_in _ (by omega)
    have m0:(0:Int)≤(m:Int):=by omega
    have m1:(m:Int) < 64:=by omega
    have e4:(c:Int).tmod 64=(m:Int):=by rw[←e2];exact Int.tmod_eq_emod_of_nonneg (by omega)
    have e5:(c:Int).tdiv 64=1:=by rw[←e1];exact Int.tdiv_eq_ediv_of_nonneg (by omega)
    have HN:=Lib.hid (HS.out.next 1 (.int .u64 ((t.b ||| 2^m:Nat):Int)) (by rw[nx,hx,HT.out];rfl))
    clear nx hx
    go_wp2_with fail
    go_still_tail 9,(by kernel_rfl)
    change wpList _ _ _ _ _ wr.drew
    have f0:wr.drew.frozen? ⟨w.heap.size,1,none⟩=false:=frozen_of_row _ _ _ _ _ hset0
    have d0:=cell_of_row wr.drew w.heap.size 1 _ _ _ hset0
    clear e1 e2 e3 e4 e5 w1 w2 m0 m1 c0 c1 c2 c3 hset0 hok
    go_wp2_with fail
    go_roundg (n - (k+1))
    case measure=>have:=HK.out;omega
    case rel=>exact⟨k+1,HK.out,rfl,by rw[show f+(k+1)=c+1 by have:=HC.out;omega];go_num,HN.out⟩
   by_cases q2:c < 192
   ·have e1:(c:Int) / 64=2:=by omega
    have hx:setc t c={t with c:=t.c ||| 2^m}:=by unfold setc;rw[if_neg q0,if_neg q1,if_pos q2,hmm]
    have e3:=qikd hm hok.c
    have w1:IntKind.i64.wrap 2=2:=rfl
    have w2:IntKind.i64.wrap (m:Int)=(m:Int):=IntWalk.i64_in _ (by omega)
    have m0:(0:Int)≤(m:Int):=by omega
    have m1:(m:Int) < 64:=by omega
    have e4:(c:Int).tmod 64=(m:Int):=by rw[←e2];exact Int.tmod_eq_emod_of_nonneg (by omega)
    have e5:(c:Int).tdiv 64=2:=by rw[←e1];exact Int.tdiv_eq_ediv_of_nonneg (by omega)
    have HN:=Lib.hid (HS.out.next 2 (.int .u64 ((t.c ||| 2^m:Nat):Int)) (by rw[nx,hx,HT.out];rfl))
    clear nx hx
    go_wp2_with fail
    go_still_tail 9,(by kernel_rfl)
    change wpList _ _ _ _ _ wr.drew
    have f0:wr.drew.frozen? ⟨w.heap.size,2,none⟩=false:=frozen_of_row _ _ _ _ _ hset0
    have d0:=cell_of_row wr.drew w.heap.size 2 _ _ _ hset0
    clear e1 e2 e3 e4 e5 w1 w2 m0 m1 c0 c1 c2 c3 hset0 hok
    go_wp2_with fail
    go_roundg (n - (k+1))
    case measure=>have:=HK.out;omega
    case rel=>exact⟨k+1,HK.out,rfl,by rw[show f+(k+1)=c+1 by have:=HC.out;omega];go_num,HN.out⟩
   ·have e1:(c:Int) / 64=3:=by omega
    have hx:setc t c={t with d:=t.d ||| 2^m}:=by unfold setc;rw[if_neg q0,if_neg q1,if_neg q2,hmm]
    have e3:=qikd hm hok.d
    have w1:IntKind.i64.wrap 3=3:=rfl
    have w2:IntKind.i64.wrap (m:Int)=(m:Int):=IntWalk.i64_in _ (by omega)
    have m0:(0:Int)≤(m:Int):=by omega
    have m1:(m:Int) < 64:=by omega
    have e4:(c:Int).tmod 64=(m:Int):=by rw[←e2];exact Int.tmod_eq_emod_of_nonneg (by omega)
    have e5:(c:Int).tdiv 64=3:=by rw[←e1];exact Int.tdiv_eq_ediv_of_nonneg (by omega)
    have HN:=Lib.hid (HS.out.next 3 (.int .u64 ((t.d ||| 2^m:Nat):Int)) (by rw[nx,hx,HT.out];rfl))
    clear nx hx
    go_wp2_with fail
    go_still_tail 9,(by kernel_rfl)
    change wpList _ _ _ _ _ wr.drew
    have f0:wr.drew.frozen? ⟨w.heap.size,3,none⟩=false:=frozen_of_row _ _ _ _ _ hset0
    have d0:=cell_of_row wr.drew w.heap.size 3 _ _ _ hset0
    clear e1 e2 e3 e4 e5 w1 w2 m0 m1 c0 c1 c2 c3 hset0 hok
    go_wp2_with fail
    go_roundg (n - (k+1))
    case measure=>have:=HK.out;omega
    case rel=>exact⟨k+1,HK.out,rfl,by rw[show f+(k+1)=c+1 by have:=HC.out;omega];go_num,HN.out⟩
  ·obtain rfl:k=n:=by omega
   have hS0:=Lib.hid hS
   have hset:=hS.set
   have hout:=hS.out
   have hgt:l < ((f+k:Nat):Int):=by have:=HL.out;omega
   obtain⟨t,HT0⟩:∃t,addR s f k=t:=⟨_,rfl⟩
   rw[HT0] at hset
   have HT:=Lib.hid HT0
   clear HT0
   generalize f+k=c at *
   unfold C4 at hset
   have LW:=Lib.hid (q6i6 hS.low (show w.heap.size≤w.heap.size+1 by omega) (C4 t))
   clear hS
   go_wp2_with (first
    | (refine wpList_load_row rfl _ _ rfl w.heap.size rfl 129 _ (0,0) _ hset Tryz.underlying129 rfl q4jf ?_)
    | (refine wpList_store_row rfl _ _ _ rfl (w.heap.size+1) _ rfl rfl 129 _ hout q4jf rfl (by simp[Value.oneCell']) ?_))
   exact qc5m rfl rfl rfl rfl (setRow_heap _ _ _ _ _ _ hout) ⟨by rw[HT.out],LW.out⟩
structure OfAt(w:World)(l:List Nat)(wx:World):Prop where
 low:Below w.heap.size w wx
 out:wx.heap[w.heap.size]? = some (.cells #[.int .u64 0,.int .u64 0,.int .u64 0,.int .u64 0] 129 (0,0))
 set:wx.heap[w.heap.size+1]? = some (.cells (C4 (ofL l)) 129 (0,0))
theorem qma4(l:List Nat)(n:Nat):ofL (l++[n])=addR (ofL l) n 1:=by
 unfold ofL addR addR
 rw[List.foldl_append];rfl
theorem qzke(b:Nat)(l:List Nat)(n c:Nat)(w:World)(hn:l.length=n)(hm:n≤100)(hl:∀x∈l,x < 256)(hc:∀(i x:Nat),l[i]? = some x→w.cell? ⟨b,i,none⟩=some (.int .i64 (x:Int)))(hb:b < w.heap.size) :
 Calls Tryz.prog 118 #[.slice (some ⟨b,0,none⟩) n c] w fun e w'=>e = .returned (V4 (ofL l))∧Below w.heap.size w w':=by
 have HC:=Lib.hid hc
 have HN:=Lib.hid hn
 have HL:=Lib.hid hl
 have HB:=Lib.hid hb
 have n1:(n:Int)≤100:=by omega
 have B0:=Lib.hid (show OfAt w (l.take 0) ((w.alloc (.cells #[.int .u64 0,.int .u64 0,.int .u64 0,.int .u64 0] 129)).alloc (.cells #[.int .u64 0,.int .u64 0,.int .u64 0,.int .u64 0] 129)) from
  ⟨(
   (Below.refl _ _).alloc (Nat.le_refl _) _).alloc (by simp) _,(heap_alloc_old _ _ (by simp)).trans (heap_alloc_new w _),by
   have:=heap_alloc_new (w.alloc (.cells #[.int .u64 0,.int .u64 0,.int .u64 0,.int .u64 0] 129)) (.cells #[.int .u64 0,.int .u64 0,.int .u64 0,.int .u64 0] 129)
   rw[World.size_alloc] at this
   exact this⟩)
 clear hc hn hl hb
 go_enter Tryz.func118,Tryz.ntmps118
 go_wp2_with fail
 generalize (w.alloc (.cells #[.int .u64 0,.int .u64 0,.int .u64 0,.int .u64 0] 129)).alloc (.cells #[.int .u64 0,.int .u64 0,.int .u64 0,.int .u64 0] 129)=w0 at *
 go_loopg [5,8] n (fun gk _ s8 wx=>∃k:Nat,k≤n∧gk=n - k∧s8 = .int .i64 (k:Int)∧OfAt w (l.take k) wx)
 case atStart=>exact⟨0,Nat.zero_le _,rfl,rfl,B0.out⟩
 case round=>
  obtain⟨k,hk,rfl,rfl,hS⟩:=hrel
  by_cases hlt:k < n
  ·have HK:=Lib.hid hlt
   have hkl:k < l.length:=by rw[HN.out];exact hlt
   obtain⟨x,hx⟩:∃x,l[k]? = some x:=⟨_,List.getElem?_eq_getElem hkl⟩
   have htk:l.take (k+1)=l.take k++[x]:=by rw[List.take_add_one,hx];rfl
   have hx2:=HL.out x (List.mem_of_getElem? hx)
   have hce:wr.cell? ⟨b,k,none⟩=some (.int .i64 (x:Int)):=(hS.low.cell (p:=⟨b,k,none⟩) HB.out).trans (HC.out k x hx)
   have hset:=hS.set
   have NX:=Lib.hid (show ∀wx,Below wr.heap.size wr wx→OfAt w (l.take (k+1)) (wx.setRow (w.heap.size+1) (C4 (addR (ofL (l.take k)) x 1))) from fun wx hb=>
    ⟨q6i6 (hS.low.trans (hb.mono hS.low.size)) (by omega) _,(setRow_other _ _ _ _ (by omega)).trans ((hb.block _ (lt_of_block hS.out)).trans hS.out),by
     rw[htk,qma4]
     exact setRow_heap _ _ _ _ _ _ ((hb.block _ (lt_of_block hS.set)).trans hS.set)⟩)
   have AN:=Lib.hid (fun W=>qi6f (ofL (l.take k)) x 1 (x:Int) (OkW.ofL _) (by omega) (by omega) W)
   have HS:=Lib.hid hS
   obtain⟨t,HT⟩:∃t,ofL (l.take k)=t:=⟨_,rfl⟩
   rw[HT] at hset NX AN
   clear HT hS hkl htk hx2 hx
   go_wp2_with (first
    | (refine wpList_load_row rfl _ _ rfl (w.heap.size+1) rfl 129 _ (0,0) _ hset Tryz.underlying129 rfl q4jf ?_)
    | (go_at_call 119;refine(AN.out _).mono ?_;rintro e wx ⟨rfl,hb⟩;have hsx:=(hb.block _ (lt_of_block hset)).trans hset;have hnx:=Lib.hid (NX.out _ hb);clear hb)
    | (refine wpList_store_row rfl _ _ _ rfl (w.heap.size+1) _ rfl rfl 129 _ hsx q4jf rfl (by simp[Value.oneCell']) ?_))
   go_roundg (n - (k+1))
   case measure=>have:=HK.out;omega
   case rel=>exact⟨k+1,HK.out,rfl,by go_num,hnx.out⟩
  ·obtain rfl:k=n:=by omega
   have e:l.take k=l:=List.take_of_length_le (by rw[HN.out];omega)
   rw[e] at hS
   have hset:=hS.set
   have hout:=hS.out
   have LW:=Lib.hid (q6i6 hS.low (Nat.le_refl w.heap.size) (C4 (ofL l)))
   clear hS e
   unfold C4 at hset
   go_wp2_with (first
    | (refine wpList_load_row rfl _ _ rfl (w.heap.size+1) rfl 129 _ (0,0) _ hset Tryz.underlying129 rfl q4jf ?_)
    | (refine wpList_store_row rfl _ _ _ rfl w.heap.size _ rfl rfl 129 _ hout q4jf rfl (by simp[Value.oneCell']) ?_))
   exact qc5m rfl rfl rfl rfl (setRow_heap _ _ _ _ _ _ hout) ⟨rfl,LW.out⟩
theorem qwxg(W:World)(l:List Nat)(t:TypeId)(cs:Array Value)(h:cs=(l.map fun(x:Nat)=>Value.int .i64 (x:Int)).toArray)(i x:Nat)(hx:l[i]? = some x) :
 (W.alloc (.cells cs t)).cell? ⟨W.heap.size,i,none⟩=some (.int .i64 (x:Int)):=by
 rw[World.cell?_alloc_at _ _ _ _ rfl,h]
 simp[hx]
theorem qn4c(w:World) :
 Calls Tryz.prog 90 #[.int .i64 2] w fun e w'=>e = .returned (V4 (q71c 1))∧Below w.heap.size w w':=by
 have H0:=Lib.hid (heap_alloc_new w (.cells #[.int .u64 0,.int .u64 0,.int .u64 0,.int .u64 0] 129))
 have L0:=Lib.hid (show Below w.heap.size w (w.alloc (.cells #[.int .u64 0,.int .u64 0,.int .u64 0,.int .u64 0] 129)) from(Below.refl _ _).alloc (Nat.le_refl _) _)
 go_enter Tryz.func90,Tryz.ntmps90
 go_wp2_with fail
 refine(qzke (w.heap.size+1) [0,140,144,149,151,159] 6 6 _ rfl (by decide) (by decide) (by have:=qwxg (w.alloc (.cells #[.int .u64 0,.int .u64 0,.int .u64 0,.int .u64 0] 129)) [0,140,144,149,151,159] 3 #[.int .i64 0,.int .i64 140,.int .i64 144,.int .i64 149,.int .i64 151,.int .i64 159] rfl;rw[World.size_alloc] at this;exact this) (by simp)).mono ?_
 rintro e w1 ⟨rfl,hb⟩
 have L1:=Lib.hid ((L0.out.alloc (by simp) (.cells #[.int .i64 0,.int .i64 140,.int .i64 144,.int .i64 149,.int .i64 151,.int .i64 159] 3)).trans (hb.mono (by simp only[World.size_alloc];omega)))
 have H1:=(hb.block _ (by simp only[World.size_alloc];omega)).trans ((heap_alloc_old _ (.cells #[.int .i64 0,.int .i64 140,.int .i64 144,.int .i64 149,.int .i64 151,.int .i64 159] 3) (by simp)).trans H0.out)
 clear hb
 unfold V4 at *
 go_wp2_with fail
 refine(qi6f (ofL [0,140,144,149,151,159]) 128 11 138 (OkW.ofL _) (by decide) (by decide) _).mono ?_
 rintro e w2 ⟨rfl,hb⟩
 have L2:=Lib.hid (L1.out.trans (hb.mono L1.out.size))
 have H2:=(hb.block _ (lt_of_block H1)).trans H1
 clear hb H1
 unfold V4 at *
 go_wp2_with fail
 refine(qi6f (addR (ofL [0,140,144,149,151,159]) 128 11) 153 5 157 ((OkW.ofL _).addR _ _) (by decide) (by decide) _).mono ?_
 rintro e w3 ⟨rfl,hb⟩
 have L3:=Lib.hid (L2.out.trans (hb.mono L2.out.size))
 have H3:=(hb.block _ (lt_of_block H2)).trans H2
 clear hb H2
 have LW:=Lib.hid (q6i6 L3.out (Nat.le_refl w.heap.size) (C4 (addR (addR (ofL [0,140,144,149,151,159]) 128 11) 153 5)))
 unfold V4
 generalize hX:(addR (addR (ofL [0,140,144,149,151,159]) 128 11) 153 5)=X
 rw[hX] at LW
 go_wp2_with (refine wpList_store_row rfl _ _ _ rfl w.heap.size _ rfl rfl 129 _ H3 q4jf rfl (by simp[Value.oneCell']) ?_)
 exact qc5m rfl rfl rfl rfl (setRow_heap _ _ _ _ _ _ H3) ⟨by rw[←hX];rfl,LW.out⟩
theorem qqus(w:World) :
 Calls Tryz.prog 90 #[.int .i64 4] w fun e w'=>e = .returned (V4 (q71c 2))∧Below w.heap.size w w':=by
 have H0:=Lib.hid (heap_alloc_new w (.cells #[.int .u64 0,.int .u64 0,.int .u64 0,.int .u64 0] 129))
 have L0:=Lib.hid (show Below w.heap.size w (w.alloc (.cells #[.int .u64 0,.int .u64 0,.int .u64 0,.int .u64 0] 129)) from(Below.refl _ _).alloc (Nat.le_refl _) _)
 go_enter Tryz.func90,Tryz.ntmps90
 go_wp2_with fail
 refine(qzke (w.heap.size+1) [0,16,128,131,135,144,145,151,153] 9 9 _ rfl (by decide) (by decide) (by have:=qwxg (w.alloc (.cells #[.int .u64 0,.int .u64 0,.int .u64 0,.int .u64 0] 129)) [0,16,128,131,135,144,145,151,153] 3 #[.int .i64 0,.int .i64 16,.int .i64 128,.int .i64 131,.int .i64 135,.int .i64 144,.int .i64 145,.int .i64 151,.int .i64 153] rfl;rw[World.size_alloc] at this;exact this) (by simp)).mono ?_
 rintro e w1 ⟨rfl,hb⟩
 have L1:=Lib.hid ((L0.out.alloc (by simp) (.cells #[.int .i64 0,.int .i64 16,.int .i64 128,.int .i64 131,.int .i64 135,.int .i64 144,.int .i64 145,.int .i64 151,.int .i64 153] 3)).trans (hb.mono (by simp only[World.size_alloc];omega)))
 have H1:=(hb.block _ (by simp only[World.size_alloc];omega)).trans ((heap_alloc_old _ (.cells #[.int .i64 0,.int .i64 16,.int .i64 128,.int .i64 131,.int .i64 135,.int .i64 144,.int .i64 145,.int .i64 151,.int .i64 153] 3) (by simp)).trans H0.out)
 clear hb
 have LW:=Lib.hid (q6i6 L1.out (Nat.le_refl w.heap.size) (C4 (ofL [0,16,128,131,135,144,145,151,153])))
 unfold V4
 generalize hX:(ofL [0,16,128,131,135,144,145,151,153])=X
 rw[hX] at LW
 go_wp2_with (refine wpList_store_row rfl _ _ _ rfl w.heap.size _ rfl rfl 129 _ H1 q4jf rfl (by simp[Value.oneCell']) ?_)
 exact qc5m rfl rfl rfl rfl (setRow_heap _ _ _ _ _ _ H1) ⟨by rw[←hX];rfl,LW.out⟩
theorem qov5(w:World) :
 Calls Tryz.prog 90 #[.int .i64 5] w fun e w'=>e = .returned (V4 (q71c 2))∧Below w.heap.size w w':=by
 have H0:=Lib.hid (heap_alloc_new w (.cells #[.int .u64 0,.int .u64 0,.int .u64 0,.int .u64 0] 129))
 have L0:=Lib.hid (show Below w.heap.size w (w.alloc (.cells #[.int .u64 0,.int .u64 0,.int .u64 0,.int .u64 0] 129)) from(Below.refl _ _).alloc (Nat.le_refl _) _)
 go_enter Tryz.func90,Tryz.ntmps90
 go_wp2_with fail
 refine(qzke (w.heap.size+1) [0,16,128,131,135,144,145,151,153] 9 9 _ rfl (by decide) (by decide) (by have:=qwxg (w.alloc (.cells #[.int .u64 0,.int .u64 0,.int .u64 0,.int .u64 0] 129)) [0,16,128,131,135,144,145,151,153] 3 #[.int .i64 0,.int .i64 16,.int .i64 128,.int .i64 131,.int .i64 135,.int .i64 144,.int .i64 145,.int .i64 151,.int .i64 153] rfl;rw[World.size_alloc] at this;exact this) (by simp)).mono ?_
 rintro e w1 ⟨rfl,hb⟩
 have L1:=Lib.hid ((L0.out.alloc (by simp) (.cells #[.int .i64 0,.int .i64 16,.int .i64 128,.int .i64 131,.int .i64 135,.int .i64 144,.int .i64 145,.int .i64 151,.int .i64 153] 3)).trans (hb.mono (by simp only[World.size_alloc];omega)))
 have H1:=(hb.block _ (by simp only[World.size_alloc];omega)).trans ((heap_alloc_old _ (.cells #[.int .i64 0,.int .i64 16,.int .i64 128,.int .i64 131,.int .i64 135,.int .i64 144,.int .i64 145,.int .i64 151,.int .i64 153] 3) (by simp)).trans H0.out)
 clear hb
 have LW:=Lib.hid (q6i6 L1.out (Nat.le_refl w.heap.size) (C4 (ofL [0,16,128,131,135,144,145,151,153])))
 unfold V4
 generalize hX:(ofL [0,16,128,131,135,144,145,151,153])=X
 rw[hX] at LW
 go_wp2_with (refine wpList_store_row rfl _ _ _ rfl w.heap.size _ rfl rfl 129 _ H1 q4jf rfl (by simp[Value.oneCell']) ?_)
 exact qc5m rfl rfl rfl rfl (setRow_heap _ _ _ _ _ _ H1) ⟨by rw[←hX];rfl,LW.out⟩
theorem qate(w:World) :
 Calls Tryz.prog 90 #[.int .i64 6] w fun e w'=>e = .returned (V4 (q71c 3))∧Below w.heap.size w w':=by
 have H0:=Lib.hid (heap_alloc_new w (.cells #[.int .u64 0,.int .u64 0,.int .u64 0,.int .u64 0] 129))
 have L0:=Lib.hid (show Below w.heap.size w (w.alloc (.cells #[.int .u64 0,.int .u64 0,.int .u64 0,.int .u64 0] 129)) from(Below.refl _ _).alloc (Nat.le_refl _) _)
 go_enter Tryz.func90,Tryz.ntmps90
 go_wp2_with fail
 refine(qzke (w.heap.size+1) [0,146] 2 2 _ rfl (by decide) (by decide) (by have:=qwxg (w.alloc (.cells #[.int .u64 0,.int .u64 0,.int .u64 0,.int .u64 0] 129)) [0,146] 3 #[.int .i64 0,.int .i64 146] rfl;rw[World.size_alloc] at this;exact this) (by simp)).mono ?_
 rintro e w1 ⟨rfl,hb⟩
 have L1:=Lib.hid ((L0.out.alloc (by simp) (.cells #[.int .i64 0,.int .i64 146] 3)).trans (hb.mono (by simp only[World.size_alloc];omega)))
 have H1:=(hb.block _ (by simp only[World.size_alloc];omega)).trans ((heap_alloc_old _ (.cells #[.int .i64 0,.int .i64 146] 3) (by simp)).trans H0.out)
 clear hb
 have LW:=Lib.hid (q6i6 L1.out (Nat.le_refl w.heap.size) (C4 (ofL [0,146])))
 unfold V4
 generalize hX:(ofL [0,146])=X
 rw[hX] at LW
 go_wp2_with (refine wpList_store_row rfl _ _ _ rfl w.heap.size _ rfl rfl 129 _ H1 q4jf rfl (by simp[Value.oneCell']) ?_)
 exact qc5m rfl rfl rfl rfl (setRow_heap _ _ _ _ _ _ H1) ⟨by rw[←hX];rfl,LW.out⟩
theorem qkx7(w:World) :
 Calls Tryz.prog 90 #[.int .i64 7] w fun e w'=>e = .returned (V4 (q71c 3))∧Below w.heap.size w w':=by
 have H0:=Lib.hid (heap_alloc_new w (.cells #[.int .u64 0,.int .u64 0,.int .u64 0,.int .u64 0] 129))
 have L0:=Lib.hid (show Below w.heap.size w (w.alloc (.cells #[.int .u64 0,.int .u64 0,.int .u64 0,.int .u64 0] 129)) from(Below.refl _ _).alloc (Nat.le_refl _) _)
 go_enter Tryz.func90,Tryz.ntmps90
 go_wp2_with fail
 refine(qzke (w.heap.size+1) [0,146] 2 2 _ rfl (by decide) (by decide) (by have:=qwxg (w.alloc (.cells #[.int .u64 0,.int .u64 0,.int .u64 0,.int .u64 0] 129)) [0,146] 3 #[.int .i64 0,.int .i64 146] rfl;rw[World.size_alloc] at this;exact this) (by simp)).mono ?_
 rintro e w1 ⟨rfl,hb⟩
 have L1:=Lib.hid ((L0.out.alloc (by simp) (.cells #[.int .i64 0,.int .i64 146] 3)).trans (hb.mono (by simp only[World.size_alloc];omega)))
 have H1:=(hb.block _ (by simp only[World.size_alloc];omega)).trans ((heap_alloc_old _ (.cells #[.int .i64 0,.int .i64 146] 3) (by simp)).trans H0.out)
 clear hb
 have LW:=Lib.hid (q6i6 L1.out (Nat.le_refl w.heap.size) (C4 (ofL [0,146])))
 unfold V4
 generalize hX:(ofL [0,146])=X
 rw[hX] at LW
 go_wp2_with (refine wpList_store_row rfl _ _ _ rfl w.heap.size _ rfl rfl 129 _ H1 q4jf rfl (by simp[Value.oneCell']) ?_)
 exact qc5m rfl rfl rfl rfl (setRow_heap _ _ _ _ _ _ H1) ⟨by rw[←hX];rfl,LW.out⟩
theorem qnip(w:World) :
 Calls Tryz.prog 90 #[.int .i64 9] w fun e w'=>e = .returned (V4 (q71c 4))∧Below w.heap.size w w':=by
 have H0:=Lib.hid (heap_alloc_new w (.cells #[.int .u64 0,.int .u64 0,.int .u64 0,.int .u64 0] 129))
 have L0:=Lib.hid (show Below w.heap.size w (w.alloc (.cells #[.int .u64 0,.int .u64 0,.int .u64 0,.int .u64 0] 129)) from(Below.refl _ _).alloc (Nat.le_refl _) _)
 go_enter Tryz.func90,Tryz.ntmps90
 go_wp2_with fail
 refine(qzke (w.heap.size+1) [0,1,2,128,131,135,143,145,151,158,161,162] 12 12 _ rfl (by decide) (by decide) (by have:=qwxg (w.alloc (.cells #[.int .u64 0,.int .u64 0,.int .u64 0,.int .u64 0] 129)) [0,1,2,128,131,135,143,145,151,158,161,162] 3 #[.int .i64 0,.int .i64 1,.int .i64 2,.int .i64 128,.int .i64 131,.int .i64 135,.int .i64 143,.int .i64 145,.int .i64 151,.int .i64 158,.int .i64 161,.int .i64 162] rfl;rw[World.size_alloc] at this;exact this) (by simp)).mono ?_
 rintro e w1 ⟨rfl,hb⟩
 have L1:=Lib.hid ((L0.out.alloc (by simp) (.cells #[.int .i64 0,.int .i64 1,.int .i64 2,.int .i64 128,.int .i64 131,.int .i64 135,.int .i64 143,.int .i64 145,.int .i64 151,.int .i64 158,.int .i64 161,.int .i64 162] 3)).trans (hb.mono (by simp only[World.size_alloc];omega)))
 have H1:=(hb.block _ (by simp only[World.size_alloc];omega)).trans ((heap_alloc_old _ (.cells #[.int .i64 0,.int .i64 1,.int .i64 2,.int .i64 128,.int .i64 131,.int .i64 135,.int .i64 143,.int .i64 145,.int .i64 151,.int .i64 158,.int .i64 161,.int .i64 162] 3) (by simp)).trans H0.out)
 clear hb
 have LW:=Lib.hid (q6i6 L1.out (Nat.le_refl w.heap.size) (C4 (ofL [0,1,2,128,131,135,143,145,151,158,161,162])))
 unfold V4
 generalize hX:(ofL [0,1,2,128,131,135,143,145,151,158,161,162])=X
 rw[hX] at LW
 go_wp2_with (refine wpList_store_row rfl _ _ _ rfl w.heap.size _ rfl rfl 129 _ H1 q4jf rfl (by simp[Value.oneCell']) ?_)
 exact qc5m rfl rfl rfl rfl (setRow_heap _ _ _ _ _ _ H1) ⟨by rw[←hX];rfl,LW.out⟩
theorem qz2l(w:World) :
 Calls Tryz.prog 90 #[.int .i64 11] w fun e w'=>e = .returned (V4 (q71c 5))∧Below w.heap.size w w':=by
 have H0:=Lib.hid (heap_alloc_new w (.cells #[.int .u64 0,.int .u64 0,.int .u64 0,.int .u64 0] 129))
 have L0:=Lib.hid (show Below w.heap.size w (w.alloc (.cells #[.int .u64 0,.int .u64 0,.int .u64 0,.int .u64 0] 129)) from(Below.refl _ _).alloc (Nat.le_refl _) _)
 go_enter Tryz.func90,Tryz.ntmps90
 go_wp2_with fail
 refine(qzke (w.heap.size+1) [0,17,128,131,135,143,145] 7 7 _ rfl (by decide) (by decide) (by have:=qwxg (w.alloc (.cells #[.int .u64 0,.int .u64 0,.int .u64 0,.int .u64 0] 129)) [0,17,128,131,135,143,145] 3 #[.int .i64 0,.int .i64 17,.int .i64 128,.int .i64 131,.int .i64 135,.int .i64 143,.int .i64 145] rfl;rw[World.size_alloc] at this;exact this) (by simp)).mono ?_
 rintro e w1 ⟨rfl,hb⟩
 have L1:=Lib.hid ((L0.out.alloc (by simp) (.cells #[.int .i64 0,.int .i64 17,.int .i64 128,.int .i64 131,.int .i64 135,.int .i64 143,.int .i64 145] 3)).trans (hb.mono (by simp only[World.size_alloc];omega)))
 have H1:=(hb.block _ (by simp only[World.size_alloc];omega)).trans ((heap_alloc_old _ (.cells #[.int .i64 0,.int .i64 17,.int .i64 128,.int .i64 131,.int .i64 135,.int .i64 143,.int .i64 145] 3) (by simp)).trans H0.out)
 clear hb
 have LW:=Lib.hid (q6i6 L1.out (Nat.le_refl w.heap.size) (C4 (ofL [0,17,128,131,135,143,145])))
 unfold V4
 generalize hX:(ofL [0,17,128,131,135,143,145])=X
 rw[hX] at LW
 go_wp2_with (refine wpList_store_row rfl _ _ _ rfl w.heap.size _ rfl rfl 129 _ H1 q4jf rfl (by simp[Value.oneCell']) ?_)
 exact qc5m rfl rfl rfl rfl (setRow_heap _ _ _ _ _ _ H1) ⟨by rw[←hX];rfl,LW.out⟩
theorem qk8g(w:World) :
 Calls Tryz.prog 90 #[.int .i64 14] w fun e w'=>e = .returned (V4 (q71c 6))∧Below w.heap.size w w':=by
 have H0:=Lib.hid (heap_alloc_new w (.cells #[.int .u64 0,.int .u64 0,.int .u64 0,.int .u64 0] 129))
 have L0:=Lib.hid (show Below w.heap.size w (w.alloc (.cells #[.int .u64 0,.int .u64 0,.int .u64 0,.int .u64 0] 129)) from(Below.refl _ _).alloc (Nat.le_refl _) _)
 go_enter Tryz.func90,Tryz.ntmps90
 go_wp2_with fail
 refine(qzke (w.heap.size+1) [0,4,135,137,139,141,142,143,144] 9 9 _ rfl (by decide) (by decide) (by have:=qwxg (w.alloc (.cells #[.int .u64 0,.int .u64 0,.int .u64 0,.int .u64 0] 129)) [0,4,135,137,139,141,142,143,144] 3 #[.int .i64 0,.int .i64 4,.int .i64 135,.int .i64 137,.int .i64 139,.int .i64 141,.int .i64 142,.int .i64 143,.int .i64 144] rfl;rw[World.size_alloc] at this;exact this) (by simp)).mono ?_
 rintro e w1 ⟨rfl,hb⟩
 have L1:=Lib.hid ((L0.out.alloc (by simp) (.cells #[.int .i64 0,.int .i64 4,.int .i64 135,.int .i64 137,.int .i64 139,.int .i64 141,.int .i64 142,.int .i64 143,.int .i64 144] 3)).trans (hb.mono (by simp only[World.size_alloc];omega)))
 have H1:=(hb.block _ (by simp only[World.size_alloc];omega)).trans ((heap_alloc_old _ (.cells #[.int .i64 0,.int .i64 4,.int .i64 135,.int .i64 137,.int .i64 139,.int .i64 141,.int .i64 142,.int .i64 143,.int .i64 144] 3) (by simp)).trans H0.out)
 clear hb
 unfold V4 at *
 go_wp2_with fail
 refine(qi6f (ofL [0,4,135,137,139,141,142,143,144]) 128 4 131 (OkW.ofL _) (by decide) (by decide) _).mono ?_
 rintro e w2 ⟨rfl,hb⟩
 have L2:=Lib.hid (L1.out.trans (hb.mono L1.out.size))
 have H2:=(hb.block _ (lt_of_block H1)).trans H1
 clear hb H1
 unfold V4 at *
 go_wp2_with fail
 refine(qi6f (addR (ofL [0,4,135,137,139,141,142,143,144]) 128 4) 147 16 162 ((OkW.ofL _).addR _ _) (by decide) (by decide) _).mono ?_
 rintro e w3 ⟨rfl,hb⟩
 have L3:=Lib.hid (L2.out.trans (hb.mono L2.out.size))
 have H3:=(hb.block _ (lt_of_block H2)).trans H2
 clear hb H2
 have LW:=Lib.hid (q6i6 L3.out (Nat.le_refl w.heap.size) (C4 (addR (addR (ofL [0,4,135,137,139,141,142,143,144]) 128 4) 147 16)))
 unfold V4
 generalize hX:(addR (addR (ofL [0,4,135,137,139,141,142,143,144]) 128 4) 147 16)=X
 rw[hX] at LW
 go_wp2_with (refine wpList_store_row rfl _ _ _ rfl w.heap.size _ rfl rfl 129 _ H3 q4jf rfl (by simp[Value.oneCell']) ?_)
 exact qc5m rfl rfl rfl rfl (setRow_heap _ _ _ _ _ _ H3) ⟨by rw[←hX];rfl,LW.out⟩
theorem qudn(w:World) :
 Calls Tryz.prog 90 #[.int .i64 15] w fun e w'=>e = .returned (V4 (q71c 7))∧Below w.heap.size w w':=by
 have H0:=Lib.hid (heap_alloc_new w (.cells #[.int .u64 0,.int .u64 0,.int .u64 0,.int .u64 0] 129))
 have L0:=Lib.hid (show Below w.heap.size w (w.alloc (.cells #[.int .u64 0,.int .u64 0,.int .u64 0,.int .u64 0] 129)) from(Below.refl _ _).alloc (Nat.le_refl _) _)
 go_enter Tryz.func90,Tryz.ntmps90
 go_wp2_with fail
 refine(qzke (w.heap.size+1) [0,24,25] 3 3 _ rfl (by decide) (by decide) (by have:=qwxg (w.alloc (.cells #[.int .u64 0,.int .u64 0,.int .u64 0,.int .u64 0] 129)) [0,24,25] 3 #[.int .i64 0,.int .i64 24,.int .i64 25] rfl;rw[World.size_alloc] at this;exact this) (by simp)).mono ?_
 rintro e w1 ⟨rfl,hb⟩
 have L1:=Lib.hid ((L0.out.alloc (by simp) (.cells #[.int .i64 0,.int .i64 24,.int .i64 25] 3)).trans (hb.mono (by simp only[World.size_alloc];omega)))
 have H1:=(hb.block _ (by simp only[World.size_alloc];omega)).trans ((heap_alloc_old _ (.cells #[.int .i64 0,.int .i64 24,.int .i64 25] 3) (by simp)).trans H0.out)
 clear hb
 have LW:=Lib.hid (q6i6 L1.out (Nat.le_refl w.heap.size) (C4 (ofL [0,24,25])))
 unfold V4
 generalize hX:(ofL [0,24,25])=X
 rw[hX] at LW
 go_wp2_with (refine wpList_store_row rfl _ _ _ rfl w.heap.size _ rfl rfl 129 _ H1 q4jf rfl (by simp[Value.oneCell']) ?_)
 exact qc5m rfl rfl rfl rfl (setRow_heap _ _ _ _ _ _ H1) ⟨by rw[←hX];rfl,LW.out⟩
theorem qxh9(kind:Int)(w:World)(h:grp kind=0) :
 Calls Tryz.prog 90 #[.int .i64 kind] w fun e w'=>e = .returned (V4 (q71c 0))∧Below w.heap.size w w':=by
 have H0:=heap_alloc_new w (.cells #[.int .u64 0,.int .u64 0,.int .u64 0,.int .u64 0] 129)
 have LW:=Lib.hid (q6i6 (show Below w.heap.size w (w.alloc (.cells #[.int .u64 0,.int .u64 0,.int .u64 0,.int .u64 0] 129)) from(Below.refl _ _).alloc (Nat.le_refl _) _) (Nat.le_refl w.heap.size) #[.int .u64 0,.int .u64 0,.int .u64 0,.int .u64 0])
 unfold grp at h
 have a1:¬kind=2:=fun e=>by subst e;simp at h
 have a4:¬kind=4:=fun e=>by subst e;simp at h
 have a5:¬kind=5:=fun e=>by subst e;simp at h
 have a6:¬kind=6:=fun e=>by subst e;simp at h
 have a7:¬kind=7:=fun e=>by subst e;simp at h
 have a9:¬kind=9:=fun e=>by subst e;simp at h
 have a11:¬kind=11:=fun e=>by subst e;simp at h
 have a14:¬kind=14:=fun e=>by subst e;simp at h
 have a15:¬kind=15:=fun e=>by subst e;simp at h
 clear h
 go_enter Tryz.func90,Tryz.ntmps90
 go_wp2_with (refine wpList_store_row rfl _ _ _ rfl w.heap.size _ rfl rfl 129 _ H0 q4jf rfl (by simp[Value.oneCell']) ?_)
 exact qc5m rfl rfl rfl rfl (setRow_heap _ _ _ _ _ _ H0) ⟨rfl,LW.out⟩
theorem qyq4(kind:Int)(w:World) :
 Calls Tryz.prog 90 #[.int .i64 kind] w fun e w'=>e = .returned (V4 (q71c (grp kind)))∧Below w.heap.size w w':=by
 by_cases k2:kind=2
 ·subst k2;exact qn4c w
 by_cases k4:kind=4
 ·subst k4;exact qqus w
 by_cases k5:kind=5
 ·subst k5;exact qov5 w
 by_cases k6:kind=6
 ·subst k6;exact qate w
 by_cases k7:kind=7
 ·subst k7;exact qkx7 w
 by_cases k9:kind=9
 ·subst k9;exact qnip w
 by_cases k11:kind=11
 ·subst k11;exact qz2l w
 by_cases k14:kind=14
 ·subst k14;exact qk8g w
 by_cases k15:kind=15
 ·subst k15;exact qudn w
 have hg:grp kind=0:=by
  unfold grp
  simp[k2,k4,k5,k6,k7,k9,k11,k14,k15]
 rw[hg]
 exact qxh9 kind w hg
end Go.Proofs.YtbklidpadffpgaaGreat
