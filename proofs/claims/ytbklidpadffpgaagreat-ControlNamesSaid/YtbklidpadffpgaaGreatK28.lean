/- The sets of reason codes: (set).and, of, codes, (set).has, May. Condition: codes below 256. -/
import Derived.Below
import Derived.Lib.Hide
import Derived.StillTailTactics
import Derived.Deep.LoopGhost
import Derived.Test.YtbklidpadffpgaaGreatRows
import Derived.Test.YtbklidpadffpgaaGreatK02
import Derived.Test.YtbklidpadffpgaaGreatK13
set_option maxRecDepth 100000
set_option maxHeartbeats 1000000
namespace Go.Proofs.YtbklidpadffpgaaGreat
open Go.RowKit
def V4(s:W4):Value := .agg #[.int .u64 s.a,.int .u64 s.b,.int .u64 s.c,.int .u64 s.d]
def C4(s:W4):Array Value:=#[.int .u64 s.a,.int .u64 s.b,.int .u64 s.c,.int .u64 s.d]
theorem qikd{x m:Nat}(hm:m < 64)(hx:x < 18446744073709551616):bits .or .u64 (x:Int) (IntKind.u64.wrap (2^m))=((x ||| 2^m:Nat):Int):=by
 have h2:2^m < 18446744073709551616:=Nat.pow_lt_pow_right (n:=64) (by decide) hm
 have e:IntKind.u64.wrap (2^m)=((2^m:Nat):Int):=by
  have:((2:Int)^m)=((2^m:Nat):Int):=by simp
  rw[this]
  generalize 2^m=y at *
  simp only[IntKind.wrap_u64];omega
 rw[e,bits_or_u64_nat _ _ hx h2]
theorem q4jf:(Tryz.prog.info? 129).map (·.size)=some 4:=by kernel_rfl
theorem qc5m{fn:Func}{R:Ending→World→Prop}{a:Act}{W:World}{p:Tmp}{B:Nat}{cs:Array Value}(h:fn.results=#[.cell p 129])(hp:a.tmps.getD p undef = .pointer (some ⟨B,0,none⟩))(hd:a.defers=[])(hcs:cs.size=4)
 (hg:W.heap[B]? = some (.cells cs 129 (0,0))) (hR:R (.returned (.agg cs)) W):bodyPost Tryz.prog fn R .ret a W:=
 bodyPost_ret (results_cell_row h a.tmps W B 129 cs (0,0) _ hp hg Tryz.underlying129 rfl (by rw[hcs];kernel_rfl)) hd hR
theorem q6i6{w W:World}{B k:Nat}(h:Below B w W)(hB:B≤k)(cs:Array Value):Below B w (W.setRow k cs):=
 ⟨h.os,h.tape,h.output,by have:=h.size;simpa [World.setRow] using this,fun m hm=>(setRow_other _ _ _ _ (by omega)).trans (h.block m hm)⟩
structure SetAt(w:World)(f:Nat)(s:W4)(k:Nat)(wx:World):Prop where
 low:Below w.heap.size w wx
 set:wx.heap[w.heap.size]? = some (.cells (C4 (addR s f k)) 129 (0,0))
 out:wx.heap[w.heap.size+1]? = some (.cells #[.int .u64 0,.int .u64 0,.int .u64 0,.int .u64 0] 129 (0,0))
theorem SetAt.next{w W:World}{f k:Nat}{s:W4}(h:SetAt w f s k W)(j:Nat)(v:Value)(he:C4 (addR s f (k+1))=(C4 (addR s f k)).setIfInBounds j v):SetAt w f s (k+1) (W.drew.setCell ⟨w.heap.size,j,none⟩ v):=
 ⟨h.low.drew.setCell (Nat.le_refl _) _,by rw[he];exact qlvy (w:=W.drew) h.set j v,(heap_setCell_other _ _ _ _ (by simp)).trans h.out⟩
theorem qi6f(s:W4)(f n:Nat)(l:Int)(hs:OkW s)(hl:l+1=((f+n:Nat):Int))(hb:f+n≤256)(w:World) :
 Calls Tryz.prog 119 #[V4 s,.int .i64 f,.int .i64 l] w fun e w'=>e = .returned (V4 (addR s f n))∧Below w.heap.size w w':=by
 have HO:=Lib.hid (fun k=>hs.addR f k)
 have HL:=Lib.hid hl
 have h0:(0:Int)≤l+1:=by omega
 have h1:l+1≤256:=by omega
 have h2:(f:Int)≤256:=by omega
 have B0:=Lib.hid (show SetAt w f s 0 ((w.alloc (.cells (C4 s) 129)).alloc (.cells #[.int .u64 0,.int .u64 0,.int .u64 0,.int .u64 0] 129)) from
  ⟨(
   (Below.refl _ _).alloc (Nat.le_refl _) _).alloc (by simp) _,(heap_alloc_old _ _ (by simp)).trans (heap_alloc_new w _),by
   have:=heap_alloc_new (w.alloc (.cells (C4 s) 129)) (.cells #[.int .u64 0,.int .u64 0,.int .u64 0,.int .u64 0] 129)
   rw[World.size_alloc] at this
   exact this⟩)
 clear hs hl
 unfold V4
 unfold C4 at B0
 go_enter Tryz.func119,Tryz.ntmps119
 go_wp2_with fail
 generalize (w.alloc (.cells #[.int .u64 s.a,.int .u64 s.b,.int .u64 s.c,.int .u64 s.d] 129)).alloc (.cells #[.int .u64 0,.int .u64 0,.int .u64 0,.int .u64 0] 129)=w0 at *
 go_loopg [7] n (fun gk s7 wx=>∃k:Nat,k≤n∧gk=n - k∧s7 = .int .i64 ((f+k:Nat):Int)∧SetAt w f s k wx)
 case atStart=>exact⟨0,Nat.zero_le _,rfl,rfl,B0.out⟩
 case round=>
  obtain⟨k,hk,rfl,rfl,hS⟩:=hrel
  by_cases hlt:k < n
  ·have hok:=HO.out k
   have hset:=hS.set
   have HS:=Lib.hid hS
   have HK:=Lib.hid hlt
   have nx:addR s f (k+1)=setc (addR s f k) (f+k):=rfl
   have hc:((f+k:Nat):Int)≤l:=by have:=HL.out;omega
   have hc1:f+k < 256:=by omega
   obtain⟨t,HT0⟩:∃t,addR s f k=t:=⟨_,rfl⟩
   rw[HT0] at nx hok hset
   have HT:=Lib.hid HT0
   clear HT0
   obtain⟨c,HC0⟩:∃c,f+k=c:=⟨_,rfl⟩
   rw[HC0] at nx hc hc1 ⊢
   have HC:=Lib.hid HC0
   clear HC0
   unfold C4 at hset
   have hm:c%64 < 64:=Nat.mod_lt _ (by decide)
   have c0:=cell_of_row _ w.heap.size 0 _ _ _ hset
   have c1:=cell_of_row _ w.heap.size 1 _ _ _ hset
   have c2:=cell_of_row _ w.heap.size 2 _ _ _ hset
   have c3:=cell_of_row _ w.heap.size 3 _ _ _ hset
   obtain⟨m,hmm⟩:∃m,c%64=m:=⟨_,rfl⟩
   have e2:(c:Int)%64=(m:Int):=by omega
   rw[hmm] at hm
   have hset0:wr.drew.heap[w.heap.size]? = some (.cells #[.int .u64 t.a,.int .u64 t.b,.int .u64 t.c,.int .u64 t.d] 129 (0,0)):=hset
   clear hset HL
   by_cases q0:c < 64
   ·have e1:(c:Int) / 64=0:=by omega
    have hx:setc t c={t with a:=t.a ||| 2^m}:=by unfold setc;rw[if_pos q0,hmm]
    have e3:=qikd hm hok.a
    have w1:IntKind.i64.wrap 0=0:=rfl
    have w2:IntKind.i64.wrap (m:Int)=(m:Int):=IntWalk.i64_in _ (by omega)
    have m0:(0:Int)≤(m:Int):=by omega
    have m1:(m:Int) < 64:=by omega
    have e4:(c:Int).tmod 64=(m:Int):=by rw[←e2];exact Int.tmod_eq_emod_of_nonneg (by omega)
    have e5:(c:Int).tdiv 64=0:=by rw[←e1];exact Int.tdiv_eq_ediv_of_nonneg (by omega)
    have HN:=Lib.hid (HS.out.next 0 (.int .u64 ((t.a ||| 2^m:Nat):Int)) (by rw[nx,hx,HT.out];rfl))
    clear nx hx
    go_wp2_with fail
    go_still_tail 9,(by kernel_rfl)
    change wpList _ _ _ _ _ wr.drew
    have f0:wr.drew.frozen? ⟨w.heap.size,0,none⟩=false:=frozen_of_row _ _ _ _ _ hset0
    have d0:=cell_of_row wr.drew w.heap.size 0 _ _ _ hset0
    clear e1 e2 e3 e4 e5 w1 w2 m0 m1 c0 c1 c2 c3 hset0 hok
    go_wp2_with fail
    go_roundg (n - (k+1))
    case measure=>have:=HK.out;omega
    case rel=>exact⟨k+1,HK.out,rfl,by rw[show f+(k+1)=c+1 by have:=HC.out;omega];go_num,HN.out⟩
   by_cases q1:c < 128
   ·have e1:(c:Int) / 64=1:=by omega
    have hx:setc t c={t with b:=t.b ||| 2^m}:=by unfold setc;rw[if_neg q0,if_pos q1,hmm]
    have e3:=qikd hm hok.b
    have w1:IntKind.i64.wrap 1=1:=rfl
    have w2:IntKind.i64.wrap (m:Int)=(m:Int):=IntWalk.i64_in _ (by omega)
    have m0:(0:Int)≤(m:Int):=by omega
    have m1:(m:Int) < 64:=by omega
    have e4:(c:Int).tmod 64=(m:Int):=by rw[←e2];exact Int.tmod_eq_emod_of_nonneg (by omega)
    have e5:(c:Int).tdiv 64=1:=by rw[←e1];exact Int.tdiv_eq_ediv_of_nonneg (by omega)
    have HN:=Lib.hid (HS.out.next 1 (.int .u64 ((t.b ||| 2^m:Nat):Int)) (by rw[nx,hx,HT.out];rfl))
    clear nx hx
    go_wp2_with fail
    go_still_tail 9,(by kernel_rfl)
    change wpList _ _ _ _ _ wr.drew
    have f0:wr.drew.frozen? ⟨w.heap.size,1,none⟩=false:=frozen_of_row _ _ _ _ _ hset0
    have d0:=cell_of_row wr.drew w.heap.size 1 _ _ _ hset0
    clear e1 e2 e3 e4 e5 w1 w2 m0 m1 c0 c1 c2 c3 hset0 hok
    go_wp2_with fail
    go_roundg (n - (k+1))
    case measure=>have:=HK.out;omega
    case rel=>exact⟨k+1,HK.out,rfl,by rw[show f+(k+1)=c+1 by have:=HC.out;omega];go_num,HN.out⟩
   by_cases q2:c < 192
   ·have e1:(c:Int) / 64=2:=by omega
    have hx:setc t c={t with c:=t.c ||| 2^m}:=by unfold setc;rw[if_neg q0,if_neg q1,if_pos q2,hmm]
    have e3:=qikd hm hok.c
    have w1:IntKind.i64.wrap 2=2:=rfl
    have w2:IntKind.i64.wrap (m:Int)=(m:Int):=IntWalk.i64_in _ (by omega)
    have m0:(0:Int)≤(m:Int):=by omega
    have m1:(m:Int) < 64:=by omega
    have e4:(c:Int).tmod 64=(m:Int):=by rw[←e2];exact Int.tmod_eq_emod_of_nonneg (by omega)
    have e5:(c:Int).tdiv 64=2:=by rw[←e1];exact Int.tdiv_eq_ediv_of_nonneg (by omega)
    have HN:=Lib.hid (HS.out.next 2 (.int .u64 ((t.c ||| 2^m:Nat):Int)) (by rw[nx,hx,HT.out];rfl))
    clear nx hx
    go_wp2_with fail
    go_still_tail 9,(by kernel_rfl)
    change wpList _ _ _ _ _ wr.drew
    have f0:wr.drew.frozen? ⟨w.heap.size,2,none⟩=false:=frozen_of_row _ _ _ _ _ hset0
    have d0:=cell_of_row wr.drew w.heap.size 2 _ _ _ hset0
    clear e1 e2 e3 e4 e5 w1 w2 m0 m1 c0 c1 c2 c3 hset0 hok
    go_wp2_with fail
    go_roundg (n - (k+1))
    case measure=>have:=HK.out;omega
    case rel=>exact⟨k+1,HK.out,rfl,by rw[show f+(k+1)=c+1 by have:=HC.out;omega];go_num,HN.out⟩
   ·have e1:(c:Int) / 64=3:=by omega
    have hx:setc t c={t with d:=t.d ||| 2^m}:=by unfold setc;rw[if_neg q0,if_neg q1,if_neg q2,hmm]
    have e3:=qikd hm hok.d
    have w1:IntKind.i64.wrap 3=3:=rfl
    have w2:IntKind.i64.wrap (m:Int)=(m:Int):=IntWalk.i64_in _ (by omega)
    have m0:(0:Int)≤(m:Int):=by omega
    have m1:(m:Int) < 64:=by omega
    have e4:(c:Int).tmod 64=(m:Int):=by rw[←e2];exact Int.tmod_eq_emod_of_nonneg (by omega)
    have e5:(c:Int).tdiv 64=3:=by rw[←e1];exact Int.tdiv_eq_ediv_of_nonneg (by omega)
    have HN:=Lib.hid (HS.out.next 3 (.int .u64 ((t.d ||| 2^m:Nat):Int)) (by rw[nx,hx,HT.out];rfl))
    clear nx hx
    go_wp2_with fail
    go_still_tail 9,(by kernel_rfl)
    change wpList _ _ _ _ _ wr.drew
    have f0:wr.drew.frozen? ⟨w.heap.size,3,none⟩=false:=frozen_of_row _ _ _ _ _ hset0
    have d0:=cell_of_row wr.drew w.heap.size 3 _ _ _ hset0
    clear e1 e2 e3 e4 e5 w1 w2 m0 m1 c0 c1 c2 c3 hset0 hok
    go_wp2_with fail
    go_roundg (n - (k+1))
    case measure=>have:=HK.out;omega
    case rel=>exact⟨k+1,HK.out,rfl,by rw[show f+(k+1)=c+1 by have:=HC.out;omega];go_num,HN.out⟩
  ·obtain rfl:k=n:=by omega
   have hS0:=Lib.hid hS
   have hset:=hS.set
   have hout:=hS.out
   have hgt:l < ((f+k:Nat):Int):=by have:=HL.out;omega
   obtain⟨t,HT0⟩:∃t,addR s f k=t:=⟨_,rfl⟩
   rw[HT0] at hset
   have HT:=Lib.hid HT0
   clear HT0
   generalize f+k=c at *
   unfold C4 at hset
   have LW:=Lib.hid (q6i6 hS.low (show w.heap.size≤w.heap.size+1 by omega) (C4 t))
   clear hS
   go_wp2_with (first
    | (refine wpList_load_row rfl _ _ rfl w.heap.size rfl 129 _ (0,0) _ hset Tryz.underlying129 rfl q4jf ?_)
    | (refine wpList_store_row rfl _ _ _ rfl (w.heap.size+1) _ rfl rfl 129 _ hout q4jf rfl (by simp[Value.oneCell']) ?_))
   exact qc5m rfl rfl rfl rfl (setRow_heap _ _ _ _ _ _ hout) ⟨by rw[HT.out],LW.out⟩
structure OfAt(w:World)(l:List Nat)(wx:World):Prop where
 low:Below w.heap.size w wx
 out:wx.heap[w.heap.size]? = some (.cells #[.int .u64 0,.int .u64 0,.int .u64 0,.int .u64 0] 129 (0,0))
 set:wx.heap[w.heap.size+1]? = some (.cells (C4 (ofL l)) 129 (0,0))
theorem qma4(l:List Nat)(n:Nat):ofL (l++[n])=addR (ofL l) n 1:=by
 unfold ofL addR addR
 rw[List.foldl_append];rfl
theorem qzke(b:Nat)(l:List Nat)(n c:Nat)(w:World)(hn:l.length=n)(hm:n≤100)(hl:∀x∈l,x < 256)(hc:∀(i x:Nat),l[i]? = some x→w.cell? ⟨b,i,none⟩=some (.int .i64 (x:Int)))(hb:b < w.heap.size) :
 Calls Tryz.prog 118 #[.slice (some ⟨b,0,none⟩) n c] w fun e w'=>e = .returned (V4 (ofL l))∧Below w.heap.size w w':=by
 have HC:=Lib.hid hc
 have HN:=Lib.hid hn
 have HL:=Lib.hid hl
 have HB:=Lib.hid hb
 have n1:(n:Int)≤100:=by omega
 have B0:=Lib.hid (show OfAt w (l.take 0) ((w.alloc (.cells #[.int .u64 0,.int .u64 0,.int .u64 0,.int .u64 0] 129)).alloc (.cells #[.int .u64 0,.int .u64 0,.int .u64 0,.int .u64 0] 129)) from
  ⟨(
   (Below.refl _ _).alloc (Nat.le_refl _) _).alloc (by simp) _,(heap_alloc_old _ _ (by simp)).trans (heap_alloc_new w _),by
   have:=heap_alloc_new (w.alloc (.cells #[.int .u64 0,.int .u64 0,.int .u64 0,.int .u64 0] 129)) (.cells #[.int .u64 0,.int .u64 0,.int .u64 0,.int .u64 0] 129)
   rw[World.size_alloc] at this
   exact this⟩)
 clear hc hn hl hb
 go_enter Tryz.func118,Tryz.ntmps118
 go_wp2_with fail
 generalize (w.alloc (.cells #[.int .u64 0,.int .u64 0,.int .u64 0,.int .u64 0] 129)).alloc (.cells #[.int .u64 0,.int .u64 0,.int .u64 0,.int .u64 0] 129)=w0 at *
 go_loopg [5,8] n (fun gk _ s8 wx=>∃k:Nat,k≤n∧gk=n - k∧s8 = .int .i64 (k:Int)∧OfAt w (l.take k) wx)
 case atStart=>exact⟨0,Nat.zero_le _,rfl,rfl,B0.out⟩
 case round=>
  obtain⟨k,hk,rfl,rfl,hS⟩:=hrel
  by_cases hlt:k < n
  ·have HK:=Lib.hid hlt
   have hkl:k < l.length:=by rw[HN.out];exact hlt
   obtain⟨x,hx⟩:∃x,l[k]? = some x:=⟨_,List.getElem?_eq_getElem hkl⟩
   have htk:l.take (k+1)=l.take k++[x]:=by rw[List.take_add_one,hx];rfl
   have hx2:=HL.out x (List.mem_of_getElem? hx)
   have hce:wr.cell? ⟨b,k,none⟩=some (.int .i64 (x:Int)):=(hS.low.cell (p:=⟨b,k,none⟩) HB.out).trans (HC.out k x hx)
   have hset:=hS.set
   have NX:=Lib.hid (show ∀wx,Below wr.heap.size wr wx→OfAt w (l.take (k+1)) (wx.setRow (w.heap.size+1) (C4 (addR (ofL (l.take k)) x 1))) from fun wx hb=>
    ⟨q6i6 (hS.low.trans (hb.mono hS.low.size)) (by omega) _,(setRow_other _ _ _ _ (by omega)).trans ((hb.block _ (lt_of_block hS.out)).trans hS.out),by
     rw[htk,qma4]
     exact setRow_heap _ _ _ _ _ _ ((hb.block _ (lt_of_block hS.set)).trans hS.set)⟩)
   have AN:=Lib.hid (fun W=>qi6f (ofL (l.take k)) x 1 (x:Int) (OkW.ofL _) (by omega) (by omega) W)
   have HS:=Lib.hid hS
   obtain⟨t,HT⟩:∃t,ofL (l.take k)=t:=⟨_,rfl⟩
   rw[HT] at hset NX AN
   clear HT hS hkl htk hx2 hx
   go_wp2_with (first
    | (refine wpList_load_row rfl _ _ rfl (w.heap.size+1) rfl 129 _ (0,0) _ hset Tryz.underlying129 rfl q4jf ?_)
    | (go_at_call 119;refine(AN.out _).mono ?_;rintro e wx ⟨rfl,hb⟩;have hsx:=(hb.block _ (lt_of_block hset)).trans hset;have hnx:=Lib.hid (NX.out _ hb);clear hb)
    | (refine wpList_store_row rfl _ _ _ rfl (w.heap.size+1) _ rfl rfl 129 _ hsx q4jf rfl (by simp[Value.oneCell']) ?_))
   go_roundg (n - (k+1))
   case measure=>have:=HK.out;omega
   case rel=>exact⟨k+1,HK.out,rfl,by go_num,hnx.out⟩
  ·obtain rfl:k=n:=by omega
   have e:l.take k=l:=List.take_of_length_le (by rw[HN.out];omega)
   rw[e] at hS
   have hset:=hS.set
   have hout:=hS.out
   have LW:=Lib.hid (q6i6 hS.low (Nat.le_refl w.heap.size) (C4 (ofL l)))
   clear hS e
   unfold C4 at hset
   go_wp2_with (first
    | (refine wpList_load_row rfl _ _ rfl (w.heap.size+1) rfl 129 _ (0,0) _ hset Tryz.underlying129 rfl q4jf ?_)
    | (refine wpList_store_row rfl _ _ _ rfl w.heap.size _ rfl rfl 129 _ hout q4jf rfl (by simp[Value.oneCell']) ?_))
   exact qc5m rfl rfl rfl rfl (setRow_heap _ _ _ _ _ _ hout) ⟨rfl,LW.out⟩
end Go.Proofs.YtbklidpadffpgaaGreat
