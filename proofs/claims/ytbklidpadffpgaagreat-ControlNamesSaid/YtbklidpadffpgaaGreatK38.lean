/- The contracts of prop's tally: begin, has, add, end. Condition: a kind, an id and lengths are ints. -/
import Derived.Test.YtbklidpadffpgaaGreatK37
import Derived.Test.YtbklidpadffpgaaGreatK12
set_option maxHeartbeats 2000000
set_option maxRecDepth 100000
namespace Go.Proofs.YtbklidpadffpgaaGreat
open Go.RowKit
def q9fj(W:World)(b mb:Nat)(kind:Int)(seen:Nat):Prop:=
 W.heap[b]? = some (.cells #[.int .i64 kind,.map (some mb),.int .u64 seen] 95 (0,0))∧q88l W mb
section
variable{W W':World}{b mb:Nat}{kind:Int}{seen:Nat}
theorem q9fj.lt(h:q9fj W b mb kind seen):b < W.heap.size:=lt_of_block h.1
theorem q9fj.mlt(h:q9fj W b mb kind seen):mb < W.heap.size:=qmfc.lt h.2
theorem q9fj.ne(h:q9fj W b mb kind seen):mb≠b:=by
 rintro rfl
 obtain⟨h1,D,⟨es,c,h2,_⟩,_⟩:=h
 rw[h1] at h2;cases h2
theorem q9fj.cell(h:q9fj W b mb kind seen)(j:Nat):W.cell? ⟨b,j,none⟩=(#[.int .i64 kind,.map (some mb),.int .u64 seen]:Array Value)[j]? := cell_of_row W b j _ _ (0,0) h.1
theorem q9fj.c0(h:q9fj W b mb kind seen):W.cell? ⟨b,0,none⟩=some (.int .i64 kind):=h.cell 0
theorem q9fj.c1(h:q9fj W b mb kind seen):W.cell? ⟨b,1,none⟩=some (.map (some mb)):=h.cell 1
theorem q9fj.c2(h:q9fj W b mb kind seen):W.cell? ⟨b,2,none⟩=some (.int .u64 seen):=h.cell 2
theorem q9fj.fr(h:q9fj W b mb kind seen)(j:Nat):W.frozen? ⟨b,j,none⟩=false:=by have h1:=h.1;simp[World.frozen?,h1]
theorem q9fj.of_block(h:q9fj W b mb kind seen)(hb:W'.heap[b]? = W.heap[b]?)(hm:W'.heap[mb]? = W.heap[mb]?):q9fj W' b mb kind seen:=⟨hb.trans h.1,h.2.of_block hm⟩
theorem q9fj.below(h:q9fj W b mb kind seen){B:Nat}(hb:Below B W W')(hB:b < B)(hM:mb < B):q9fj W' b mb kind seen:=h.of_block (hb.block b hB) (hb.block mb hM)
theorem q9fj.draws(h:q9fj W b mb kind seen)(n:Nat):q9fj (W.drewN n) b mb kind seen:=h
theorem q9fj.see(h:q9fj W b mb kind seen)(s:Nat):q9fj (W.setCell ⟨b,2,none⟩ (.int .u64 s)) b mb kind s:=
 ⟨qlvy h.1 2 _,h.2.of_block (by rw[Below.heap_setCell _ _ _ _ (fun e=>h.ne e)])⟩
end
theorem qkou(kind:Int)(w:World) :
 Calls Tryz.prog 54 #[.int .i64 kind] w fun e w'=>∃b mb,e = .returned (.pointer (some ⟨b,0,none⟩))∧q9fj w' b mb kind 0∧Below w.heap.size w w'∧w.heap.size≤b∧w.heap.size≤mb:=by
 go_enter Tryz.func54,Tryz.ntmps54
 go_wp2_with fail
 refine(qwvk w).mono ?_
 rintro e w' ⟨rfl,hR,hb⟩
 go_wp2_with fail
 go_ret
 have hs:=hb.size
 refine⟨w'.heap.size,w.heap.size,rfl,⟨heap_alloc_new w' _,hR.of_block (heap_alloc_old _ _ (qmfc.lt hR))⟩,hb.alloc hs _,hs,Nat.le_refl _⟩
theorem qv9y(seen i:Nat)(hs:seen < 18446744073709551616)(_hi:i≤63) :
 (bits BinOp.and IntKind.u64 ((seen:Int) / 2^i) 1 != 0)=seen.testBit i:=by
 have e0:(seen:Int) / 2^i=((seen / 2^i:Nat):Int):=by simp
 have hlt:seen / 2^i < 18446744073709551616:=Nat.lt_of_le_of_lt (Nat.div_le_self _ _) hs
 rw[e0,show(1:Int)=((1:Nat):Int) from rfl,bits_and_u64_nat _ _ hlt (by decide),Nat.and_one_is_mod]
 rw[Nat.testBit_eq_decide_div_mod_eq]
 rcases Nat.mod_two_eq_zero_or_one (seen / 2^i) with h | h
 ·rw[h];rfl
 ·rw[h];rfl
theorem q5ti{w:World}{b mb:Nat}{kind:Int}{seen:Nat}(h:q9fj w b mb kind seen)(i:Nat)(hs:seen < 18446744073709551616)(hi:i≤63) :
 Calls Tryz.prog 121 #[.pointer (some ⟨b,0,none⟩),.int .i64 i] w fun e w'=>e = .returned (.bool (seen.testBit i))∧w=w':=by
 have hb:=Lib.hid (qv9y seen i hs hi)
 have c2:=h.c2
 have hm:min i 64=i:=by omega
 have hsh:Op.shift .shr .u64 (seen:Int) .i64 (i:Int)=pure (.int .u64 ((seen:Int) / 2^i)):=by
  rw[shift_shr_any _ _ _ _ (by omega)]
  congr 2
  show(seen:Int) / 2^min (i:Int).toNat 64=_
  rw[show(i:Int).toNat=i by omega,hm]
 have hsh:=hsh
 clear hm h
 go_enter Tryz.func121,Tryz.ntmps121
 go_wp2_with fail
 go_ret
 exact⟨congrArg (fun b=>Ending.returned (Value.bool b)) hb.out,rfl⟩
def q6mr(seen:Nat)(l:List Pr):Prop:=seen < 18446744073709551616∧∀i:Nat,i≤42→seen.testBit i=hasP l i
theorem q6mr.nil:q6mr 0 []:=⟨by decide,fun i _=>by rw[Nat.zero_testBit];rfl⟩
theorem q6mr.snoc{seen:Nat}{l:List Pr}(h:q6mr seen l){p:Pr}{i:Nat}(hp:p.id=i)(hi:i≤42):q6mr (seen ||| 2^i) (l++[p]):=by
 refine⟨Nat.or_lt_two_pow (n:=64) h.1 (Nat.pow_lt_pow_right (by decide) (by omega)),fun j hj=>?_⟩
 rw[Nat.testBit_or,h.2 j hj,Nat.testBit_two_pow]
 unfold hasP
 rw[List.any_append]
 simp only[List.any_cons,List.any_nil,Bool.or_false]
 congr 1
 rw[hp,Bool.eq_iff_iff]
 simp
 omega
def TalL(W:World)(b mb:Nat)(kind:Int)(l:List Pr):Prop:=∃seen,q9fj W b mb kind seen∧q6mr seen l
theorem qtn3{w:World}{b mb:Nat}{kind:Int}{l:List Pr}(h:TalL w b mb kind l) :
 Calls Tryz.prog 94 #[.pointer (some ⟨b,0,none⟩)] w fun e w'=>e = .returned (.int .i64 ((if qwyx l then 9 else 0:Nat):Int))∧w=w':=by
 obtain⟨seen,h1,h2⟩:=h
 have H22:=q5ti h1 22 h2.1 (by decide)
 have H21:=q5ti h1 21 h2.1 (by decide)
 rw[h2.2 22 (by decide)] at H22
 rw[h2.2 21 (by decide)] at H21
 unfold qwyx
 change Calls _ _ _ _ (fun e w'=>e=Ending.returned (.bool (hasP l 22))∧_) at H22
 change Calls _ _ _ _ (fun e w'=>e=Ending.returned (.bool (hasP l 21))∧_) at H21
 generalize hasP l 22=b22 at *
 generalize hasP l 21=b21 at *
 have H22:=Lib.hid H22
 have H21:=Lib.hid H21
 clear h1 h2
 cases b22 with
 | false=>
  go_enter Tryz.func94,Tryz.ntmps94
  go_wp2_with fail
  refine(H22.out).mono ?_
  rintro e w' ⟨rfl,rfl⟩
  go_wp2_with fail
  go_ret
  exact⟨rfl,rfl⟩
 | true=>
  cases b21<;>
  ·go_enter Tryz.func94,Tryz.ntmps94
   go_wp2_with fail
   refine(H22.out).mono ?_
   rintro e w' ⟨rfl,rfl⟩
   go_wp2_with fail
   refine(H21.out).mono ?_
   rintro e w' ⟨rfl,rfl⟩
   go_wp2_with fail
   go_ret
   exact⟨rfl,rfl⟩
theorem q9cp{w W:World}(h:Below w.heap.size w W)(r:Option Nat):w.grownBy W r:=⟨h.os,h.tape,h.output,h.size,fun i hi _=>h.block i hi⟩
theorem _root_.Go.World.grownBy.drew'{w W:World}{r:Option Nat}(h:w.grownBy W r):w.grownBy W.drew r:=⟨h.os,h.tape,h.output,h.size,h.block⟩
def qx3j(kind:Int)(pre:List Pr)(p:Pr):Nat:=if qr4y kind p≠0 then qr4y kind p else if qxv1 kind pre p.id then 9 else 0
def AdS(w:World)(b mb:Nat)(kind:Int)(seen:Nat)(p:Pr)(W:World):Prop:=
 W.cell? ⟨w.heap.size,0,none⟩=some (.int .i64 p.id)∧W.cell? ⟨w.heap.size,1,none⟩=some (.int .u32 p.n)∧W.cell? ⟨w.heap.size,2,none⟩=some (.string (bs p.text))∧W.cell? ⟨w.heap.size,3,none⟩=some (.string (bs p.value))∧
 W.cell? ⟨b,0,none⟩=some (.int .i64 kind)∧W.cell? ⟨b,1,none⟩=some (.map (some mb))∧
 (Instr.lookup 93 (.map (some mb)) (.int .i64 p.id) false).run Tryz.prog W = .ok (q3al (qwgc p.id) (qavf p.id) (prow p.id).least) W∧
 (Below w.heap.size w W∧qrxu W w.heap.size p∧q9fj W b mb kind seen)
theorem AdS.mk{w W:World}{b mb:Nat}{kind:Int}{seen:Nat}{p:Pr}(ok:PrOk p)(h1:Below w.heap.size w W)(h2:qrxu W w.heap.size p)(h3:q9fj W b mb kind seen):AdS w b mb kind seen p W:=
 ⟨h2.c0,h2.c1,h2.c2,h2.c3,h3.c0,h3.c1,h3.2.look ok.lo ok.hi,h1,h2,h3⟩
theorem AdS.call{w W W':World}{b mb:Nat}{kind:Int}{seen:Nat}{p:Pr}(ok:PrOk p)(h:AdS w b mb kind seen p W)(hb:Below W.heap.size W W'):AdS w b mb kind seen p W':=by
 obtain⟨_,_,_,_,_,_,_,h1,h2,h3⟩:=h
 exact AdS.mk ok (h1.trans (hb.mono h1.size)) (h2.below hb h2.lt) (h3.below hb h3.lt h3.mlt)
theorem AdS.draws{w W:World}{b mb:Nat}{kind:Int}{seen:Nat}{p:Pr}(ok:PrOk p)(h:AdS w b mb kind seen p W)(n:Nat):AdS w b mb kind seen p (W.drewN n):=by
 obtain⟨_,_,_,_,_,_,_,h1,h2,h3⟩:=h
 exact AdS.mk ok (qnpu h1 n) h2 (h3.draws n)
theorem qsyg(i:Nat)(hi:i≤42):Op.shift .shl .u64 1 .i64 (i:Int)=pure (.int .u64 ((2^i:Nat):Int)):=by
 have:∀n:Nat,n≤42→Op.shift .shl .u64 1 .i64 (n:Int)=pure (.int .u64 ((2^n:Nat):Int)):=by
  intro n hn
  match n,hn with
  | 0,_ | 1,_ | 2,_ | 3,_ | 4,_ | 5,_ | 6,_ | 7,_ | 8,_ | 9,_ | 10,_ | 11,_ | 12,_ | 13,_ | 14,_ | 15,_ | 16,_ | 17,_ | 18,_ | 19,_ | 20,_ | 21,_ | 22,_ | 23,_ | 24,_ | 25,_ | 26,_ | 27,_ | 28,_ | 29,_ | 30,_ | 31,_ | 32,_ | 33,_ | 34,_ | 35,_ | 36,_ | 37,_ | 38,_ | 39,_ | 40,_ | 41,_ | 42,_=>rfl
  | n+43,h=>exact absurd h (by omega)
 exact this i hi
theorem q42n{w:World}{b mb:Nat}{kind:Int}{pre:List Pr}(p:Pr)(h:TalL w b mb kind pre)(hi:-9223372036854775808≤kind)(hj:kind≤9223372036854775807)(ok:PrOk p) :
 Calls Tryz.prog 92 #[.pointer (some ⟨b,0,none⟩),qbhk p] w fun e w'=>e = .returned (.int .i64 ((qx3j kind pre p:Nat):Int))∧w.grownBy w' (some b)∧(qx3j kind pre p=0→TalL w' b mb kind (pre++[p])):=by
 obtain⟨seen,h1,h2⟩:=h
 have CK:=fun W=>qhiu (qwgc p.id) (qavf p.id) (prow p.id).least kind p W (qyyb _) (Nat.lt_trans (qa46 _) (by decide)) hi hj ok
 rw[qu2z kind p (fun hm=>(qznl hm).2.1)] at CK
 have hbw:=h1.lt
 have hmw:=h1.mlt
 have hB:Below w.heap.size w (w.alloc (.cells #[.int .i64 p.id,.int .u32 p.n,.string (bs p.text),.string (bs p.value)] 25)):=(Below.refl _ _).alloc (Nat.le_refl _) _
 have hS:AdS w b mb kind seen p (w.alloc (.cells #[.int .i64 p.id,.int .u32 p.n,.string (bs p.text),.string (bs p.value)] 25)).drew:=
  AdS.mk ok hB.drew (qrxu.made w p) ((h1.below hB hbw hmw).draws 1)
 obtain⟨C,hC⟩:∃C,qr4y kind p=C:=⟨_,rfl⟩
 obtain⟨s,hs⟩:∃s,qwgc p.id=s:=⟨_,rfl⟩
 obtain⟨k,hk⟩:∃k,qavf p.id=k:=⟨_,rfl⟩
 obtain⟨l,hl⟩:∃l,(prow p.id).least=l:=⟨_,rfl⟩
 have AC:=Lib.hid (fun W W' h hb=>AdS.call (w:=w) (W:=W) (W':=W') (b:=b) (mb:=mb) (kind:=kind) (seen:=seen) (p:=p) ok h hb)
 have LK:=Lib.hid (fun W (h:AdS w b mb kind seen p W)=>h.2.2.2.2.2.2.1)
 rw[hC,hs,hk,hl] at CK
 rw[hs,hk,hl] at LK
 have T0:qx3j kind pre p=(if C≠0 then C else if qxv1 kind pre p.id then 9 else 0):=by unfold qx3j;rw[hC]
 generalize qx3j kind pre p=tp at *
 have T:=Lib.hid T0
 clear T0
 have HC:=Lib.hid hC
 have H2:=Lib.hid h2
 have OK:=Lib.hid ok
 unfold qbhk q3al at *
 have CK:=Lib.hid CK
 clear hC hs hk hl h1 h2 ok hB
 go_enter Tryz.func92,Tryz.ntmps92
 go_wp2_with fail
 go_region_held3 (fun w'=>w'.cell? ⟨w.heap.size,0,none⟩=some (.int .i64 p.id)∧w'.cell? ⟨w.heap.size,1,none⟩=some (.int .u32 p.n)∧w'.cell? ⟨w.heap.size,2,none⟩=some (.string (bs p.text))∧w'.cell? ⟨w.heap.size,3,none⟩=some (.string (bs p.value))∧w'.cell? ⟨b,0,none⟩=some (.int .i64 kind)∧w'.cell? ⟨b,1,none⟩=some (.map (some mb))∧
  (Instr.lookup 93 (.map (some mb)) (.int .i64 p.id) false).run Tryz.prog w' = .ok (.agg #[.int .i64 s,.int .u32 k,.int .u32 l]) w'∧(Below w.heap.size w w'∧qrxu w' w.heap.size p∧q9fj w' b mb kind seen))
  (exact⟨hS.1,hS.2.1,hS.2.2.1,hS.2.2.2.1,hS.2.2.2.2.1,hS.2.2.2.2.2.1,LK.out _ hS,hS.2.2.2.2.2.2.2⟩)
  (first
   | (go_at_call 120;with_reducible refine(CK.out _).mono ?_;rintro e w1 ⟨rfl,hb⟩;have hS:=AC.out _ _ hS hb;clear hb))
 rename_i hHeld
 clear hHeld CK AC LK
 by_cases hC:C=0
 ·subst hC
  have ck:=HC.out
  obtain⟨i,hp⟩:∃i:Nat,p.id=(i:Int):=Int.eq_ofNat_of_zero_le (by have:=qilb (qo1o ck).1;omega)
  have hi42:i≤42:=by have:=qilb (qo1o ck).1;omega
  have hm:=(qo1o ck).1
  have e1:qxv1 kind pre p.id=(hasP pre p.id&&!q5n9 kind p.id):=by
   unfold qxv1 quux
   rw[hm,Bool.true_and];rfl
  have t:=T.out
  rw[if_neg (by simp),e1] at t
  have HA:=fun n=>q5ti (hS.2.2.2.2.2.2.2.2.2.draws n) i H2.out.1 (by omega)
  rw[H2.out.2 i hi42,←hp] at HA
  have RE:=fun W=>qfvw kind p.id W
  generalize q5n9 kind p.id=r at *
  generalize hasP pre p.id=a at *
  have HS:=Lib.hid hS
  have c0:=hS.1
  have t0:=hS.2.2.2.2.1
  have SH:Op.shift .shl .u64 1 .i64 p.id=pure (.int .u64 ((2^i:Nat):Int)):=by rw[hp];exact qsyg i hi42
  have SO:=H2.out.snoc hp hi42
  have OR:bits BinOp.or IntKind.u64 (seen:Int) ((2^i:Nat):Int)=((seen ||| 2^i:Nat):Int):=bits_or_u64_nat _ _ H2.out.1 (Nat.lt_of_le_of_lt (Nat.pow_le_pow_right (by decide) hi42) (by decide))
  generalize seen ||| 2^i=seen2 at *
  generalize 2^i=q at *
  have SO:=Lib.hid SO
  have HI:=Lib.hid hi42
  clear hi42
  clear hS T ck hm e1 hp
  have QA0:∀n,Calls Tryz.prog 121 #[.pointer (some ⟨b,0,none⟩),.int .i64 p.id] (w1.drewN n) fun e w'=>e = .returned (.bool a)∧∃m,w'=w1.drewN m:=fun n=>(HA n).mono fun _ _ h=>⟨h.1,n,h.2.symm⟩
  have QR0:∀n,Calls Tryz.prog 122 #[.int .i64 kind,.int .i64 p.id] (w1.drewN n) fun e w'=>e = .returned (.bool r)∧∃m,w'=w1.drewN m:=fun n=>(RE _).mono fun _ _ h=>⟨h.1,n,h.2.symm⟩
  have QA:=Lib.hid QA0
  have QR:=Lib.hid QR0
  have HB:=Lib.hid (fun n=>qnpu HS.out.2.2.2.2.2.2.2.1 n)
  clear HA RE QA0 QR0
  cases a with
  | true=>
   cases r with
   | false=>
    rw[if_pos (by decide)] at t
    subst t
    go_wp2_with fail
    go_quiet (first | (go_at_call 121;exact QA.out _) | (go_at_call 122;exact QR.out _))
    go_wp2_with fail
    go_ret
    exact⟨rfl,q9cp (HB.out _) _,fun h=>by cases h⟩
   | true=>
    rw[if_neg (by decide)] at t
    subst t
    go_wp2_with fail
    go_quiet (first | (go_at_call 121;exact QA.out _) | (go_at_call 122;exact QR.out _))
    go_wp2_with fail
    have HW:=Lib.hid (AdS.draws OK.out HS.out nq)
    generalize w1.drewN nq=W at *
    clear c0 t0 HS QA QR HB
    have c0:=HW.out.1
    have t2:=HW.out.2.2.2.2.2.2.2.2.2.c2
    have f2:=HW.out.2.2.2.2.2.2.2.2.2.fr 2
    go_region
    go_wp2_with fail
    go_ret
    exact⟨rfl,(qo6d (q9cp HW.out.2.2.2.2.2.2.2.1 (some b)) (q99v W b 2 _)).drew',⟨seen2,(HW.out.2.2.2.2.2.2.2.2.2.see seen2).draws 1,SO.out⟩⟩
  | false=>
   rw[if_neg (by simp)] at t
   subst t
   go_wp2_with fail
   go_quiet (first | (go_at_call 121;exact QA.out _) | (go_at_call 122;exact QR.out _))
   go_wp2_with fail
   have HW:=Lib.hid (AdS.draws OK.out HS.out nq)
   generalize w1.drewN nq=W at *
   clear c0 t0 HS QA QR HB
   have c0:=HW.out.1
   have t2:=HW.out.2.2.2.2.2.2.2.2.2.c2
   have f2:=HW.out.2.2.2.2.2.2.2.2.2.fr 2
   go_region
   go_wp2_with fail
   go_ret
   exact⟨rfl,(qo6d (q9cp HW.out.2.2.2.2.2.2.2.1 (some b)) (q99v W b 2 _)).drew',⟨seen2,(HW.out.2.2.2.2.2.2.2.2.2.see seen2).draws 1,SO.out⟩⟩
 ·have g1:((C:Int)==0)=false:=by simp;omega
  have g2:((C:Int) != 0)=true:=by simp;omega
  have t:=T.out
  rw[if_pos hC] at t
  subst t
  have hb:=hS.2.2.2.2.2.2.2.1
  go_wp2_with fail
  go_ret
  exact⟨rfl,q9cp hb _,fun h=>absurd h hC⟩
end Go.Proofs.YtbklidpadffpgaaGreat
