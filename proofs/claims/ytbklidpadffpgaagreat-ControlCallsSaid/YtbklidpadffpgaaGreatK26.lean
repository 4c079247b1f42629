/- The contract of polyglotref05.look: the row of the document's table. No condition. -/
import Derived.Deep.LoopGhost
import Derived.Test.YtbklidpadffpgaaGreatK10
import Derived.Test.YtbklidpadffpgaaGreatK25
import Derived.Test.YtbklidpadffpgaaGreatK12
set_option maxRecDepth 100000
set_option maxHeartbeats 1000000
namespace Go.Proofs.YtbklidpadffpgaaGreat
open Go.RowKit
def KLs(W:World)(A:Option Addr)(ks:List Int):Prop:=ks=[]∨∃g,A=some ⟨g,0,none⟩∧W.heap[g]? = some (.cells (ks.map (Value.int .i64)).toArray 3 (0,0))
def qhh9(w:World)(id:Int)(e:Ending)(W:World):Prop:=
 ∃A,e = .returned (.agg #[.int .i64 ((prow id).shape:Nat),.slice A (prow id).kinds.length (prow id).kinds.length,.int .u32 ((prow id).least:Nat),.int .u32 ((prow id).most:Nat)])∧Below w.heap.size w W∧KLs W A (prow id).kinds
def LkW(w:World)(ks:List Int)(W:World):Prop:=Below w.heap.size w W∧w.heap.size+2≤W.heap.size∧W.heap[w.heap.size]? = some (.cells #[.int .i64 0,.slice none 0 0,.int .u32 0,.int .u32 0] 147 (0,0))∧W.heap[w.heap.size+1]? = some (.cells (ks.map (Value.int .i64)).toArray 3 (0,0))
section
variable{w W W':World}{ks:List Int}
theorem LkW.made(w:World)(ks:List Int)(cs:Array Value)(h:cs=(ks.map (Value.int .i64)).toArray):LkW w ks ((w.alloc (.cells #[.int .i64 0,.slice none 0 0,.int .u32 0,.int .u32 0] 147)).alloc (.cells cs 3)):=by
 subst h
 refine⟨((Below.refl _ _).alloc (Nat.le_refl _) _).alloc (by simp) _,by simp,(heap_alloc_old _ _ (by simp)).trans (heap_alloc_new w _),?_⟩
 have:=heap_alloc_new (w.alloc (.cells #[.int .i64 0,.slice none 0 0,.int .u32 0,.int .u32 0] 147)) (.cells (ks.map (Value.int .i64)).toArray 3)
 rwa [World.size_alloc] at this
theorem LkW.call(h:LkW w ks W)(hb:Below W.heap.size W W'):LkW w ks W':=by
 obtain⟨h1,h2,h3,h4⟩:=h
 exact⟨h1.trans (hb.mono h1.size),Nat.le_trans h2 hb.size,(hb.block _ (by omega)).trans h3,(hb.block _ (by omega)).trans h4⟩
theorem LkW.fr(h:LkW w ks W)(j:Nat):W.frozen? ⟨w.heap.size,j,none⟩=false:=by have h1:=h.2.2.1;simp[World.frozen?,h1]
theorem LkW.r(h:LkW w ks W)(j:Nat):W.cell? ⟨w.heap.size,j,none⟩=(#[.int .i64 0,.slice none 0 0,.int .u32 0,.int .u32 0]:Array Value)[j]? := cell_of_row _ _ _ _ _ _ h.2.2.1
def st4(W:World)(B:Nat)(a b c d:Value):World:=(((W.setCell ⟨B,0,none⟩ a).setCell ⟨B,1,none⟩ b).setCell ⟨B,2,none⟩ c).setCell ⟨B,3,none⟩ d
theorem q8k7{B:Nat}{t:TypeId}{x0 x1 x2 x3:Value}(h:W.heap[B]? = some (.cells #[x0,x1,x2,x3] t (0,0)))(a b c d:Value):(st4 W B a b c d).heap[B]? = some (.cells #[a,b,c,d] t (0,0)):=by
 have h1:=qlvy h 0 a
 have h2:=qlvy h1 1 b
 have h3:=qlvy h2 2 c
 exact qlvy h3 3 d
theorem qye3(B:Nat)(a b c d:Value)(k:Nat)(hk:k≠B):(st4 W B a b c d).heap[k]? = W.heap[k]? := by
 unfold st4
 rw[Below.heap_setCell _ _ _ _ hk,Below.heap_setCell _ _ _ _ hk,Below.heap_setCell _ _ _ _ hk,Below.heap_setCell _ _ _ _ hk]
theorem qkt8{B k:Nat}(h:Below B w W)(hB:B≤k)(a b c d:Value):Below B w (st4 W k a b c d):=
 ⟨h.os,h.tape,h.output,by have:=h.size;unfold st4;simpa [World.setCell] using this,fun m hm=>(qye3 k a b c d m (by omega)).trans (h.block m hm)⟩
theorem q42v{fn:Func}{R:Ending→World→Prop}{a:Act}{p:Tmp}{B:Nat}{cs:Array Value}(h:fn.results=#[.cell p 147])(hp:a.tmps.getD p undef = .pointer (some ⟨B,0,none⟩))(hd:a.defers=[])(hcs:cs.size=4)
 (hg:W.heap[B]? = some (.cells cs 147 (0,0))) (hR:R (.returned (.agg cs)) W):bodyPost Tryz.prog fn R .ret a W:=
 bodyPost_ret (results_cell_row h a.tmps W B 147 cs (0,0) _ hp hg Tryz.underlying147 rfl (by rw[hcs];kernel_rfl)) hd hR
theorem LkW.fin{id:Int}(h:LkW w (prow id).kinds W):qhh9 w id (.returned (.agg #[.int .i64 ((prow id).shape:Nat),.slice (some ⟨w.heap.size+1,0,none⟩) (prow id).kinds.length (prow id).kinds.length,.int .u32 ((prow id).least:Nat),.int .u32 ((prow id).most:Nat)]))
 (st4 W w.heap.size (.int .i64 ((prow id).shape:Nat)) (.slice (some ⟨w.heap.size+1,0,none⟩) (prow id).kinds.length (prow id).kinds.length) (.int .u32 ((prow id).least:Nat)) (.int .u32 ((prow id).most:Nat))):=
 ⟨_,rfl,qkt8 h.1 (Nat.le_refl _) _ _ _ _,.inr ⟨_,rfl,(qye3 _ _ _ _ _ _ (by omega)).trans h.2.2.2⟩⟩
end
theorem qxm1(A:Option Addr)(n c:Nat)(_x:Int)(w:World) :
 Calls Tryz.prog 130 #[.slice A n c] w fun e w'=>e = .returned (.agg #[.int .i64 1,.slice A n c,.int .u32 0,.int .u32 1])∧Below w.heap.size w w':=by
 go_enter Tryz.func130,Tryz.ntmps130
 go_wp2_with fail
 exact q42v rfl rfl rfl rfl (heap_alloc_new w _) ⟨rfl,(Below.refl _ _).alloc (Nat.le_refl _) _⟩
theorem q2f4(A:Option Addr)(n c:Nat)(x:Int)(w:World) :
 Calls Tryz.prog 133 #[.slice A n c,.int .u32 x] w fun e w'=>e = .returned (.agg #[.int .i64 2,.slice A n c,.int .u32 x,.int .u32 65535])∧Below w.heap.size w w':=by
 go_enter Tryz.func133,Tryz.ntmps133
 go_wp2_with fail
 exact q42v rfl rfl rfl rfl (heap_alloc_new w _) ⟨rfl,(Below.refl _ _).alloc (Nat.le_refl _) _⟩
theorem qp9f(A:Option Addr)(n c:Nat)(x:Int)(w:World) :
 Calls Tryz.prog 131 #[.slice A n c,.int .u32 x] w fun e w'=>e = .returned (.agg #[.int .i64 3,.slice A n c,.int .u32 x,.int .u32 4294967295])∧Below w.heap.size w w':=by
 go_enter Tryz.func131,Tryz.ntmps131
 go_wp2_with fail
 exact q42v rfl rfl rfl rfl (heap_alloc_new w _) ⟨rfl,(Below.refl _ _).alloc (Nat.le_refl _) _⟩
theorem q799(A:Option Addr)(n c:Nat)(x:Int)(w:World) :
 Calls Tryz.prog 132 #[.int .i64 x,.slice A n c] w fun e w'=>e = .returned (.agg #[.int .i64 x,.slice A n c,.int .u32 0,.int .u32 0])∧Below w.heap.size w w':=by
 go_enter Tryz.func132,Tryz.ntmps132
 go_wp2_with fail
 exact q42v rfl rfl rfl rfl (heap_alloc_new w _) ⟨rfl,(Below.refl _ _).alloc (Nat.le_refl _) _⟩
theorem qvji(w:World):Calls Tryz.prog 107 #[.int .i64 1] w (qhh9 w 1):=by
 have L0:=Lib.hid (LkW.made w [3,16] #[.int .i64 3,.int .i64 16] rfl)
 go_enter Tryz.func107,Tryz.ntmps107
 go_wp2_with fail
 refine(qxm1 _ 2 2 0 _).mono ?_
 rintro e w2 ⟨rfl,hb⟩
 have L:=Lib.hid (L0.out.call hb)
 clear hb L0
 have f0:=L.out.fr 0
 have f1:=L.out.fr 1
 have f2:=L.out.fr 2
 have f3:=L.out.fr 3
 have r0:=L.out.r 0
 have r1:=L.out.r 1
 have r2:=L.out.r 2
 have r3:=L.out.r 3
 go_wp2_with fail
 exact q42v rfl rfl rfl rfl (q8k7 L.out.2.2.1 _ _ _ _) (LkW.fin (id:=1) L.out)
theorem q5vf(w:World):Calls Tryz.prog 107 #[.int .i64 2] w (qhh9 w 2):=by
 have L0:=Lib.hid (LkW.made w [3,16] #[.int .i64 3,.int .i64 16] rfl)
 go_enter Tryz.func107,Tryz.ntmps107
 go_wp2_with fail
 refine(qp9f _ 2 2 0 _).mono ?_
 rintro e w2 ⟨rfl,hb⟩
 have L:=Lib.hid (L0.out.call hb)
 clear hb L0
 have f0:=L.out.fr 0
 have f1:=L.out.fr 1
 have f2:=L.out.fr 2
 have f3:=L.out.fr 3
 have r0:=L.out.r 0
 have r1:=L.out.r 1
 have r2:=L.out.r 2
 have r3:=L.out.r 3
 go_wp2_with fail
 exact q42v rfl rfl rfl rfl (q8k7 L.out.2.2.1 _ _ _ _) (LkW.fin (id:=2) L.out)
theorem qfeo(w:World):Calls Tryz.prog 107 #[.int .i64 3] w (qhh9 w 3):=by
 have L0:=Lib.hid (LkW.made w [3,16] #[.int .i64 3,.int .i64 16] rfl)
 go_enter Tryz.func107,Tryz.ntmps107
 go_wp2_with fail
 refine(q799 _ 2 2 5 _).mono ?_
 rintro e w2 ⟨rfl,hb⟩
 have L:=Lib.hid (L0.out.call hb)
 clear hb L0
 have f0:=L.out.fr 0
 have f1:=L.out.fr 1
 have f2:=L.out.fr 2
 have f3:=L.out.fr 3
 have r0:=L.out.r 0
 have r1:=L.out.r 1
 have r2:=L.out.r 2
 have r3:=L.out.r 3
 go_wp2_with fail
 exact q42v rfl rfl rfl rfl (q8k7 L.out.2.2.1 _ _ _ _) (LkW.fin (id:=3) L.out)
theorem qfoi(w:World):Calls Tryz.prog 107 #[.int .i64 8] w (qhh9 w 8):=by
 have L0:=Lib.hid (LkW.made w [3,16] #[.int .i64 3,.int .i64 16] rfl)
 go_enter Tryz.func107,Tryz.ntmps107
 go_wp2_with fail
 refine(q799 _ 2 2 5 _).mono ?_
 rintro e w2 ⟨rfl,hb⟩
 have L:=Lib.hid (L0.out.call hb)
 clear hb L0
 have f0:=L.out.fr 0
 have f1:=L.out.fr 1
 have f2:=L.out.fr 2
 have f3:=L.out.fr 3
 have r0:=L.out.r 0
 have r1:=L.out.r 1
 have r2:=L.out.r 2
 have r3:=L.out.r 3
 go_wp2_with fail
 exact q42v rfl rfl rfl rfl (q8k7 L.out.2.2.1 _ _ _ _) (LkW.fin (id:=8) L.out)
theorem q9se(w:World):Calls Tryz.prog 107 #[.int .i64 9] w (qhh9 w 9):=by
 have L0:=Lib.hid (LkW.made w [3,16] #[.int .i64 3,.int .i64 16] rfl)
 go_enter Tryz.func107,Tryz.ntmps107
 go_wp2_with fail
 refine(q799 _ 2 2 6 _).mono ?_
 rintro e w2 ⟨rfl,hb⟩
 have L:=Lib.hid (L0.out.call hb)
 clear hb L0
 have f0:=L.out.fr 0
 have f1:=L.out.fr 1
 have f2:=L.out.fr 2
 have f3:=L.out.fr 3
 have r0:=L.out.r 0
 have r1:=L.out.r 1
 have r2:=L.out.r 2
 have r3:=L.out.r 3
 go_wp2_with fail
 exact q42v rfl rfl rfl rfl (q8k7 L.out.2.2.1 _ _ _ _) (LkW.fin (id:=9) L.out)
theorem q36q(w:World):Calls Tryz.prog 107 #[.int .i64 11] w (qhh9 w 11):=by
 have L0:=Lib.hid (LkW.made w [3,8] #[.int .i64 3,.int .i64 8] rfl)
 go_enter Tryz.func107,Tryz.ntmps107
 go_wp2_with fail
 refine q42v rfl rfl rfl rfl ((heap_alloc_old _ _ (by simp)).trans (heap_alloc_new w _)) ⟨_,rfl,((Below.refl _ _).alloc (Nat.le_refl _) _).alloc (by simp) _,.inr ⟨_,rfl,?_⟩⟩
 have:=heap_alloc_new (w.alloc (.cells #[.int .i64 4,.slice (some ⟨w.heap.size+1,0,none⟩) 2 2,.int .u32 1,.int .u32 268435455] 147)) (.cells #[.int .i64 3,.int .i64 8] 3)
 rwa [World.size_alloc] at this
theorem qy7b(w:World):Calls Tryz.prog 107 #[.int .i64 17] w (qhh9 w 17):=by
 have L0:=Lib.hid (LkW.made w [1,2,14] #[.int .i64 1,.int .i64 2,.int .i64 14] rfl)
 go_enter Tryz.func107,Tryz.ntmps107
 go_wp2_with fail
 refine(qp9f _ 3 3 0 _).mono ?_
 rintro e w2 ⟨rfl,hb⟩
 have L:=Lib.hid (L0.out.call hb)
 clear hb L0
 have f0:=L.out.fr 0
 have f1:=L.out.fr 1
 have f2:=L.out.fr 2
 have f3:=L.out.fr 3
 have r0:=L.out.r 0
 have r1:=L.out.r 1
 have r2:=L.out.r 2
 have r3:=L.out.r 3
 go_wp2_with fail
 exact q42v rfl rfl rfl rfl (q8k7 L.out.2.2.1 _ _ _ _) (LkW.fin (id:=17) L.out)
theorem qvou(w:World):Calls Tryz.prog 107 #[.int .i64 18] w (qhh9 w 18):=by
 have L0:=Lib.hid (LkW.made w [2] #[.int .i64 2] rfl)
 go_enter Tryz.func107,Tryz.ntmps107
 go_wp2_with fail
 refine(q799 _ 1 1 5 _).mono ?_
 rintro e w2 ⟨rfl,hb⟩
 have L:=Lib.hid (L0.out.call hb)
 clear hb L0
 have f0:=L.out.fr 0
 have f1:=L.out.fr 1
 have f2:=L.out.fr 2
 have f3:=L.out.fr 3
 have r0:=L.out.r 0
 have r1:=L.out.r 1
 have r2:=L.out.r 2
 have r3:=L.out.r 3
 go_wp2_with fail
 exact q42v rfl rfl rfl rfl (q8k7 L.out.2.2.1 _ _ _ _) (LkW.fin (id:=18) L.out)
theorem q7h7(w:World):Calls Tryz.prog 107 #[.int .i64 26] w (qhh9 w 26):=by
 have L0:=Lib.hid (LkW.made w [2] #[.int .i64 2] rfl)
 go_enter Tryz.func107,Tryz.ntmps107
 go_wp2_with fail
 refine(q799 _ 1 1 5 _).mono ?_
 rintro e w2 ⟨rfl,hb⟩
 have L:=Lib.hid (L0.out.call hb)
 clear hb L0
 have f0:=L.out.fr 0
 have f1:=L.out.fr 1
 have f2:=L.out.fr 2
 have f3:=L.out.fr 3
 have r0:=L.out.r 0
 have r1:=L.out.r 1
 have r2:=L.out.r 2
 have r3:=L.out.r 3
 go_wp2_with fail
 exact q42v rfl rfl rfl rfl (q8k7 L.out.2.2.1 _ _ _ _) (LkW.fin (id:=26) L.out)
theorem q9ou(w:World):Calls Tryz.prog 107 #[.int .i64 19] w (qhh9 w 19):=by
 have L0:=Lib.hid (LkW.made w [2] #[.int .i64 2] rfl)
 go_enter Tryz.func107,Tryz.ntmps107
 go_wp2_with fail
 refine(q2f4 _ 1 1 0 _).mono ?_
 rintro e w2 ⟨rfl,hb⟩
 have L:=Lib.hid (L0.out.call hb)
 clear hb L0
 have f0:=L.out.fr 0
 have f1:=L.out.fr 1
 have f2:=L.out.fr 2
 have f3:=L.out.fr 3
 have r0:=L.out.r 0
 have r1:=L.out.r 1
 have r2:=L.out.r 2
 have r3:=L.out.r 3
 go_wp2_with fail
 exact q42v rfl rfl rfl rfl (q8k7 L.out.2.2.1 _ _ _ _) (LkW.fin (id:=19) L.out)
theorem qcf1(w:World):Calls Tryz.prog 107 #[.int .i64 21] w (qhh9 w 21):=by
 have L0:=Lib.hid (LkW.made w [1,2,15] #[.int .i64 1,.int .i64 2,.int .i64 15] rfl)
 go_enter Tryz.func107,Tryz.ntmps107
 go_wp2_with fail
 refine(q799 _ 3 3 5 _).mono ?_
 rintro e w2 ⟨rfl,hb⟩
 have L:=Lib.hid (L0.out.call hb)
 clear hb L0
 have f0:=L.out.fr 0
 have f1:=L.out.fr 1
 have f2:=L.out.fr 2
 have f3:=L.out.fr 3
 have r0:=L.out.r 0
 have r1:=L.out.r 1
 have r2:=L.out.r 2
 have r3:=L.out.r 3
 go_wp2_with fail
 exact q42v rfl rfl rfl rfl (q8k7 L.out.2.2.1 _ _ _ _) (LkW.fin (id:=21) L.out)
theorem q2ch(w:World):Calls Tryz.prog 107 #[.int .i64 22] w (qhh9 w 22):=by
 have L0:=Lib.hid (LkW.made w [1,2,15] #[.int .i64 1,.int .i64 2,.int .i64 15] rfl)
 go_enter Tryz.func107,Tryz.ntmps107
 go_wp2_with fail
 refine(q799 _ 3 3 6 _).mono ?_
 rintro e w2 ⟨rfl,hb⟩
 have L:=Lib.hid (L0.out.call hb)
 clear hb L0
 have f0:=L.out.fr 0
 have f1:=L.out.fr 1
 have f2:=L.out.fr 2
 have f3:=L.out.fr 3
 have r0:=L.out.r 0
 have r1:=L.out.r 1
 have r2:=L.out.r 2
 have r3:=L.out.r 3
 go_wp2_with fail
 exact q42v rfl rfl rfl rfl (q8k7 L.out.2.2.1 _ _ _ _) (LkW.fin (id:=22) L.out)
theorem qwx5(w:World):Calls Tryz.prog 107 #[.int .i64 23] w (qhh9 w 23):=by
 have L0:=Lib.hid (LkW.made w [1] #[.int .i64 1] rfl)
 go_enter Tryz.func107,Tryz.ntmps107
 go_wp2_with fail
 refine(qxm1 _ 1 1 0 _).mono ?_
 rintro e w2 ⟨rfl,hb⟩
 have L:=Lib.hid (L0.out.call hb)
 clear hb L0
 have f0:=L.out.fr 0
 have f1:=L.out.fr 1
 have f2:=L.out.fr 2
 have f3:=L.out.fr 3
 have r0:=L.out.r 0
 have r1:=L.out.r 1
 have r2:=L.out.r 2
 have r3:=L.out.r 3
 go_wp2_with fail
 exact q42v rfl rfl rfl rfl (q8k7 L.out.2.2.1 _ _ _ _) (LkW.fin (id:=23) L.out)
theorem qpyw(w:World):Calls Tryz.prog 107 #[.int .i64 25] w (qhh9 w 25):=by
 have L0:=Lib.hid (LkW.made w [1] #[.int .i64 1] rfl)
 go_enter Tryz.func107,Tryz.ntmps107
 go_wp2_with fail
 refine(qxm1 _ 1 1 0 _).mono ?_
 rintro e w2 ⟨rfl,hb⟩
 have L:=Lib.hid (L0.out.call hb)
 clear hb L0
 have f0:=L.out.fr 0
 have f1:=L.out.fr 1
 have f2:=L.out.fr 2
 have f3:=L.out.fr 3
 have r0:=L.out.r 0
 have r1:=L.out.r 1
 have r2:=L.out.r 2
 have r3:=L.out.r 3
 go_wp2_with fail
 exact q42v rfl rfl rfl rfl (q8k7 L.out.2.2.1 _ _ _ _) (LkW.fin (id:=25) L.out)
theorem qrbx(w:World):Calls Tryz.prog 107 #[.int .i64 24] w (qhh9 w 24):=by
 have L0:=Lib.hid (LkW.made w [16] #[.int .i64 16] rfl)
 go_enter Tryz.func107,Tryz.ntmps107
 go_wp2_with fail
 refine(qp9f _ 1 1 0 _).mono ?_
 rintro e w2 ⟨rfl,hb⟩
 have L:=Lib.hid (L0.out.call hb)
 clear hb L0
 have f0:=L.out.fr 0
 have f1:=L.out.fr 1
 have f2:=L.out.fr 2
 have f3:=L.out.fr 3
 have r0:=L.out.r 0
 have r1:=L.out.r 1
 have r2:=L.out.r 2
 have r3:=L.out.r 3
 go_wp2_with fail
 exact q42v rfl rfl rfl rfl (q8k7 L.out.2.2.1 _ _ _ _) (LkW.fin (id:=24) L.out)
theorem q8hr(w:World):Calls Tryz.prog 107 #[.int .i64 28] w (qhh9 w 28):=by
 have L0:=Lib.hid (LkW.made w [2,14] #[.int .i64 2,.int .i64 14] rfl)
 go_enter Tryz.func107,Tryz.ntmps107
 go_wp2_with fail
 refine(q799 _ 2 2 5 _).mono ?_
 rintro e w2 ⟨rfl,hb⟩
 have L:=Lib.hid (L0.out.call hb)
 clear hb L0
 have f0:=L.out.fr 0
 have f1:=L.out.fr 1
 have f2:=L.out.fr 2
 have f3:=L.out.fr 3
 have r0:=L.out.r 0
 have r1:=L.out.r 1
 have r2:=L.out.r 2
 have r3:=L.out.r 3
 go_wp2_with fail
 exact q42v rfl rfl rfl rfl (q8k7 L.out.2.2.1 _ _ _ _) (LkW.fin (id:=28) L.out)
theorem qtfc(w:World):Calls Tryz.prog 107 #[.int .i64 31] w (qhh9 w 31):=by
 have L0:=Lib.hid (LkW.made w [2,4,5,6,7,9,11,14,15] #[.int .i64 2,.int .i64 4,.int .i64 5,.int .i64 6,.int .i64 7,.int .i64 9,.int .i64 11,.int .i64 14,.int .i64 15] rfl)
 go_enter Tryz.func107,Tryz.ntmps107
 go_wp2_with fail
 refine(q799 _ 9 9 5 _).mono ?_
 rintro e w2 ⟨rfl,hb⟩
 have L:=Lib.hid (L0.out.call hb)
 clear hb L0
 have f0:=L.out.fr 0
 have f1:=L.out.fr 1
 have f2:=L.out.fr 2
 have f3:=L.out.fr 3
 have r0:=L.out.r 0
 have r1:=L.out.r 1
 have r2:=L.out.r 2
 have r3:=L.out.r 3
 go_wp2_with fail
 exact q42v rfl rfl rfl rfl (q8k7 L.out.2.2.1 _ _ _ _) (LkW.fin (id:=31) L.out)
theorem qx1h(w:World):Calls Tryz.prog 107 #[.int .i64 33] w (qhh9 w 33):=by
 have L0:=Lib.hid (LkW.made w [1,2] #[.int .i64 1,.int .i64 2] rfl)
 go_enter Tryz.func107,Tryz.ntmps107
 go_wp2_with fail
 refine(q2f4 _ 2 2 1 _).mono ?_
 rintro e w2 ⟨rfl,hb⟩
 have L:=Lib.hid (L0.out.call hb)
 clear hb L0
 have f0:=L.out.fr 0
 have f1:=L.out.fr 1
 have f2:=L.out.fr 2
 have f3:=L.out.fr 3
 have r0:=L.out.r 0
 have r1:=L.out.r 1
 have r2:=L.out.r 2
 have r3:=L.out.r 3
 go_wp2_with fail
 exact q42v rfl rfl rfl rfl (q8k7 L.out.2.2.1 _ _ _ _) (LkW.fin (id:=33) L.out)
theorem qilj(w:World):Calls Tryz.prog 107 #[.int .i64 34] w (qhh9 w 34):=by
 have L0:=Lib.hid (LkW.made w [1,2] #[.int .i64 1,.int .i64 2] rfl)
 go_enter Tryz.func107,Tryz.ntmps107
 go_wp2_with fail
 refine(q2f4 _ 2 2 0 _).mono ?_
 rintro e w2 ⟨rfl,hb⟩
 have L:=Lib.hid (L0.out.call hb)
 clear hb L0
 have f0:=L.out.fr 0
 have f1:=L.out.fr 1
 have f2:=L.out.fr 2
 have f3:=L.out.fr 3
 have r0:=L.out.r 0
 have r1:=L.out.r 1
 have r2:=L.out.r 2
 have r3:=L.out.r 3
 go_wp2_with fail
 exact q42v rfl rfl rfl rfl (q8k7 L.out.2.2.1 _ _ _ _) (LkW.fin (id:=34) L.out)
theorem qc9d(w:World):Calls Tryz.prog 107 #[.int .i64 35] w (qhh9 w 35):=by
 have L0:=Lib.hid (LkW.made w [3] #[.int .i64 3] rfl)
 go_enter Tryz.func107,Tryz.ntmps107
 go_wp2_with fail
 refine(q2f4 _ 1 1 1 _).mono ?_
 rintro e w2 ⟨rfl,hb⟩
 have L:=Lib.hid (L0.out.call hb)
 clear hb L0
 have f0:=L.out.fr 0
 have f1:=L.out.fr 1
 have f2:=L.out.fr 2
 have f3:=L.out.fr 3
 have r0:=L.out.r 0
 have r1:=L.out.r 1
 have r2:=L.out.r 2
 have r3:=L.out.r 3
 go_wp2_with fail
 exact q42v rfl rfl rfl rfl (q8k7 L.out.2.2.1 _ _ _ _) (LkW.fin (id:=35) L.out)
theorem qy6u(w:World):Calls Tryz.prog 107 #[.int .i64 36] w (qhh9 w 36):=by
 have L0:=Lib.hid (LkW.made w [2] #[.int .i64 2] rfl)
 go_enter Tryz.func107,Tryz.ntmps107
 go_wp2_with fail
 refine(qxm1 _ 1 1 0 _).mono ?_
 rintro e w2 ⟨rfl,hb⟩
 have L:=Lib.hid (L0.out.call hb)
 clear hb L0
 have f0:=L.out.fr 0
 have f1:=L.out.fr 1
 have f2:=L.out.fr 2
 have f3:=L.out.fr 3
 have r0:=L.out.r 0
 have r1:=L.out.r 1
 have r2:=L.out.r 2
 have r3:=L.out.r 3
 go_wp2_with fail
 exact q42v rfl rfl rfl rfl (q8k7 L.out.2.2.1 _ _ _ _) (LkW.fin (id:=36) L.out)
theorem qs8t(w:World):Calls Tryz.prog 107 #[.int .i64 37] w (qhh9 w 37):=by
 have L0:=Lib.hid (LkW.made w [2] #[.int .i64 2] rfl)
 go_enter Tryz.func107,Tryz.ntmps107
 go_wp2_with fail
 refine(qxm1 _ 1 1 0 _).mono ?_
 rintro e w2 ⟨rfl,hb⟩
 have L:=Lib.hid (L0.out.call hb)
 clear hb L0
 have f0:=L.out.fr 0
 have f1:=L.out.fr 1
 have f2:=L.out.fr 2
 have f3:=L.out.fr 3
 have r0:=L.out.r 0
 have r1:=L.out.r 1
 have r2:=L.out.r 2
 have r3:=L.out.r 3
 go_wp2_with fail
 exact q42v rfl rfl rfl rfl (q8k7 L.out.2.2.1 _ _ _ _) (LkW.fin (id:=37) L.out)
theorem q0q4(w:World):Calls Tryz.prog 107 #[.int .i64 40] w (qhh9 w 40):=by
 have L0:=Lib.hid (LkW.made w [2] #[.int .i64 2] rfl)
 go_enter Tryz.func107,Tryz.ntmps107
 go_wp2_with fail
 refine(qxm1 _ 1 1 0 _).mono ?_
 rintro e w2 ⟨rfl,hb⟩
 have L:=Lib.hid (L0.out.call hb)
 clear hb L0
 have f0:=L.out.fr 0
 have f1:=L.out.fr 1
 have f2:=L.out.fr 2
 have f3:=L.out.fr 3
 have r0:=L.out.r 0
 have r1:=L.out.r 1
 have r2:=L.out.r 2
 have r3:=L.out.r 3
 go_wp2_with fail
 exact q42v rfl rfl rfl rfl (q8k7 L.out.2.2.1 _ _ _ _) (LkW.fin (id:=40) L.out)
theorem qmqk(w:World):Calls Tryz.prog 107 #[.int .i64 41] w (qhh9 w 41):=by
 have L0:=Lib.hid (LkW.made w [2] #[.int .i64 2] rfl)
 go_enter Tryz.func107,Tryz.ntmps107
 go_wp2_with fail
 refine(qxm1 _ 1 1 0 _).mono ?_
 rintro e w2 ⟨rfl,hb⟩
 have L:=Lib.hid (L0.out.call hb)
 clear hb L0
 have f0:=L.out.fr 0
 have f1:=L.out.fr 1
 have f2:=L.out.fr 2
 have f3:=L.out.fr 3
 have r0:=L.out.r 0
 have r1:=L.out.r 1
 have r2:=L.out.r 2
 have r3:=L.out.r 3
 go_wp2_with fail
 exact q42v rfl rfl rfl rfl (q8k7 L.out.2.2.1 _ _ _ _) (LkW.fin (id:=41) L.out)
theorem qcij(w:World):Calls Tryz.prog 107 #[.int .i64 42] w (qhh9 w 42):=by
 have L0:=Lib.hid (LkW.made w [2] #[.int .i64 2] rfl)
 go_enter Tryz.func107,Tryz.ntmps107
 go_wp2_with fail
 refine(qxm1 _ 1 1 0 _).mono ?_
 rintro e w2 ⟨rfl,hb⟩
 have L:=Lib.hid (L0.out.call hb)
 clear hb L0
 have f0:=L.out.fr 0
 have f1:=L.out.fr 1
 have f2:=L.out.fr 2
 have f3:=L.out.fr 3
 have r0:=L.out.r 0
 have r1:=L.out.r 1
 have r2:=L.out.r 2
 have r3:=L.out.r 3
 go_wp2_with fail
 exact q42v rfl rfl rfl rfl (q8k7 L.out.2.2.1 _ _ _ _) (LkW.fin (id:=42) L.out)
theorem qhr0(w:World):Calls Tryz.prog 107 #[.int .i64 38] w (qhh9 w 38):=by
 have L0:=Lib.hid (LkW.made w [1,2,3,4,5,6,7,8,9,10,11,14,15,16] #[.int .i64 1,.int .i64 2,.int .i64 3,.int .i64 4,.int .i64 5,.int .i64 6,.int .i64 7,.int .i64 8,.int .i64 9,.int .i64 10,.int .i64 11,.int .i64 14,.int .i64 15,.int .i64 16] rfl)
 go_enter Tryz.func107,Tryz.ntmps107
 go_wp2_with fail
 refine(q799 _ 14 14 7 _).mono ?_
 rintro e w2 ⟨rfl,hb⟩
 have L:=Lib.hid (L0.out.call hb)
 clear hb L0
 have f0:=L.out.fr 0
 have f1:=L.out.fr 1
 have f2:=L.out.fr 2
 have f3:=L.out.fr 3
 have r0:=L.out.r 0
 have r1:=L.out.r 1
 have r2:=L.out.r 2
 have r3:=L.out.r 3
 go_wp2_with fail
 exact q42v rfl rfl rfl rfl (q8k7 L.out.2.2.1 _ _ _ _) (LkW.fin (id:=38) L.out)
theorem q7xe(w:World):Calls Tryz.prog 107 #[.int .i64 39] w (qhh9 w 39):=by
 have L0:=Lib.hid (LkW.made w [1,2] #[.int .i64 1,.int .i64 2] rfl)
 go_enter Tryz.func107,Tryz.ntmps107
 go_wp2_with fail
 refine(qp9f _ 2 2 1 _).mono ?_
 rintro e w2 ⟨rfl,hb⟩
 have L:=Lib.hid (L0.out.call hb)
 clear hb L0
 have f0:=L.out.fr 0
 have f1:=L.out.fr 1
 have f2:=L.out.fr 2
 have f3:=L.out.fr 3
 have r0:=L.out.r 0
 have r1:=L.out.r 1
 have r2:=L.out.r 2
 have r3:=L.out.r 3
 go_wp2_with fail
 exact q42v rfl rfl rfl rfl (q8k7 L.out.2.2.1 _ _ _ _) (LkW.fin (id:=39) L.out)
theorem qa8g{id:Int}(h:id∉[1,2,3,8,9,11,17,18,26,19,21,22,23,25,24,28,31,33,34,35,36,37,40,41,42,38,39]):prow id=⟨0,[],0,0⟩:=by
 simp only[List.mem_cons,List.not_mem_nil,or_false,not_or] at h
 unfold prow
 repeat rw[if_neg (by omega)]
theorem qpnw(id:Int)(w:World)(h:id∉[1,2,3,8,9,11,17,18,26,19,21,22,23,25,24,28,31,33,34,35,36,37,40,41,42,38,39]):Calls Tryz.prog 107 #[.int .i64 id] w (qhh9 w id):=by
 have P:=Lib.hid (qa8g h)
 simp only[List.mem_cons,List.not_mem_nil,or_false,not_or] at h
 obtain⟨h1,h2,h3,h8,h9,h11,h17,h18,h26,h19,h21,h22,h23,h25,h24,h28,h31,h33,h34,h35,h36,h37,h40,h41,h42,h38,h39⟩:=h
 have g1:(id==1)=false:=by simpa using h1
 have g2:(id==2)=false:=by simpa using h2
 have g3:(id==3)=false:=by simpa using h3
 have g8:(id==8)=false:=by simpa using h8
 have g9:(id==9)=false:=by simpa using h9
 have g11:(id==11)=false:=by simpa using h11
 have g17:(id==17)=false:=by simpa using h17
 have g18:(id==18)=false:=by simpa using h18
 have g26:(id==26)=false:=by simpa using h26
 have g19:(id==19)=false:=by simpa using h19
 have g21:(id==21)=false:=by simpa using h21
 have g22:(id==22)=false:=by simpa using h22
 have g23:(id==23)=false:=by simpa using h23
 have g25:(id==25)=false:=by simpa using h25
 have g24:(id==24)=false:=by simpa using h24
 have g28:(id==28)=false:=by simpa using h28
 have g31:(id==31)=false:=by simpa using h31
 have g33:(id==33)=false:=by simpa using h33
 have g34:(id==34)=false:=by simpa using h34
 have g35:(id==35)=false:=by simpa using h35
 have g36:(id==36)=false:=by simpa using h36
 have g37:(id==37)=false:=by simpa using h37
 have g40:(id==40)=false:=by simpa using h40
 have g41:(id==41)=false:=by simpa using h41
 have g42:(id==42)=false:=by simpa using h42
 have g38:(id==38)=false:=by simpa using h38
 have g39:(id==39)=false:=by simpa using h39
 clear h1 h2 h3 h8 h9 h11 h17 h18 h26 h19 h21 h22 h23 h25 h24 h28 h31 h33 h34 h35 h36 h37 h40 h41 h42 h38 h39
 go_enter Tryz.func107,Tryz.ntmps107
 go_wp2_with fail
 refine q42v rfl rfl rfl rfl (heap_alloc_new w _) ?_
 unfold qhh9
 rw[P.out]
 exact⟨none,rfl,(Below.refl _ _).alloc (Nat.le_refl _) _,.inl rfl⟩
theorem q43i(id:Int)(w:World):Calls Tryz.prog 107 #[.int .i64 id] w (qhh9 w id):=by
 by_cases h:id∈[1,2,3,8,9,11,17,18,26,19,21,22,23,25,24,28,31,33,34,35,36,37,40,41,42,38,39]
 ·simp only[List.mem_cons,List.not_mem_nil,or_false] at h
  rcases h with rfl | rfl | rfl | rfl | rfl | rfl | rfl | rfl | rfl | rfl | rfl | rfl | rfl | rfl | rfl | rfl | rfl | rfl | rfl | rfl | rfl | rfl | rfl | rfl | rfl | rfl | rfl
  ·exact qvji w
  ·exact q5vf w
  ·exact qfeo w
  ·exact qfoi w
  ·exact q9se w
  ·exact q36q w
  ·exact qy7b w
  ·exact qvou w
  ·exact q7h7 w
  ·exact q9ou w
  ·exact qcf1 w
  ·exact q2ch w
  ·exact qwx5 w
  ·exact qpyw w
  ·exact qrbx w
  ·exact q8hr w
  ·exact qtfc w
  ·exact qx1h w
  ·exact qilj w
  ·exact qc9d w
  ·exact qy6u w
  ·exact qs8t w
  ·exact q0q4 w
  ·exact qmqk w
  ·exact qcij w
  ·exact qhr0 w
  ·exact q7xe w
 ·exact qpnw id w h
theorem q57y(id:Int):(prow id).kinds.length≤14:=by
 by_cases h:id < 1∨42 < id
 ·rw[q0dw h];decide
 ·exact of_decide_eq_true (qoa5 (fun _ r=>decide (r.kinds.length≤14)) (by decide) (by omega))
theorem qkrp(a:Int)(A:Option Addr)(n c:Nat)(x y:Int)(W:World):(Instr.field 147 (.agg #[.int .i64 a,.slice A n c,.int .u32 x,.int .u32 y]) 0).run Tryz.prog W = .ok (.int .i64 a) W:=by kernel_rfl
theorem qan2(a:Int)(A:Option Addr)(n c:Nat)(x y:Int)(W:World):(Instr.field 147 (.agg #[.int .i64 a,.slice A n c,.int .u32 x,.int .u32 y]) 1).run Tryz.prog W = .ok (.slice A n c) W:=by kernel_rfl
theorem q9my(kind id:Int)(w:World):Calls Tryz.prog 106 #[.int .i64 kind,.int .i64 id] w fun e w'=>e = .returned (.bool (mayP kind id))∧Below w.heap.size w w':=by
 have hm:mayP kind id=(prow id).kinds.contains kind:=rfl
 have h14:=q57y id
 have LA:=q43i id w
 unfold qhh9 at LA
 rw[hm]
 generalize (prow id).kinds=ks at *
 generalize (((prow id).shape:Nat):Int)=sh at *
 generalize (((prow id).least:Nat):Int)=le at *
 generalize (((prow id).most:Nat):Int)=mo at *
 obtain⟨n,hn⟩:∃n,ks.length=n:=⟨_,rfl⟩
 rw[hn] at LA h14
 have q0:(n:Int)≤14:=by omega
 have HN:=Lib.hid hn
 have LA:=Lib.hid LA
 generalize hC:ks.contains kind=C
 have HC:=Lib.hid hC
 clear hm hn hC h14
 go_enter Tryz.func106,Tryz.ntmps106
 go_wp2_with fail
 refine(LA.out).mono ?_
 rintro e w1 ⟨A,rfl,hb,hk⟩
 have HB:=Lib.hid hb
 have HK:=Lib.hid hk
 have F1:=qan2 sh A n n le mo
 clear hb hk LA
 go_wp2_with fail
 clear F1
 go_loopg [6] n (fun gk v wx=>∃k:Nat,k≤n∧gk=n - k∧v = .int .i64 (k:Int)∧wx=w1∧∀j x,j < k→ks[j]? = some x→x≠kind)
 case atStart=>exact⟨0,Nat.zero_le _,rfl,rfl,rfl,fun j x h=>by omega⟩
 case round=>
  obtain⟨k,hk,rfl,rfl,rfl,hno⟩:=hrel
  have HNO:=Lib.hid hno
  by_cases hlt:k < n
  ·have hkl:k < ks.length:=by rw[HN.out];exact hlt
   obtain⟨x,hx⟩:∃x,ks[k]? = some x:=⟨_,List.getElem?_eq_getElem hkl⟩
   obtain⟨g,rfl,hg⟩:=HK.out.resolve_left (by rintro rfl;simp at hkl)
   have c0:wr.cell? ⟨g,k,none⟩=some (.int .i64 x):=by
    rw[cell_of_row _ _ _ _ _ _ hg]
    simp[hx]
   have q1:(k:Int) < (n:Int):=by omega
   have HX:=Lib.hid hx
   have HL:=Lib.hid hlt
   clear hno hkl hx hg hlt hk
   by_cases he:x=kind
   ·subst he
    have hC:=HC.out
    have:C=true:=by rw[←hC];exact List.contains_iff_mem.2 (List.mem_of_getElem? HX.out)
    clear hC
    subst this
    go_wp2_with fail
    go_ret
    exact⟨rfl,HB.out⟩
   ·have q2:(x==kind)=false:=by simpa using he
    have HE:=Lib.hid he
    clear he
    go_wp2_with fail
    go_roundg (n - (k+1))
    case measure=>have:=HL.out;omega
    case rel=>
     refine⟨k+1,by have:=HL.out;omega,rfl,by go_num,rfl,fun j y hj hy=>?_⟩
     by_cases hjk:j=k
     ·subst hjk
      have:=hy.symm.trans HX.out
      injection this with this
      rw[this];exact HE.out
     ·exact HNO.out j y (by omega) hy
  ·obtain rfl:k=n:=by omega
   have hC:=HC.out
   have:C=false:=by
    rw[←hC]
    refine Bool.eq_false_iff.2 fun h=>?_
    obtain⟨j,hj⟩:=List.mem_iff_getElem?.1 (List.contains_iff_mem.1 h)
    exact HNO.out j kind (by have:=(List.getElem?_eq_some_iff.1 hj).1;rw[HN.out] at this;exact this) hj rfl
   clear hC
   subst this
   clear hno hlt hk
   go_wp2_with fail
   go_ret
   exact⟨rfl,HB.out⟩
theorem q30m(kind id:Int)(w:World):Calls Tryz.prog 111 #[.int .i64 kind,.int .i64 id] w fun e w'=>e = .returned (.bool (quux kind id))∧Below w.heap.size w w':=by
 have MY:=q9my kind id w
 unfold quux
 generalize mayP kind id=b at *
 obtain⟨b1,h1⟩:∃b,(id==38)=b:=⟨_,rfl⟩
 obtain⟨b2,h2⟩:∃b,(id==11)=b:=⟨_,rfl⟩
 obtain⟨b3,h3⟩:∃b,(kind==3)=b:=⟨_,rfl⟩
 rw[h1,h2,h3]
 have MY:=Lib.hid MY
 cases b<;>cases b1<;>cases b2<;>cases b3<;>
 ·go_enter Tryz.func111,Tryz.ntmps111
  go_wp2_with fail
  refine(MY.out).mono ?_
  rintro e w1 ⟨rfl,hb⟩
  go_wp2_with fail
  go_ret
  exact⟨rfl,hb⟩
theorem qbu6(n j:Nat)(hn:n < 18446744073709551616):Op.shift .shr .u64 (n:Int) .u64 ((8*j:Nat):Int)=pure (.int .u64 ((n / 256^j:Nat):Int)):=by
 have:=qg6w n j hn
 rw[shift_shr_any _ _ _ _ (by omega)] at this ⊢
 exact this
theorem qeva(n c:Nat)(w:World)(hn:n < 18446744073709551616)(h0:1≤c)(h8:c≤8) :
 Calls Tryz.prog 136 #[.int .u64 n,.int .i64 c] w fun e w'=>e = .returned (.string (bs (be n c)))∧Below w.heap.size w w':=by
 obtain⟨i0,hi,hz0,hz1,hz2⟩:=info_parts qsz0
 have a1:min (c:Int) 16=(c:Int):=by omega
 have a2:max (0:Int) (c:Int)=(c:Int):=by omega
 have a6:0 < c:=by omega
 have HN:=Lib.hid hn
 have H8:=Lib.hid h8
 have a4:(c:Int)≤16:=by omega
 have a5:(0:Int)≤(c:Int):=by omega
 clear hn h8 h0
 go_enter Tryz.func136,Tryz.ntmps136
 go_wp2_with fail
 go_loopg [5,6] c (fun gk v i wr=>∃k:Nat,k≤c∧gk=c - k∧i = .int .i64 ((c:Int) - 1 - (k:Int))∧wr.ownsRow w.heap.size 5 1 v k ((be (n / 256^(c - k)) k).map u8v)∧Below w.heap.size w wr)
 case atStart=>exact⟨0,Nat.zero_le _,rfl,by simp,World.ownsRow_nil _ _ _ _,Below.refl _ _⟩
 case round=>
  obtain⟨k,hk,rfl,rfl,hown,hb⟩:=hrel
  by_cases hlt:k < c
  ·obtain⟨j,hj⟩:∃j:Nat,c=k+1+j:=⟨c - (k+1),by omega⟩
   have hz:(c:Int) - 1 - (k:Int)=(j:Int):=by omega
   rw[hz]
   have hst:=qxkn n c k hlt
   have hsh0:=qbu6 n j HN.out
   obtain⟨q,hq⟩:∃q:Nat,8*j=q:=⟨_,rfl⟩
   rw[hq] at hsh0
   have e1:c - (k+1)=j:=by omega
   rw[e1] at hst
   generalize hm:n / 256^j=m at hst hsh0
   have HM:=Lib.hid (show n / 256^(c - (k+1))=m by rw[e1];exact hm)
   have HS:=Lib.hid hst
   have hsh:Op.shift .shr .u64 (n:Int) .u64 (q:Int)=pure (.int .u64 (m:Int)):=hsh0
   have hj8:j < 8:=by have:=H8.out;omega
   have g1:(0:Int)≤(j:Int):=by omega
   have g2:(j:Int) < 8:=by omega
   have g3:IntKind.i64.wrap (8*(j:Int))=(q:Int):=by simp only[IntKind.wrap_i64];omega
   have g4:IntKind.u64.wrap (q:Int)=(q:Int):=by simp only[IntKind.wrap_u64];omega
   obtain⟨z,hz2⟩:∃z:Int,(j:Int) - 1=z:=⟨_,rfl⟩
   have g5:IntKind.i64.wrap ((j:Int) - 1)=z:=by simp only[IntKind.wrap_i64];omega
   have HZ:=Lib.hid (show z=(c:Int) - 1 - ((k+1:Nat):Int) by omega)
   have HL:=Lib.hid hlt
   have HB:=Lib.hid hb
   have HO:=Lib.hid (hown.alloc (.cells #[.int .u8 ((m:Int)%256)] 5))
   have OL:=Lib.hid (fun j hj=>(hown.lt j hj).1)
   have hbs:w.heap.size≤wr.heap.size:=hb.size
   have HK:=Lib.hid (show k < 9 by have:=H8.out;omega)
   clear hm hsh0 hst hj hz hj8 hq e1 hz2 hlt hk hown hb
   go_wp2_with (at_builtin;refine wpList_append_own _ rfl _ _ 97 rfl w.heap.size 5 i0 (.int .u8 0) 1 1 Tryz.underlying97 hi hz0 hz1 hz2 rfl (by decide) _ _ _ rfl HO.out ⟨wr.heap.size,0,none⟩ 1 1 [.int .u8 ((m:Int)%256)] rfl rfl ?c1 ?c2 ?c3 ?c4 ?c5 ?_)
   case c1=>intro j u hj;cases j<;>simp at hj;subst hj;exact World.cell?_alloc_at _ _ _ _ rfl
   case c2=>intro u hu;simp at hu;subst hu;rfl
   case c3=>have:=HK.out;unfold maxLen;omega
   case c4=>have:=HK.out;omega
   case c5=>simp;omega
   intro v' w1 hown' hgrow _
   have hb':Below w.heap.size w w1:=(HB.out.alloc hbs _).grown hgrow (by simp;omega) (fun j hj=>OL.out j hj)
   have hown2:w1.ownsRow w.heap.size 5 1 v' (k+1) ((be (n / 256^(c - (k+1))) (k+1)).map u8v):=by
    rw[HM.out,HS.out];simpa [u8v] using hown'
   have HB2:=Lib.hid hb'
   have HO2:=Lib.hid hown2
   clear hown' hgrow hown2 hb'
   go_wp2_with fail
   go_roundg (c - (k+1))
   case measure=>have:=HL.out;omega
   case rel=>exact⟨k+1,by have:=HL.out;omega,rfl,by rw[HZ.out],HO2.out,HB2.out⟩
  ·obtain rfl:k=c:=by omega
   have hz:(k:Int) - 1 - (k:Int)= -1:=by omega
   rw[hz]
   have hcv:=q3j9 _ hown
   have e0:n / 256^(k - k)=n:=by simp
   rw[e0] at hcv
   have HB:=Lib.hid hb
   clear hown hb hz hlt hk e0
   go_wp2_with fail
   go_ret
   exact⟨rfl,HB.out⟩
end Go.Proofs.YtbklidpadffpgaaGreat
