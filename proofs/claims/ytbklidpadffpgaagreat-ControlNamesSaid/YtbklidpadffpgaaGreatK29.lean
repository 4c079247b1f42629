/- What a kind may have: reason.codes. Condition: none. -/
import Derived.Test.YtbklidpadffpgaaGreatK28
set_option maxRecDepth 100000
namespace Go.Proofs.YtbklidpadffpgaaGreat
open Go.RowKit
theorem qwxg(W:World)(l:List Nat)(t:TypeId)(cs:Array Value)(h:cs=(l.map fun(x:Nat)=>Value.int .i64 (x:Int)).toArray)(i x:Nat)(hx:l[i]? = some x) :
 (W.alloc (.cells cs t)).cell? ⟨W.heap.size,i,none⟩=some (.int .i64 (x:Int)):=by
 rw[World.cell?_alloc_at _ _ _ _ rfl,h]
 simp[hx]
theorem qn4c(w:World) :
 Calls Tryz.prog 90 #[.int .i64 2] w fun e w'=>e = .returned (V4 (q71c 1))∧Below w.heap.size w w':=by
 have H0:=Lib.hid (heap_alloc_new w (.cells #[.int .u64 0,.int .u64 0,.int .u64 0,.int .u64 0] 129))
 have L0:=Lib.hid (show Below w.heap.size w (w.alloc (.cells #[.int .u64 0,.int .u64 0,.int .u64 0,.int .u64 0] 129)) from(Below.refl _ _).alloc (Nat.le_refl _) _)
 go_enter Tryz.func90,Tryz.ntmps90
 go_wp2_with fail
 refine(qzke (w.heap.size+1) [0,140,144,149,151,159] 6 6 _ rfl (by decide) (by decide) (by have:=qwxg (w.alloc (.cells #[.int .u64 0,.int .u64 0,.int .u64 0,.int .u64 0] 129)) [0,140,144,149,151,159] 3 #[.int .i64 0,.int .i64 140,.int .i64 144,.int .i64 149,.int .i64 151,.int .i64 159] rfl;rw[World.size_alloc] at this;exact this) (by simp)).mono ?_
 rintro e w1 ⟨rfl,hb⟩
 have L1:=Lib.hid ((L0.out.alloc (by simp) (.cells #[.int .i64 0,.int .i64 140,.int .i64 144,.int .i64 149,.int .i64 151,.int .i64 159] 3)).trans (hb.mono (by simp only[World.size_alloc];omega)))
 have H1:=(hb.block _ (by simp only[World.size_alloc];omega)).trans ((heap_alloc_old _ (.cells #[.int .i64 0,.int .i64 140,.int .i64 144,.int .i64 149,.int .i64 151,.int .i64 159] 3) (by simp)).trans H0.out)
 clear hb
 unfold V4 at *
 go_wp2_with fail
 refine(qi6f (ofL [0,140,144,149,151,159]) 128 11 138 (OkW.ofL _) (by decide) (by decide) _).mono ?_
 rintro e w2 ⟨rfl,hb⟩
 have L2:=Lib.hid (L1.out.trans (hb.mono L1.out.size))
 have H2:=(hb.block _ (lt_of_block H1)).trans H1
 clear hb H1
 unfold V4 at *
 go_wp2_with fail
 refine(qi6f (addR (ofL [0,140,144,149,151,159]) 128 11) 153 5 157 ((OkW.ofL _).addR _ _) (by decide) (by decide) _).mono ?_
 rintro e w3 ⟨rfl,hb⟩
 have L3:=Lib.hid (L2.out.trans (hb.mono L2.out.size))
 have H3:=(hb.block _ (lt_of_block H2)).trans H2
 clear hb H2
 have LW:=Lib.hid (q6i6 L3.out (Nat.le_refl w.heap.size) (C4 (addR (addR (ofL [0,140,144,149,151,159]) 128 11) 153 5)))
 unfold V4
 generalize hX:(addR (addR (ofL [0,140,144,149,151,159]) 128 11) 153 5)=X
 rw[hX] at LW
 go_wp2_with (refine wpList_store_row rfl _ _ _ rfl w.heap.size _ rfl rfl 129 _ H3 q4jf rfl (by simp[Value.oneCell']) ?_)
 exact qc5m rfl rfl rfl rfl (setRow_heap _ _ _ _ _ _ H3) ⟨by rw[←hX];rfl,LW.out⟩
theorem qqus(w:World) :
 Calls Tryz.prog 90 #[.int .i64 4] w fun e w'=>e = .returned (V4 (q71c 2))∧Below w.heap.size w w':=by
 have H0:=Lib.hid (heap_alloc_new w (.cells #[.int .u64 0,.int .u64 0,.int .u64 0,.int .u64 0] 129))
 have L0:=Lib.hid (show Below w.heap.size w (w.alloc (.cells #[.int .u64 0,.int .u64 0,.int .u64 0,.int .u64 0] 129)) from(Below.refl _ _).alloc (Nat.le_refl _) _)
 go_enter Tryz.func90,Tryz.ntmps90
 go_wp2_with fail
 refine(qzke (w.heap.size+1) [0,16,128,131,135,144,145,151,153] 9 9 _ rfl (by decide) (by decide) (by have:=qwxg (w.alloc (.cells #[.int .u64 0,.int .u64 0,.int .u64 0,.int .u64 0] 129)) [0,16,128,131,135,144,145,151,153] 3 #[.int .i64 0,.int .i64 16,.int .i64 128,.int .i64 131,.int .i64 135,.int .i64 144,.int .i64 145,.int .i64 151,.int .i64 153] rfl;rw[World.size_alloc] at this;exact this) (by simp)).mono ?_
 rintro e w1 ⟨rfl,hb⟩
 have L1:=Lib.hid ((L0.out.alloc (by simp) (.cells #[.int .i64 0,.int .i64 16,.int .i64 128,.int .i64 131,.int .i64 135,.int .i64 144,.int .i64 145,.int .i64 151,.int .i64 153] 3)).trans (hb.mono (by simp only[World.size_alloc];omega)))
 have H1:=(hb.block _ (by simp only[World.size_alloc];omega)).trans ((heap_alloc_old _ (.cells #[.int .i64 0,.int .i64 16,.int .i64 128,.int .i64 131,.int .i64 135,.int .i64 144,.int .i64 145,.int .i64 151,.int .i64 153] 3) (by simp)).trans H0.out)
 clear hb
 have LW:=Lib.hid (q6i6 L1.out (Nat.le_refl w.heap.size) (C4 (ofL [0,16,128,131,135,144,145,151,153])))
 unfold V4
 generalize hX:(ofL [0,16,128,131,135,144,145,151,153])=X
 rw[hX] at LW
 go_wp2_with (refine wpList_store_row rfl _ _ _ rfl w.heap.size _ rfl rfl 129 _ H1 q4jf rfl (by simp[Value.oneCell']) ?_)
 exact qc5m rfl rfl rfl rfl (setRow_heap _ _ _ _ _ _ H1) ⟨by rw[←hX];rfl,LW.out⟩
theorem qov5(w:World) :
 Calls Tryz.prog 90 #[.int .i64 5] w fun e w'=>e = .returned (V4 (q71c 2))∧Below w.heap.size w w':=by
 have H0:=Lib.hid (heap_alloc_new w (.cells #[.int .u64 0,.int .u64 0,.int .u64 0,.int .u64 0] 129))
 have L0:=Lib.hid (show Below w.heap.size w (w.alloc (.cells #[.int .u64 0,.int .u64 0,.int .u64 0,.int .u64 0] 129)) from(Below.refl _ _).alloc (Nat.le_refl _) _)
 go_enter Tryz.func90,Tryz.ntmps90
 go_wp2_with fail
 refine(qzke (w.heap.size+1) [0,16,128,131,135,144,145,151,153] 9 9 _ rfl (by decide) (by decide) (by have:=qwxg (w.alloc (.cells #[.int .u64 0,.int .u64 0,.int .u64 0,.int .u64 0] 129)) [0,16,128,131,135,144,145,151,153] 3 #[.int .i64 0,.int .i64 16,.int .i64 128,.int .i64 131,.int .i64 135,.int .i64 144,.int .i64 145,.int .i64 151,.int .i64 153] rfl;rw[World.size_alloc] at this;exact this) (by simp)).mono ?_
 rintro e w1 ⟨rfl,hb⟩
 have L1:=Lib.hid ((L0.out.alloc (by simp) (.cells #[.int .i64 0,.int .i64 16,.int .i64 128,.int .i64 131,.int .i64 135,.int .i64 144,.int .i64 145,.int .i64 151,.int .i64 153] 3)).trans (hb.mono (by simp only[World.size_alloc];omega)))
 have H1:=(hb.block _ (by simp only[World.size_alloc];omega)).trans ((heap_alloc_old _ (.cells #[.int .i64 0,.int .i64 16,.int .i64 128,.int .i64 131,.int .i64 135,.int .i64 144,.int .i64 145,.int .i64 151,.int .i64 153] 3) (by simp)).trans H0.out)
 clear hb
 have LW:=Lib.hid (q6i6 L1.out (Nat.le_refl w.heap.size) (C4 (ofL [0,16,128,131,135,144,145,151,153])))
 unfold V4
 generalize hX:(ofL [0,16,128,131,135,144,145,151,153])=X
 rw[hX] at LW
 go_wp2_with (refine wpList_store_row rfl _ _ _ rfl w.heap.size _ rfl rfl 129 _ H1 q4jf rfl (by simp[Value.oneCell']) ?_)
 exact qc5m rfl rfl rfl rfl (setRow_heap _ _ _ _ _ _ H1) ⟨by rw[←hX];rfl,LW.out⟩
theorem qate(w:World) :
 Calls Tryz.prog 90 #[.int .i64 6] w fun e w'=>e = .returned (V4 (q71c 3))∧Below w.heap.size w w':=by
 have H0:=Lib.hid (heap_alloc_new w (.cells #[.int .u64 0,.int .u64 0,.int .u64 0,.int .u64 0] 129))
 have L0:=Lib.hid (show Below w.heap.size w (w.alloc (.cells #[.int .u64 0,.int .u64 0,.int .u64 0,.int .u64 0] 129)) from(Below.refl _ _).alloc (Nat.le_refl _) _)
 go_enter Tryz.func90,Tryz.ntmps90
 go_wp2_with fail
 refine(qzke (w.heap.size+1) [0,146] 2 2 _ rfl (by decide) (by decide) (by have:=qwxg (w.alloc (.cells #[.int .u64 0,.int .u64 0,.int .u64 0,.int .u64 0] 129)) [0,146] 3 #[.int .i64 0,.int .i64 146] rfl;rw[World.size_alloc] at this;exact this) (by simp)).mono ?_
 rintro e w1 ⟨rfl,hb⟩
 have L1:=Lib.hid ((L0.out.alloc (by simp) (.cells #[.int .i64 0,.int .i64 146] 3)).trans (hb.mono (by simp only[World.size_alloc];omega)))
 have H1:=(hb.block _ (by simp only[World.size_alloc];omega)).trans ((heap_alloc_old _ (.cells #[.int .i64 0,.int .i64 146] 3) (by simp)).trans H0.out)
 clear hb
 have LW:=Lib.hid (q6i6 L1.out (Nat.le_refl w.heap.size) (C4 (ofL [0,146])))
 unfold V4
 generalize hX:(ofL [0,146])=X
 rw[hX] at LW
 go_wp2_with (refine wpList_store_row rfl _ _ _ rfl w.heap.size _ rfl rfl 129 _ H1 q4jf rfl (by simp[Value.oneCell']) ?_)
 exact qc5m rfl rfl rfl rfl (setRow_heap _ _ _ _ _ _ H1) ⟨by rw[←hX];rfl,LW.out⟩
theorem qkx7(w:World) :
 Calls Tryz.prog 90 #[.int .i64 7] w fun e w'=>e = .returned (V4 (q71c 3))∧Below w.heap.size w w':=by
 have H0:=Lib.hid (heap_alloc_new w (.cells #[.int .u64 0,.int .u64 0,.int .u64 0,.int .u64 0] 129))
 have L0:=Lib.hid (show Below w.heap.size w (w.alloc (.cells #[.int .u64 0,.int .u64 0,.int .u64 0,.int .u64 0] 129)) from(Below.refl _ _).alloc (Nat.le_refl _) _)
 go_enter Tryz.func90,Tryz.ntmps90
 go_wp2_with fail
 refine(qzke (w.heap.size+1) [0,146] 2 2 _ rfl (by decide) (by decide) (by have:=qwxg (w.alloc (.cells #[.int .u64 0,.int .u64 0,.int .u64 0,.int .u64 0] 129)) [0,146] 3 #[.int .i64 0,.int .i64 146] rfl;rw[World.size_alloc] at this;exact this) (by simp)).mono ?_
 rintro e w1 ⟨rfl,hb⟩
 have L1:=Lib.hid ((L0.out.alloc (by simp) (.cells #[.int .i64 0,.int .i64 146] 3)).trans (hb.mono (by simp only[World.size_alloc];omega)))
 have H1:=(hb.block _ (by simp only[World.size_alloc];omega)).trans ((heap_alloc_old _ (.cells #[.int .i64 0,.int .i64 146] 3) (by simp)).trans H0.out)
 clear hb
 have LW:=Lib.hid (q6i6 L1.out (Nat.le_refl w.heap.size) (C4 (ofL [0,146])))
 unfold V4
 generalize hX:(ofL [0,146])=X
 rw[hX] at LW
 go_wp2_with (refine wpList_store_row rfl _ _ _ rfl w.heap.size _ rfl rfl 129 _ H1 q4jf rfl (by simp[Value.oneCell']) ?_)
 exact qc5m rfl rfl rfl rfl (setRow_heap _ _ _ _ _ _ H1) ⟨by rw[←hX];rfl,LW.out⟩
theorem qnip(w:World) :
 Calls Tryz.prog 90 #[.int .i64 9] w fun e w'=>e = .returned (V4 (q71c 4))∧Below w.heap.size w w':=by
 have H0:=Lib.hid (heap_alloc_new w (.cells #[.int .u64 0,.int .u64 0,.int .u64 0,.int .u64 0] 129))
 have L0:=Lib.hid (show Below w.heap.size w (w.alloc (.cells #[.int .u64 0,.int .u64 0,.int .u64 0,.int .u64 0] 129)) from(Below.refl _ _).alloc (Nat.le_refl _) _)
 go_enter Tryz.func90,Tryz.ntmps90
 go_wp2_with fail
 refine(qzke (w.heap.size+1) [0,1,2,128,131,135,143,145,151,158,161,162] 12 12 _ rfl (by decide) (by decide) (by have:=qwxg (w.alloc (.cells #[.int .u64 0,.int .u64 0,.int .u64 0,.int .u64 0] 129)) [0,1,2,128,131,135,143,145,151,158,161,162] 3 #[.int .i64 0,.int .i64 1,.int .i64 2,.int .i64 128,.int .i64 131,.int .i64 135,.int .i64 143,.int .i64 145,.int .i64 151,.int .i64 158,.int .i64 161,.int .i64 162] rfl;rw[World.size_alloc] at this;exact this) (by simp)).mono ?_
 rintro e w1 ⟨rfl,hb⟩
 have L1:=Lib.hid ((L0.out.alloc (by simp) (.cells #[.int .i64 0,.int .i64 1,.int .i64 2,.int .i64 128,.int .i64 131,.int .i64 135,.int .i64 143,.int .i64 145,.int .i64 151,.int .i64 158,.int .i64 161,.int .i64 162] 3)).trans (hb.mono (by simp only[World.size_alloc];omega)))
 have H1:=(hb.block _ (by simp only[World.size_alloc];omega)).trans ((heap_alloc_old _ (.cells #[.int .i64 0,.int .i64 1,.int .i64 2,.int .i64 128,.int .i64 131,.int .i64 135,.int .i64 143,.int .i64 145,.int .i64 151,.int .i64 158,.int .i64 161,.int .i64 162] 3) (by simp)).trans H0.out)
 clear hb
 have LW:=Lib.hid (q6i6 L1.out (Nat.le_refl w.heap.size) (C4 (ofL [0,1,2,128,131,135,143,145,151,158,161,162])))
 unfold V4
 generalize hX:(ofL [0,1,2,128,131,135,143,145,151,158,161,162])=X
 rw[hX] at LW
 go_wp2_with (refine wpList_store_row rfl _ _ _ rfl w.heap.size _ rfl rfl 129 _ H1 q4jf rfl (by simp[Value.oneCell']) ?_)
 exact qc5m rfl rfl rfl rfl (setRow_heap _ _ _ _ _ _ H1) ⟨by rw[←hX];rfl,LW.out⟩
theorem qz2l(w:World) :
 Calls Tryz.prog 90 #[.int .i64 11] w fun e w'=>e = .returned (V4 (q71c 5))∧Below w.heap.size w w':=by
 have H0:=Lib.hid (heap_alloc_new w (.cells #[.int .u64 0,.int .u64 0,.int .u64 0,.int .u64 0] 129))
 have L0:=Lib.hid (show Below w.heap.size w (w.alloc (.cells #[.int .u64 0,.int .u64 0,.int .u64 0,.int .u64 0] 129)) from(Below.refl _ _).alloc (Nat.le_refl _) _)
 go_enter Tryz.func90,Tryz.ntmps90
 go_wp2_with fail
 refine(qzke (w.heap.size+1) [0,17,128,131,135,143,145] 7 7 _ rfl (by decide) (by decide) (by have:=qwxg (w.alloc (.cells #[.int .u64 0,.int .u64 0,.int .u64 0,.int .u64 0] 129)) [0,17,128,131,135,143,145] 3 #[.int .i64 0,.int .i64 17,.int .i64 128,.int .i64 131,.int .i64 135,.int .i64 143,.int .i64 145] rfl;rw[World.size_alloc] at this;exact this) (by simp)).mono ?_
 rintro e w1 ⟨rfl,hb⟩
 have L1:=Lib.hid ((L0.out.alloc (by simp) (.cells #[.int .i64 0,.int .i64 17,.int .i64 128,.int .i64 131,.int .i64 135,.int .i64 143,.int .i64 145] 3)).trans (hb.mono (by simp only[World.size_alloc];omega)))
 have H1:=(hb.block _ (by simp only[World.size_alloc];omega)).trans ((heap_alloc_old _ (.cells #[.int .i64 0,.int .i64 17,.int .i64 128,.int .i64 131,.int .i64 135,.int .i64 143,.int .i64 145] 3) (by simp)).trans H0.out)
 clear hb
 have LW:=Lib.hid (q6i6 L1.out (Nat.le_refl w.heap.size) (C4 (ofL [0,17,128,131,135,143,145])))
 unfold V4
 generalize hX:(ofL [0,17,128,131,135,143,145])=X
 rw[hX] at LW
 go_wp2_with (refine wpList_store_row rfl _ _ _ rfl w.heap.size _ rfl rfl 129 _ H1 q4jf rfl (by simp[Value.oneCell']) ?_)
 exact qc5m rfl rfl rfl rfl (setRow_heap _ _ _ _ _ _ H1) ⟨by rw[←hX];rfl,LW.out⟩
theorem qk8g(w:World) :
 Calls Tryz.prog 90 #[.int .i64 14] w fun e w'=>e = .returned (V4 (q71c 6))∧Below w.heap.size w w':=by
 have H0:=Lib.hid (heap_alloc_new w (.cells #[.int .u64 0,.int .u64 0,.int .u64 0,.int .u64 0] 129))
 have L0:=Lib.hid (show Below w.heap.size w (w.alloc (.cells #[.int .u64 0,.int .u64 0,.int .u64 0,.int .u64 0] 129)) from(Below.refl _ _).alloc (Nat.le_refl _) _)
 go_enter Tryz.func90,Tryz.ntmps90
 go_wp2_with fail
 refine(qzke (w.heap.size+1) [0,4,135,137,139,141,142,143,144] 9 9 _ rfl (by decide) (by decide) (by have:=qwxg (w.alloc (.cells #[.int .u64 0,.int .u64 0,.int .u64 0,.int .u64 0] 129)) [0,4,135,137,139,141,142,143,144] 3 #[.int .i64 0,.int .i64 4,.int .i64 135,.int .i64 137,.int .i64 139,.int .i64 141,.int .i64 142,.int .i64 143,.int .i64 144] rfl;rw[World.size_alloc] at this;exact this) (by simp)).mono ?_
 rintro e w1 ⟨rfl,hb⟩
 have L1:=Lib.hid ((L0.out.alloc (by simp) (.cells #[.int .i64 0,.int .i64 4,.int .i64 135,.int .i64 137,.int .i64 139,.int .i64 141,.int .i64 142,.int .i64 143,.int .i64 144] 3)).trans (hb.mono (by simp only[World.size_alloc];omega)))
 have H1:=(hb.block _ (by simp only[World.size_alloc];omega)).trans ((heap_alloc_old _ (.cells #[.int .i64 0,.int .i64 4,.int .i64 135,.int .i64 137,.int .i64 139,.int .i64 141,.int .i64 142,.int .i64 143,.int .i64 144] 3) (by simp)).trans H0.out)
 clear hb
 unfold V4 at *
 go_wp2_with fail
 refine(qi6f (ofL [0,4,135,137,139,141,142,143,144]) 128 4 131 (OkW.ofL _) (by decide) (by decide) _).mono ?_
 rintro e w2 ⟨rfl,hb⟩
 have L2:=Lib.hid (L1.out.trans (hb.mono L1.out.size))
 have H2:=(hb.block _ (lt_of_block H1)).trans H1
 clear hb H1
 unfold V4 at *
 go_wp2_with fail
 refine(qi6f (addR (ofL [0,4,135,137,139,141,142,143,144]) 128 4) 147 16 162 ((OkW.ofL _).addR _ _) (by decide) (by decide) _).mono ?_
 rintro e w3 ⟨rfl,hb⟩
 have L3:=Lib.hid (L2.out.trans (hb.mono L2.out.size))
 have H3:=(hb.block _ (lt_of_block H2)).trans H2
 clear hb H2
 have LW:=Lib.hid (q6i6 L3.out (Nat.le_refl w.heap.size) (C4 (addR (addR (ofL [0,4,135,137,139,141,142,143,144]) 128 4) 147 16)))
 unfold V4
 generalize hX:(addR (addR (ofL [0,4,135,137,139,141,142,143,144]) 128 4) 147 16)=X
 rw[hX] at LW
 go_wp2_with (refine wpList_store_row rfl _ _ _ rfl w.heap.size _ rfl rfl 129 _ H3 q4jf rfl (by simp[Value.oneCell']) ?_)
 exact qc5m rfl rfl rfl rfl (setRow_heap _ _ _ _ _ _ H3) ⟨by rw[←hX];rfl,LW.out⟩
theorem qudn(w:World) :
 Calls Tryz.prog 90 #[.int .i64 15] w fun e w'=>e = .returned (V4 (q71c 7))∧Below w.heap.size w w':=by
 have H0:=Lib.hid (heap_alloc_new w (.cells #[.int .u64 0,.int .u64 0,.int .u64 0,.int .u64 0] 129))
 have L0:=Lib.hid (show Below w.heap.size w (w.alloc (.cells #[.int .u64 0,.int .u64 0,.int .u64 0,.int .u64 0] 129)) from(Below.refl _ _).alloc (Nat.le_refl _) _)
 go_enter Tryz.func90,Tryz.ntmps90
 go_wp2_with fail
 refine(qzke (w.heap.size+1) [0,24,25] 3 3 _ rfl (by decide) (by decide) (by have:=qwxg (w.alloc (.cells #[.int .u64 0,.int .u64 0,.int .u64 0,.int .u64 0] 129)) [0,24,25] 3 #[.int .i64 0,.int .i64 24,.int .i64 25] rfl;rw[World.size_alloc] at this;exact this) (by simp)).mono ?_
 rintro e w1 ⟨rfl,hb⟩
 have L1:=Lib.hid ((L0.out.alloc (by simp) (.cells #[.int .i64 0,.int .i64 24,.int .i64 25] 3)).trans (hb.mono (by simp only[World.size_alloc];omega)))
 have H1:=(hb.block _ (by simp only[World.size_alloc];omega)).trans ((heap_alloc_old _ (.cells #[.int .i64 0,.int .i64 24,.int .i64 25] 3) (by simp)).trans H0.out)
 clear hb
 have LW:=Lib.hid (q6i6 L1.out (Nat.le_refl w.heap.size) (C4 (ofL [0,24,25])))
 unfold V4
 generalize hX:(ofL [0,24,25])=X
 rw[hX] at LW
 go_wp2_with (refine wpList_store_row rfl _ _ _ rfl w.heap.size _ rfl rfl 129 _ H1 q4jf rfl (by simp[Value.oneCell']) ?_)
 exact qc5m rfl rfl rfl rfl (setRow_heap _ _ _ _ _ _ H1) ⟨by rw[←hX];rfl,LW.out⟩
theorem qxh9(kind:Int)(w:World)(h:grp kind=0) :
 Calls Tryz.prog 90 #[.int .i64 kind] w fun e w'=>e = .returned (V4 (q71c 0))∧Below w.heap.size w w':=by
 have H0:=heap_alloc_new w (.cells #[.int .u64 0,.int .u64 0,.int .u64 0,.int .u64 0] 129)
 have LW:=Lib.hid (q6i6 (show Below w.heap.size w (w.alloc (.cells #[.int .u64 0,.int .u64 0,.int .u64 0,.int .u64 0] 129)) from(Below.refl _ _).alloc (Nat.le_refl _) _) (Nat.le_refl w.heap.size) #[.int .u64 0,.int .u64 0,.int .u64 0,.int .u64 0])
 unfold grp at h
 have a1:¬kind=2:=fun e=>by subst e;simp at h
 have a4:¬kind=4:=fun e=>by subst e;simp at h
 have a5:¬kind=5:=fun e=>by subst e;simp at h
 have a6:¬kind=6:=fun e=>by subst e;simp at h
 have a7:¬kind=7:=fun e=>by subst e;simp at h
 have a9:¬kind=9:=fun e=>by subst e;simp at h
 have a11:¬kind=11:=fun e=>by subst e;simp at h
 have a14:¬kind=14:=fun e=>by subst e;simp at h
 have a15:¬kind=15:=fun e=>by subst e;simp at h
 clear h
 go_enter Tryz.func90,Tryz.ntmps90
 go_wp2_with (refine wpList_store_row rfl _ _ _ rfl w.heap.size _ rfl rfl 129 _ H0 q4jf rfl (by simp[Value.oneCell']) ?_)
 exact qc5m rfl rfl rfl rfl (setRow_heap _ _ _ _ _ _ H0) ⟨rfl,LW.out⟩
theorem qyq4(kind:Int)(w:World) :
 Calls Tryz.prog 90 #[.int .i64 kind] w fun e w'=>e = .returned (V4 (q71c (grp kind)))∧Below w.heap.size w w':=by
 by_cases k2:kind=2
 ·subst k2;exact qn4c w
 by_cases k4:kind=4
 ·subst k4;exact qqus w
 by_cases k5:kind=5
 ·subst k5;exact qov5 w
 by_cases k6:kind=6
 ·subst k6;exact qate w
 by_cases k7:kind=7
 ·subst k7;exact qkx7 w
 by_cases k9:kind=9
 ·subst k9;exact qnip w
 by_cases k11:kind=11
 ·subst k11;exact qz2l w
 by_cases k14:kind=14
 ·subst k14;exact qk8g w
 by_cases k15:kind=15
 ·subst k15;exact qudn w
 have hg:grp kind=0:=by
  unfold grp
  simp[k2,k4,k5,k6,k7,k9,k11,k14,k15]
 rw[hg]
 exact qxh9 kind w hg
end Go.Proofs.YtbklidpadffpgaaGreat
