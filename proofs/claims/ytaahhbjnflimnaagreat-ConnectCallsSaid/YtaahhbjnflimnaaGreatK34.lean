/- The contract of polyglotref05.Check. Condition: strings of up to 200,000 bytes. -/
import Derived.Test.YtaahhbjnflimnaaGreatK24
import Derived.Test.YtaahhbjnflimnaaGreatK26
import Derived.Test.YtaahhbjnflimnaaGreatK32
set_option maxRecDepth 100000
set_option maxHeartbeats 1000000
namespace Go.Proofs.YtaahhbjnflimnaaGreat
open Go.RowKit
section
variable{kind id n sh le mo:Int}{st sv:ByteArray}{bt bv nm:Bool}
theorem qi4l(MY:∀W,Calls Tryz.prog 175 #[.int .i64 kind,.int .i64 id] W fun e w'=>e = .returned (.bool false)∧Below W.heap.size W w')(w:World) :
 Calls Tryz.prog 177 #[.int .i64 kind,.agg #[.int .i64 id,.int .u32 n,.string st,.string sv]] w fun e w'=>e = .returned (.int .i64 9)∧Below w.heap.size w w':=by
 have hb0:=heap_alloc_new w (.cells #[.int .i64 id,.int .u32 n,.string st,.string sv] 46)
 have hB0:Below w.heap.size w (w.alloc (.cells #[.int .i64 id,.int .u32 n,.string st,.string sv] 46)):=(Below.refl _ _).alloc (Nat.le_refl _) _
 have MY:=Lib.hid MY
 have P0:=Lib.hid hb0
 have B0:=Lib.hid hB0
 have c0:=cell_of_row _ w.heap.size 0 _ _ _ hb0
 clear hb0 hB0
 go_enter Tryz.func177,Tryz.ntmps177
 go_wp2_with fail
 refine(MY.out _).mono ?_
 rintro e w1 ⟨rfl,hb⟩
 have P1:=Lib.hid ((hb.block w.heap.size (by rw[World.size_alloc];omega)).trans P0.out)
 have B1:=Lib.hid (B0.out.trans (hb.mono B0.out.size))
 clear hb c0
 go_wp2_with fail
 go_ret
 exact⟨rfl,B1.out⟩
theorem qzd1(MY:∀W,Calls Tryz.prog 175 #[.int .i64 kind,.int .i64 id] W fun e w'=>e = .returned (.bool true)∧Below W.heap.size W w')(LK:∀W,Calls Tryz.prog 211 #[.int .i64 id] W fun e w'=>∃A m,e = .returned (.agg #[.int .i64 sh,.slice A m m,.int .u32 le,.int .u32 mo])∧Below W.heap.size W w')(q4:sh≤4)(_e5:(sh==5)=false)(_e6:(sh==6)=false)(_e7:(sh==7)=false)(_e7n:(sh != 7)=true)(hst1:(st.toList==[])=false)(_hst2:st.toList.isEmpty=false)(w:World) :
 Calls Tryz.prog 177 #[.int .i64 kind,.agg #[.int .i64 id,.int .u32 n,.string st,.string sv]] w fun e w'=>e = .returned (.int .i64 2)∧Below w.heap.size w w':=by
 have hb0:=heap_alloc_new w (.cells #[.int .i64 id,.int .u32 n,.string st,.string sv] 46)
 have hB0:Below w.heap.size w (w.alloc (.cells #[.int .i64 id,.int .u32 n,.string st,.string sv] 46)):=(Below.refl _ _).alloc (Nat.le_refl _) _
 have MY:=Lib.hid MY
 have LK:=Lib.hid LK
 have P0:=Lib.hid hb0
 have B0:=Lib.hid hB0
 have c0:=cell_of_row _ w.heap.size 0 _ _ _ hb0
 clear hb0 hB0
 go_enter Tryz.func177,Tryz.ntmps177
 go_wp2_with fail
 refine(MY.out _).mono ?_
 rintro e w1 ⟨rfl,hb⟩
 have P1:=Lib.hid ((hb.block w.heap.size (by rw[World.size_alloc];omega)).trans P0.out)
 have B1:=Lib.hid (B0.out.trans (hb.mono B0.out.size))
 clear hb c0
 have c0:=cell_of_row _ w.heap.size 0 _ _ _ P1.out
 go_wp2_with fail
 refine(LK.out _).mono ?_
 rintro e w2 ⟨A,m,rfl,hb⟩
 have P2:=Lib.hid ((hb.block w.heap.size (lt_of_block P1.out)).trans P1.out)
 have B2:=Lib.hid (B1.out.trans (hb.mono B1.out.size))
 clear hb c0
 have hq:∀o,(w2.alloc o).heap[w.heap.size]? = some (.cells #[.int .i64 id,.int .u32 n,.string st,.string sv] 46 (0,0)):=fun o=>(heap_alloc_old _ _ (lt_of_block P2.out)).trans P2.out
 have c0:∀o,(w2.alloc o).cell? ⟨w.heap.size,0,none⟩=some (.int .i64 id):=fun o=>cell_of_row _ w.heap.size 0 _ _ _ (hq o)
 have c1:∀o,(w2.alloc o).cell? ⟨w.heap.size,1,none⟩=some (.int .u32 n):=fun o=>cell_of_row _ w.heap.size 1 _ _ _ (hq o)
 have c2:∀o,(w2.alloc o).cell? ⟨w.heap.size,2,none⟩=some (.string st):=fun o=>cell_of_row _ w.heap.size 2 _ _ _ (hq o)
 have c3:∀o,(w2.alloc o).cell? ⟨w.heap.size,3,none⟩=some (.string sv):=fun o=>cell_of_row _ w.heap.size 3 _ _ _ (hq o)
 clear hq
 go_wp2_with (fail)
 go_ret
 exact⟨rfl,B2.out.alloc B2.out.size _⟩
theorem q55o(MY:∀W,Calls Tryz.prog 175 #[.int .i64 kind,.int .i64 id] W fun e w'=>e = .returned (.bool true)∧Below W.heap.size W w')(LK:∀W,Calls Tryz.prog 211 #[.int .i64 id] W fun e w'=>∃A m,e = .returned (.agg #[.int .i64 sh,.slice A m m,.int .u32 le,.int .u32 mo])∧Below W.heap.size W w')(q4:sh≤4)(_e5:(sh==5)=false)(_e6:(sh==6)=false)(_e7:(sh==7)=false)(e7n:(sh != 7)=true)(hst1:(st.toList==[])=true)(_hst2:st.toList.isEmpty=true)(hsv1:(sv.toList==[])=false)(_hsv2:sv.toList.isEmpty=false)(w:World) :
 Calls Tryz.prog 177 #[.int .i64 kind,.agg #[.int .i64 id,.int .u32 n,.string st,.string sv]] w fun e w'=>e = .returned (.int .i64 2)∧Below w.heap.size w w':=by
 have hb0:=heap_alloc_new w (.cells #[.int .i64 id,.int .u32 n,.string st,.string sv] 46)
 have hB0:Below w.heap.size w (w.alloc (.cells #[.int .i64 id,.int .u32 n,.string st,.string sv] 46)):=(Below.refl _ _).alloc (Nat.le_refl _) _
 have MY:=Lib.hid MY
 have LK:=Lib.hid LK
 have P0:=Lib.hid hb0
 have B0:=Lib.hid hB0
 have c0:=cell_of_row _ w.heap.size 0 _ _ _ hb0
 clear hb0 hB0
 go_enter Tryz.func177,Tryz.ntmps177
 go_wp2_with fail
 refine(MY.out _).mono ?_
 rintro e w1 ⟨rfl,hb⟩
 have P1:=Lib.hid ((hb.block w.heap.size (by rw[World.size_alloc];omega)).trans P0.out)
 have B1:=Lib.hid (B0.out.trans (hb.mono B0.out.size))
 clear hb c0
 have c0:=cell_of_row _ w.heap.size 0 _ _ _ P1.out
 go_wp2_with fail
 refine(LK.out _).mono ?_
 rintro e w2 ⟨A,m,rfl,hb⟩
 have P2:=Lib.hid ((hb.block w.heap.size (lt_of_block P1.out)).trans P1.out)
 have B2:=Lib.hid (B1.out.trans (hb.mono B1.out.size))
 clear hb c0
 have hq:∀o,(w2.alloc o).heap[w.heap.size]? = some (.cells #[.int .i64 id,.int .u32 n,.string st,.string sv] 46 (0,0)):=fun o=>(heap_alloc_old _ _ (lt_of_block P2.out)).trans P2.out
 have c0:∀o,(w2.alloc o).cell? ⟨w.heap.size,0,none⟩=some (.int .i64 id):=fun o=>cell_of_row _ w.heap.size 0 _ _ _ (hq o)
 have c1:∀o,(w2.alloc o).cell? ⟨w.heap.size,1,none⟩=some (.int .u32 n):=fun o=>cell_of_row _ w.heap.size 1 _ _ _ (hq o)
 have c2:∀o,(w2.alloc o).cell? ⟨w.heap.size,2,none⟩=some (.string st):=fun o=>cell_of_row _ w.heap.size 2 _ _ _ (hq o)
 have c3:∀o,(w2.alloc o).cell? ⟨w.heap.size,3,none⟩=some (.string sv):=fun o=>cell_of_row _ w.heap.size 3 _ _ _ (hq o)
 clear hq
 go_wp2_with (fail)
 go_ret
 exact⟨rfl,B2.out.alloc B2.out.size _⟩
theorem q2er(MY:∀W,Calls Tryz.prog 175 #[.int .i64 kind,.int .i64 id] W fun e w'=>e = .returned (.bool true)∧Below W.heap.size W w')(LK:∀W,Calls Tryz.prog 211 #[.int .i64 id] W fun e w'=>∃A m,e = .returned (.agg #[.int .i64 sh,.slice A m m,.int .u32 le,.int .u32 mo])∧Below W.heap.size W w')(q4:sh≤4)(_e5:(sh==5)=false)(_e6:(sh==6)=false)(_e7:(sh==7)=false)(e7n:(sh != 7)=true)(hst1:(st.toList==[])=true)(_hst2:st.toList.isEmpty=true)(hsv1:(sv.toList==[])=true)(_hsv2:sv.toList.isEmpty=true)(ql:n < le)(w:World) :
 Calls Tryz.prog 177 #[.int .i64 kind,.agg #[.int .i64 id,.int .u32 n,.string st,.string sv]] w fun e w'=>e = .returned (.int .i64 9)∧Below w.heap.size w w':=by
 have hb0:=heap_alloc_new w (.cells #[.int .i64 id,.int .u32 n,.string st,.string sv] 46)
 have hB0:Below w.heap.size w (w.alloc (.cells #[.int .i64 id,.int .u32 n,.string st,.string sv] 46)):=(Below.refl _ _).alloc (Nat.le_refl _) _
 have MY:=Lib.hid MY
 have LK:=Lib.hid LK
 have P0:=Lib.hid hb0
 have B0:=Lib.hid hB0
 have c0:=cell_of_row _ w.heap.size 0 _ _ _ hb0
 clear hb0 hB0
 go_enter Tryz.func177,Tryz.ntmps177
 go_wp2_with fail
 refine(MY.out _).mono ?_
 rintro e w1 ⟨rfl,hb⟩
 have P1:=Lib.hid ((hb.block w.heap.size (by rw[World.size_alloc];omega)).trans P0.out)
 have B1:=Lib.hid (B0.out.trans (hb.mono B0.out.size))
 clear hb c0
 have c0:=cell_of_row _ w.heap.size 0 _ _ _ P1.out
 go_wp2_with fail
 refine(LK.out _).mono ?_
 rintro e w2 ⟨A,m,rfl,hb⟩
 have P2:=Lib.hid ((hb.block w.heap.size (lt_of_block P1.out)).trans P1.out)
 have B2:=Lib.hid (B1.out.trans (hb.mono B1.out.size))
 clear hb c0
 have hq:∀o,(w2.alloc o).heap[w.heap.size]? = some (.cells #[.int .i64 id,.int .u32 n,.string st,.string sv] 46 (0,0)):=fun o=>(heap_alloc_old _ _ (lt_of_block P2.out)).trans P2.out
 have c0:∀o,(w2.alloc o).cell? ⟨w.heap.size,0,none⟩=some (.int .i64 id):=fun o=>cell_of_row _ w.heap.size 0 _ _ _ (hq o)
 have c1:∀o,(w2.alloc o).cell? ⟨w.heap.size,1,none⟩=some (.int .u32 n):=fun o=>cell_of_row _ w.heap.size 1 _ _ _ (hq o)
 have c2:∀o,(w2.alloc o).cell? ⟨w.heap.size,2,none⟩=some (.string st):=fun o=>cell_of_row _ w.heap.size 2 _ _ _ (hq o)
 have c3:∀o,(w2.alloc o).cell? ⟨w.heap.size,3,none⟩=some (.string sv):=fun o=>cell_of_row _ w.heap.size 3 _ _ _ (hq o)
 clear hq
 go_wp2_with (fail)
 go_ret
 exact⟨rfl,B2.out.alloc B2.out.size _⟩
theorem qjv2(MY:∀W,Calls Tryz.prog 175 #[.int .i64 kind,.int .i64 id] W fun e w'=>e = .returned (.bool true)∧Below W.heap.size W w')(LK:∀W,Calls Tryz.prog 211 #[.int .i64 id] W fun e w'=>∃A m,e = .returned (.agg #[.int .i64 sh,.slice A m m,.int .u32 le,.int .u32 mo])∧Below W.heap.size W w')(q4:sh≤4)(_e5:(sh==5)=false)(_e6:(sh==6)=false)(_e7:(sh==7)=false)(e7n:(sh != 7)=true)(hst1:(st.toList==[])=true)(_hst2:st.toList.isEmpty=true)(hsv1:(sv.toList==[])=true)(_hsv2:sv.toList.isEmpty=true)(ql:¬n < le)(qm:mo < n)(w:World) :
 Calls Tryz.prog 177 #[.int .i64 kind,.agg #[.int .i64 id,.int .u32 n,.string st,.string sv]] w fun e w'=>e = .returned (.int .i64 9)∧Below w.heap.size w w':=by
 have hb0:=heap_alloc_new w (.cells #[.int .i64 id,.int .u32 n,.string st,.string sv] 46)
 have hB0:Below w.heap.size w (w.alloc (.cells #[.int .i64 id,.int .u32 n,.string st,.string sv] 46)):=(Below.refl _ _).alloc (Nat.le_refl _) _
 have MY:=Lib.hid MY
 have LK:=Lib.hid LK
 have P0:=Lib.hid hb0
 have B0:=Lib.hid hB0
 have c0:=cell_of_row _ w.heap.size 0 _ _ _ hb0
 clear hb0 hB0
 go_enter Tryz.func177,Tryz.ntmps177
 go_wp2_with fail
 refine(MY.out _).mono ?_
 rintro e w1 ⟨rfl,hb⟩
 have P1:=Lib.hid ((hb.block w.heap.size (by rw[World.size_alloc];omega)).trans P0.out)
 have B1:=Lib.hid (B0.out.trans (hb.mono B0.out.size))
 clear hb c0
 have c0:=cell_of_row _ w.heap.size 0 _ _ _ P1.out
 go_wp2_with fail
 refine(LK.out _).mono ?_
 rintro e w2 ⟨A,m,rfl,hb⟩
 have P2:=Lib.hid ((hb.block w.heap.size (lt_of_block P1.out)).trans P1.out)
 have B2:=Lib.hid (B1.out.trans (hb.mono B1.out.size))
 clear hb c0
 have hq:∀o,(w2.alloc o).heap[w.heap.size]? = some (.cells #[.int .i64 id,.int .u32 n,.string st,.string sv] 46 (0,0)):=fun o=>(heap_alloc_old _ _ (lt_of_block P2.out)).trans P2.out
 have c0:∀o,(w2.alloc o).cell? ⟨w.heap.size,0,none⟩=some (.int .i64 id):=fun o=>cell_of_row _ w.heap.size 0 _ _ _ (hq o)
 have c1:∀o,(w2.alloc o).cell? ⟨w.heap.size,1,none⟩=some (.int .u32 n):=fun o=>cell_of_row _ w.heap.size 1 _ _ _ (hq o)
 have c2:∀o,(w2.alloc o).cell? ⟨w.heap.size,2,none⟩=some (.string st):=fun o=>cell_of_row _ w.heap.size 2 _ _ _ (hq o)
 have c3:∀o,(w2.alloc o).cell? ⟨w.heap.size,3,none⟩=some (.string sv):=fun o=>cell_of_row _ w.heap.size 3 _ _ _ (hq o)
 clear hq
 go_wp2_with (fail)
 go_ret
 exact⟨rfl,B2.out.alloc B2.out.size _⟩
theorem q2ka(MY:∀W,Calls Tryz.prog 175 #[.int .i64 kind,.int .i64 id] W fun e w'=>e = .returned (.bool true)∧Below W.heap.size W w')(LK:∀W,Calls Tryz.prog 211 #[.int .i64 id] W fun e w'=>∃A m,e = .returned (.agg #[.int .i64 sh,.slice A m m,.int .u32 le,.int .u32 mo])∧Below W.heap.size W w')(q4:sh≤4)(e5:(sh==5)=false)(e6:(sh==6)=false)(e7:(sh==7)=false)(e7n:(sh != 7)=true)(hst1:(st.toList==[])=true)(_hst2:st.toList.isEmpty=true)(hsv1:(sv.toList==[])=true)(_hsv2:sv.toList.isEmpty=true)(ql:¬n < le)(qm:¬mo < n)(e8:(id==8)=false)(w:World) :
 Calls Tryz.prog 177 #[.int .i64 kind,.agg #[.int .i64 id,.int .u32 n,.string st,.string sv]] w fun e w'=>e = .returned (.int .i64 0)∧Below w.heap.size w w':=by
 have hb0:=heap_alloc_new w (.cells #[.int .i64 id,.int .u32 n,.string st,.string sv] 46)
 have hB0:Below w.heap.size w (w.alloc (.cells #[.int .i64 id,.int .u32 n,.string st,.string sv] 46)):=(Below.refl _ _).alloc (Nat.le_refl _) _
 have MY:=Lib.hid MY
 have LK:=Lib.hid LK
 have P0:=Lib.hid hb0
 have B0:=Lib.hid hB0
 have c0:=cell_of_row _ w.heap.size 0 _ _ _ hb0
 clear hb0 hB0
 go_enter Tryz.func177,Tryz.ntmps177
 go_wp2_with fail
 refine(MY.out _).mono ?_
 rintro e w1 ⟨rfl,hb⟩
 have P1:=Lib.hid ((hb.block w.heap.size (by rw[World.size_alloc];omega)).trans P0.out)
 have B1:=Lib.hid (B0.out.trans (hb.mono B0.out.size))
 clear hb c0
 have c0:=cell_of_row _ w.heap.size 0 _ _ _ P1.out
 go_wp2_with fail
 refine(LK.out _).mono ?_
 rintro e w2 ⟨A,m,rfl,hb⟩
 have P2:=Lib.hid ((hb.block w.heap.size (lt_of_block P1.out)).trans P1.out)
 have B2:=Lib.hid (B1.out.trans (hb.mono B1.out.size))
 clear hb c0
 have hq:∀o,(w2.alloc o).heap[w.heap.size]? = some (.cells #[.int .i64 id,.int .u32 n,.string st,.string sv] 46 (0,0)):=fun o=>(heap_alloc_old _ _ (lt_of_block P2.out)).trans P2.out
 have c0:∀o,(w2.alloc o).cell? ⟨w.heap.size,0,none⟩=some (.int .i64 id):=fun o=>cell_of_row _ w.heap.size 0 _ _ _ (hq o)
 have c1:∀o,(w2.alloc o).cell? ⟨w.heap.size,1,none⟩=some (.int .u32 n):=fun o=>cell_of_row _ w.heap.size 1 _ _ _ (hq o)
 have c2:∀o,(w2.alloc o).cell? ⟨w.heap.size,2,none⟩=some (.string st):=fun o=>cell_of_row _ w.heap.size 2 _ _ _ (hq o)
 have c3:∀o,(w2.alloc o).cell? ⟨w.heap.size,3,none⟩=some (.string sv):=fun o=>cell_of_row _ w.heap.size 3 _ _ _ (hq o)
 clear hq
 go_wp2_with (fail)
 go_ret
 exact⟨rfl,B2.out.alloc B2.out.size _⟩
theorem qfon(MY:∀W,Calls Tryz.prog 175 #[.int .i64 kind,.int .i64 id] W fun e w'=>e = .returned (.bool true)∧Below W.heap.size W w')(LK:∀W,Calls Tryz.prog 211 #[.int .i64 id] W fun e w'=>∃A m,e = .returned (.agg #[.int .i64 5,.slice A m m,.int .u32 le,.int .u32 mo])∧Below W.heap.size W w')(hn:(n != 0)=true)(w:World) :
 Calls Tryz.prog 177 #[.int .i64 kind,.agg #[.int .i64 id,.int .u32 n,.string st,.string sv]] w fun e w'=>e = .returned (.int .i64 2)∧Below w.heap.size w w':=by
 have hb0:=heap_alloc_new w (.cells #[.int .i64 id,.int .u32 n,.string st,.string sv] 46)
 have hB0:Below w.heap.size w (w.alloc (.cells #[.int .i64 id,.int .u32 n,.string st,.string sv] 46)):=(Below.refl _ _).alloc (Nat.le_refl _) _
 have MY:=Lib.hid MY
 have LK:=Lib.hid LK
 have P0:=Lib.hid hb0
 have B0:=Lib.hid hB0
 have c0:=cell_of_row _ w.heap.size 0 _ _ _ hb0
 clear hb0 hB0
 go_enter Tryz.func177,Tryz.ntmps177
 go_wp2_with fail
 refine(MY.out _).mono ?_
 rintro e w1 ⟨rfl,hb⟩
 have P1:=Lib.hid ((hb.block w.heap.size (by rw[World.size_alloc];omega)).trans P0.out)
 have B1:=Lib.hid (B0.out.trans (hb.mono B0.out.size))
 clear hb c0
 have c0:=cell_of_row _ w.heap.size 0 _ _ _ P1.out
 go_wp2_with fail
 refine(LK.out _).mono ?_
 rintro e w2 ⟨A,m,rfl,hb⟩
 have P2:=Lib.hid ((hb.block w.heap.size (lt_of_block P1.out)).trans P1.out)
 have B2:=Lib.hid (B1.out.trans (hb.mono B1.out.size))
 clear hb c0
 have hq:∀o,(w2.alloc o).heap[w.heap.size]? = some (.cells #[.int .i64 id,.int .u32 n,.string st,.string sv] 46 (0,0)):=fun o=>(heap_alloc_old _ _ (lt_of_block P2.out)).trans P2.out
 have c0:∀o,(w2.alloc o).cell? ⟨w.heap.size,0,none⟩=some (.int .i64 id):=fun o=>cell_of_row _ w.heap.size 0 _ _ _ (hq o)
 have c1:∀o,(w2.alloc o).cell? ⟨w.heap.size,1,none⟩=some (.int .u32 n):=fun o=>cell_of_row _ w.heap.size 1 _ _ _ (hq o)
 have c2:∀o,(w2.alloc o).cell? ⟨w.heap.size,2,none⟩=some (.string st):=fun o=>cell_of_row _ w.heap.size 2 _ _ _ (hq o)
 have c3:∀o,(w2.alloc o).cell? ⟨w.heap.size,3,none⟩=some (.string sv):=fun o=>cell_of_row _ w.heap.size 3 _ _ _ (hq o)
 clear hq
 go_wp2_with (fail)
 go_ret
 exact⟨rfl,B2.out.alloc B2.out.size _⟩
theorem q60w(MY:∀W,Calls Tryz.prog 175 #[.int .i64 kind,.int .i64 id] W fun e w'=>e = .returned (.bool true)∧Below W.heap.size W w')(LK:∀W,Calls Tryz.prog 211 #[.int .i64 id] W fun e w'=>∃A m,e = .returned (.agg #[.int .i64 6,.slice A m m,.int .u32 le,.int .u32 mo])∧Below W.heap.size W w')(hn:(n != 0)=true)(w:World) :
 Calls Tryz.prog 177 #[.int .i64 kind,.agg #[.int .i64 id,.int .u32 n,.string st,.string sv]] w fun e w'=>e = .returned (.int .i64 2)∧Below w.heap.size w w':=by
 have hb0:=heap_alloc_new w (.cells #[.int .i64 id,.int .u32 n,.string st,.string sv] 46)
 have hB0:Below w.heap.size w (w.alloc (.cells #[.int .i64 id,.int .u32 n,.string st,.string sv] 46)):=(Below.refl _ _).alloc (Nat.le_refl _) _
 have MY:=Lib.hid MY
 have LK:=Lib.hid LK
 have P0:=Lib.hid hb0
 have B0:=Lib.hid hB0
 have c0:=cell_of_row _ w.heap.size 0 _ _ _ hb0
 clear hb0 hB0
 go_enter Tryz.func177,Tryz.ntmps177
 go_wp2_with fail
 refine(MY.out _).mono ?_
 rintro e w1 ⟨rfl,hb⟩
 have P1:=Lib.hid ((hb.block w.heap.size (by rw[World.size_alloc];omega)).trans P0.out)
 have B1:=Lib.hid (B0.out.trans (hb.mono B0.out.size))
 clear hb c0
 have c0:=cell_of_row _ w.heap.size 0 _ _ _ P1.out
 go_wp2_with fail
 refine(LK.out _).mono ?_
 rintro e w2 ⟨A,m,rfl,hb⟩
 have P2:=Lib.hid ((hb.block w.heap.size (lt_of_block P1.out)).trans P1.out)
 have B2:=Lib.hid (B1.out.trans (hb.mono B1.out.size))
 clear hb c0
 have hq:∀o,(w2.alloc o).heap[w.heap.size]? = some (.cells #[.int .i64 id,.int .u32 n,.string st,.string sv] 46 (0,0)):=fun o=>(heap_alloc_old _ _ (lt_of_block P2.out)).trans P2.out
 have c0:∀o,(w2.alloc o).cell? ⟨w.heap.size,0,none⟩=some (.int .i64 id):=fun o=>cell_of_row _ w.heap.size 0 _ _ _ (hq o)
 have c1:∀o,(w2.alloc o).cell? ⟨w.heap.size,1,none⟩=some (.int .u32 n):=fun o=>cell_of_row _ w.heap.size 1 _ _ _ (hq o)
 have c2:∀o,(w2.alloc o).cell? ⟨w.heap.size,2,none⟩=some (.string st):=fun o=>cell_of_row _ w.heap.size 2 _ _ _ (hq o)
 have c3:∀o,(w2.alloc o).cell? ⟨w.heap.size,3,none⟩=some (.string sv):=fun o=>cell_of_row _ w.heap.size 3 _ _ _ (hq o)
 clear hq
 go_wp2_with (fail)
 go_ret
 exact⟨rfl,B2.out.alloc B2.out.size _⟩
theorem qdtt(MY:∀W,Calls Tryz.prog 175 #[.int .i64 kind,.int .i64 id] W fun e w'=>e = .returned (.bool true)∧Below W.heap.size W w')(LK:∀W,Calls Tryz.prog 211 #[.int .i64 id] W fun e w'=>∃A m,e = .returned (.agg #[.int .i64 7,.slice A m m,.int .u32 le,.int .u32 mo])∧Below W.heap.size W w')(hn:(n != 0)=true)(w:World) :
 Calls Tryz.prog 177 #[.int .i64 kind,.agg #[.int .i64 id,.int .u32 n,.string st,.string sv]] w fun e w'=>e = .returned (.int .i64 2)∧Below w.heap.size w w':=by
 have hb0:=heap_alloc_new w (.cells #[.int .i64 id,.int .u32 n,.string st,.string sv] 46)
 have hB0:Below w.heap.size w (w.alloc (.cells #[.int .i64 id,.int .u32 n,.string st,.string sv] 46)):=(Below.refl _ _).alloc (Nat.le_refl _) _
 have MY:=Lib.hid MY
 have LK:=Lib.hid LK
 have P0:=Lib.hid hb0
 have B0:=Lib.hid hB0
 have c0:=cell_of_row _ w.heap.size 0 _ _ _ hb0
 clear hb0 hB0
 go_enter Tryz.func177,Tryz.ntmps177
 go_wp2_with fail
 refine(MY.out _).mono ?_
 rintro e w1 ⟨rfl,hb⟩
 have P1:=Lib.hid ((hb.block w.heap.size (by rw[World.size_alloc];omega)).trans P0.out)
 have B1:=Lib.hid (B0.out.trans (hb.mono B0.out.size))
 clear hb c0
 have c0:=cell_of_row _ w.heap.size 0 _ _ _ P1.out
 go_wp2_with fail
 refine(LK.out _).mono ?_
 rintro e w2 ⟨A,m,rfl,hb⟩
 have P2:=Lib.hid ((hb.block w.heap.size (lt_of_block P1.out)).trans P1.out)
 have B2:=Lib.hid (B1.out.trans (hb.mono B1.out.size))
 clear hb c0
 have hq:∀o,(w2.alloc o).heap[w.heap.size]? = some (.cells #[.int .i64 id,.int .u32 n,.string st,.string sv] 46 (0,0)):=fun o=>(heap_alloc_old _ _ (lt_of_block P2.out)).trans P2.out
 have c0:∀o,(w2.alloc o).cell? ⟨w.heap.size,0,none⟩=some (.int .i64 id):=fun o=>cell_of_row _ w.heap.size 0 _ _ _ (hq o)
 have c1:∀o,(w2.alloc o).cell? ⟨w.heap.size,1,none⟩=some (.int .u32 n):=fun o=>cell_of_row _ w.heap.size 1 _ _ _ (hq o)
 have c2:∀o,(w2.alloc o).cell? ⟨w.heap.size,2,none⟩=some (.string st):=fun o=>cell_of_row _ w.heap.size 2 _ _ _ (hq o)
 have c3:∀o,(w2.alloc o).cell? ⟨w.heap.size,3,none⟩=some (.string sv):=fun o=>cell_of_row _ w.heap.size 3 _ _ _ (hq o)
 clear hq
 go_wp2_with (fail)
 go_ret
 exact⟨rfl,B2.out.alloc B2.out.size _⟩
theorem qrri(MY:∀W,Calls Tryz.prog 175 #[.int .i64 kind,.int .i64 id] W fun e w'=>e = .returned (.bool true)∧Below W.heap.size W w')(LK:∀W,Calls Tryz.prog 211 #[.int .i64 id] W fun e w'=>∃A m,e = .returned (.agg #[.int .i64 5,.slice A m m,.int .u32 le,.int .u32 mo])∧Below W.heap.size W w')(hn:(n != 0)=false)(hsv1:(sv.toList==[])=false)(_hsv2:sv.toList.isEmpty=false)(w:World) :
 Calls Tryz.prog 177 #[.int .i64 kind,.agg #[.int .i64 id,.int .u32 n,.string st,.string sv]] w fun e w'=>e = .returned (.int .i64 2)∧Below w.heap.size w w':=by
 have hb0:=heap_alloc_new w (.cells #[.int .i64 id,.int .u32 n,.string st,.string sv] 46)
 have hB0:Below w.heap.size w (w.alloc (.cells #[.int .i64 id,.int .u32 n,.string st,.string sv] 46)):=(Below.refl _ _).alloc (Nat.le_refl _) _
 have MY:=Lib.hid MY
 have LK:=Lib.hid LK
 have P0:=Lib.hid hb0
 have B0:=Lib.hid hB0
 have c0:=cell_of_row _ w.heap.size 0 _ _ _ hb0
 clear hb0 hB0
 go_enter Tryz.func177,Tryz.ntmps177
 go_wp2_with fail
 refine(MY.out _).mono ?_
 rintro e w1 ⟨rfl,hb⟩
 have P1:=Lib.hid ((hb.block w.heap.size (by rw[World.size_alloc];omega)).trans P0.out)
 have B1:=Lib.hid (B0.out.trans (hb.mono B0.out.size))
 clear hb c0
 have c0:=cell_of_row _ w.heap.size 0 _ _ _ P1.out
 go_wp2_with fail
 refine(LK.out _).mono ?_
 rintro e w2 ⟨A,m,rfl,hb⟩
 have P2:=Lib.hid ((hb.block w.heap.size (lt_of_block P1.out)).trans P1.out)
 have B2:=Lib.hid (B1.out.trans (hb.mono B1.out.size))
 clear hb c0
 have hq:∀o,(w2.alloc o).heap[w.heap.size]? = some (.cells #[.int .i64 id,.int .u32 n,.string st,.string sv] 46 (0,0)):=fun o=>(heap_alloc_old _ _ (lt_of_block P2.out)).trans P2.out
 have c0:∀o,(w2.alloc o).cell? ⟨w.heap.size,0,none⟩=some (.int .i64 id):=fun o=>cell_of_row _ w.heap.size 0 _ _ _ (hq o)
 have c1:∀o,(w2.alloc o).cell? ⟨w.heap.size,1,none⟩=some (.int .u32 n):=fun o=>cell_of_row _ w.heap.size 1 _ _ _ (hq o)
 have c2:∀o,(w2.alloc o).cell? ⟨w.heap.size,2,none⟩=some (.string st):=fun o=>cell_of_row _ w.heap.size 2 _ _ _ (hq o)
 have c3:∀o,(w2.alloc o).cell? ⟨w.heap.size,3,none⟩=some (.string sv):=fun o=>cell_of_row _ w.heap.size 3 _ _ _ (hq o)
 clear hq
 go_wp2_with (fail)
 go_ret
 exact⟨rfl,B2.out.alloc B2.out.size _⟩
theorem qeju(MY:∀W,Calls Tryz.prog 175 #[.int .i64 kind,.int .i64 id] W fun e w'=>e = .returned (.bool true)∧Below W.heap.size W w')(LK:∀W,Calls Tryz.prog 211 #[.int .i64 id] W fun e w'=>∃A m,e = .returned (.agg #[.int .i64 6,.slice A m m,.int .u32 le,.int .u32 mo])∧Below W.heap.size W w')(hn:(n != 0)=false)(hsv1:(sv.toList==[])=false)(_hsv2:sv.toList.isEmpty=false)(w:World) :
 Calls Tryz.prog 177 #[.int .i64 kind,.agg #[.int .i64 id,.int .u32 n,.string st,.string sv]] w fun e w'=>e = .returned (.int .i64 2)∧Below w.heap.size w w':=by
 have hb0:=heap_alloc_new w (.cells #[.int .i64 id,.int .u32 n,.string st,.string sv] 46)
 have hB0:Below w.heap.size w (w.alloc (.cells #[.int .i64 id,.int .u32 n,.string st,.string sv] 46)):=(Below.refl _ _).alloc (Nat.le_refl _) _
 have MY:=Lib.hid MY
 have LK:=Lib.hid LK
 have P0:=Lib.hid hb0
 have B0:=Lib.hid hB0
 have c0:=cell_of_row _ w.heap.size 0 _ _ _ hb0
 clear hb0 hB0
 go_enter Tryz.func177,Tryz.ntmps177
 go_wp2_with fail
 refine(MY.out _).mono ?_
 rintro e w1 ⟨rfl,hb⟩
 have P1:=Lib.hid ((hb.block w.heap.size (by rw[World.size_alloc];omega)).trans P0.out)
 have B1:=Lib.hid (B0.out.trans (hb.mono B0.out.size))
 clear hb c0
 have c0:=cell_of_row _ w.heap.size 0 _ _ _ P1.out
 go_wp2_with fail
 refine(LK.out _).mono ?_
 rintro e w2 ⟨A,m,rfl,hb⟩
 have P2:=Lib.hid ((hb.block w.heap.size (lt_of_block P1.out)).trans P1.out)
 have B2:=Lib.hid (B1.out.trans (hb.mono B1.out.size))
 clear hb c0
 have hq:∀o,(w2.alloc o).heap[w.heap.size]? = some (.cells #[.int .i64 id,.int .u32 n,.string st,.string sv] 46 (0,0)):=fun o=>(heap_alloc_old _ _ (lt_of_block P2.out)).trans P2.out
 have c0:∀o,(w2.alloc o).cell? ⟨w.heap.size,0,none⟩=some (.int .i64 id):=fun o=>cell_of_row _ w.heap.size 0 _ _ _ (hq o)
 have c1:∀o,(w2.alloc o).cell? ⟨w.heap.size,1,none⟩=some (.int .u32 n):=fun o=>cell_of_row _ w.heap.size 1 _ _ _ (hq o)
 have c2:∀o,(w2.alloc o).cell? ⟨w.heap.size,2,none⟩=some (.string st):=fun o=>cell_of_row _ w.heap.size 2 _ _ _ (hq o)
 have c3:∀o,(w2.alloc o).cell? ⟨w.heap.size,3,none⟩=some (.string sv):=fun o=>cell_of_row _ w.heap.size 3 _ _ _ (hq o)
 clear hq
 go_wp2_with (fail)
 go_ret
 exact⟨rfl,B2.out.alloc B2.out.size _⟩
theorem qlqa(MY:∀W,Calls Tryz.prog 175 #[.int .i64 kind,.int .i64 id] W fun e w'=>e = .returned (.bool true)∧Below W.heap.size W w')(LK:∀W,Calls Tryz.prog 211 #[.int .i64 id] W fun e w'=>∃A m,e = .returned (.agg #[.int .i64 6,.slice A m m,.int .u32 le,.int .u32 mo])∧Below W.heap.size W w')(hn:(n != 0)=false)(hsv1:(sv.toList==[])=true)(_hsv2:sv.toList.isEmpty=true)(e8:(id==8)=false)(qb:(65535:Int) < (st.size:Int))(w:World) :
 Calls Tryz.prog 177 #[.int .i64 kind,.agg #[.int .i64 id,.int .u32 n,.string st,.string sv]] w fun e w'=>e = .returned (.int .i64 2)∧Below w.heap.size w w':=by
 have hb0:=heap_alloc_new w (.cells #[.int .i64 id,.int .u32 n,.string st,.string sv] 46)
 have hB0:Below w.heap.size w (w.alloc (.cells #[.int .i64 id,.int .u32 n,.string st,.string sv] 46)):=(Below.refl _ _).alloc (Nat.le_refl _) _
 have MY:=Lib.hid MY
 have LK:=Lib.hid LK
 have P0:=Lib.hid hb0
 have B0:=Lib.hid hB0
 have c0:=cell_of_row _ w.heap.size 0 _ _ _ hb0
 clear hb0 hB0
 go_enter Tryz.func177,Tryz.ntmps177
 go_wp2_with fail
 refine(MY.out _).mono ?_
 rintro e w1 ⟨rfl,hb⟩
 have P1:=Lib.hid ((hb.block w.heap.size (by rw[World.size_alloc];omega)).trans P0.out)
 have B1:=Lib.hid (B0.out.trans (hb.mono B0.out.size))
 clear hb c0
 have c0:=cell_of_row _ w.heap.size 0 _ _ _ P1.out
 go_wp2_with fail
 refine(LK.out _).mono ?_
 rintro e w2 ⟨A,m,rfl,hb⟩
 have P2:=Lib.hid ((hb.block w.heap.size (lt_of_block P1.out)).trans P1.out)
 have B2:=Lib.hid (B1.out.trans (hb.mono B1.out.size))
 clear hb c0
 have hq:∀o,(w2.alloc o).heap[w.heap.size]? = some (.cells #[.int .i64 id,.int .u32 n,.string st,.string sv] 46 (0,0)):=fun o=>(heap_alloc_old _ _ (lt_of_block P2.out)).trans P2.out
 have c0:∀o,(w2.alloc o).cell? ⟨w.heap.size,0,none⟩=some (.int .i64 id):=fun o=>cell_of_row _ w.heap.size 0 _ _ _ (hq o)
 have c1:∀o,(w2.alloc o).cell? ⟨w.heap.size,1,none⟩=some (.int .u32 n):=fun o=>cell_of_row _ w.heap.size 1 _ _ _ (hq o)
 have c2:∀o,(w2.alloc o).cell? ⟨w.heap.size,2,none⟩=some (.string st):=fun o=>cell_of_row _ w.heap.size 2 _ _ _ (hq o)
 have c3:∀o,(w2.alloc o).cell? ⟨w.heap.size,3,none⟩=some (.string sv):=fun o=>cell_of_row _ w.heap.size 3 _ _ _ (hq o)
 clear hq
 go_wp2_with (fail)
 go_ret
 exact⟨rfl,B2.out.alloc B2.out.size _⟩
theorem q9o2(MY:∀W,Calls Tryz.prog 175 #[.int .i64 kind,.int .i64 id] W fun e w'=>e = .returned (.bool true)∧Below W.heap.size W w')(LK:∀W,Calls Tryz.prog 211 #[.int .i64 id] W fun e w'=>∃A m,e = .returned (.agg #[.int .i64 6,.slice A m m,.int .u32 le,.int .u32 mo])∧Below W.heap.size W w')(hn:(n != 0)=false)(hsv1:(sv.toList==[])=true)(_hsv2:sv.toList.isEmpty=true)(e8:(id==8)=false)(qb:¬(65535:Int) < (st.size:Int))(w:World) :
 Calls Tryz.prog 177 #[.int .i64 kind,.agg #[.int .i64 id,.int .u32 n,.string st,.string sv]] w fun e w'=>e = .returned (.int .i64 0)∧Below w.heap.size w w':=by
 have hb0:=heap_alloc_new w (.cells #[.int .i64 id,.int .u32 n,.string st,.string sv] 46)
 have hB0:Below w.heap.size w (w.alloc (.cells #[.int .i64 id,.int .u32 n,.string st,.string sv] 46)):=(Below.refl _ _).alloc (Nat.le_refl _) _
 have MY:=Lib.hid MY
 have LK:=Lib.hid LK
 have P0:=Lib.hid hb0
 have B0:=Lib.hid hB0
 have c0:=cell_of_row _ w.heap.size 0 _ _ _ hb0
 clear hb0 hB0
 go_enter Tryz.func177,Tryz.ntmps177
 go_wp2_with fail
 refine(MY.out _).mono ?_
 rintro e w1 ⟨rfl,hb⟩
 have P1:=Lib.hid ((hb.block w.heap.size (by rw[World.size_alloc];omega)).trans P0.out)
 have B1:=Lib.hid (B0.out.trans (hb.mono B0.out.size))
 clear hb c0
 have c0:=cell_of_row _ w.heap.size 0 _ _ _ P1.out
 go_wp2_with fail
 refine(LK.out _).mono ?_
 rintro e w2 ⟨A,m,rfl,hb⟩
 have P2:=Lib.hid ((hb.block w.heap.size (lt_of_block P1.out)).trans P1.out)
 have B2:=Lib.hid (B1.out.trans (hb.mono B1.out.size))
 clear hb c0
 have hq:∀o,(w2.alloc o).heap[w.heap.size]? = some (.cells #[.int .i64 id,.int .u32 n,.string st,.string sv] 46 (0,0)):=fun o=>(heap_alloc_old _ _ (lt_of_block P2.out)).trans P2.out
 have c0:∀o,(w2.alloc o).cell? ⟨w.heap.size,0,none⟩=some (.int .i64 id):=fun o=>cell_of_row _ w.heap.size 0 _ _ _ (hq o)
 have c1:∀o,(w2.alloc o).cell? ⟨w.heap.size,1,none⟩=some (.int .u32 n):=fun o=>cell_of_row _ w.heap.size 1 _ _ _ (hq o)
 have c2:∀o,(w2.alloc o).cell? ⟨w.heap.size,2,none⟩=some (.string st):=fun o=>cell_of_row _ w.heap.size 2 _ _ _ (hq o)
 have c3:∀o,(w2.alloc o).cell? ⟨w.heap.size,3,none⟩=some (.string sv):=fun o=>cell_of_row _ w.heap.size 3 _ _ _ (hq o)
 clear hq
 go_wp2_with (fail)
 go_ret
 exact⟨rfl,B2.out.alloc B2.out.size _⟩
theorem qnq4(MY:∀W,Calls Tryz.prog 175 #[.int .i64 kind,.int .i64 id] W fun e w'=>e = .returned (.bool true)∧Below W.heap.size W w')(LK:∀W,Calls Tryz.prog 211 #[.int .i64 id] W fun e w'=>∃A m,e = .returned (.agg #[.int .i64 5,.slice A m m,.int .u32 le,.int .u32 mo])∧Below W.heap.size W w')(VT:∀W,Calls Tryz.prog 71 #[.string st] W fun e w'=>e = .returned (.bool false)∧W=w')(hn:(n != 0)=false)(hsv1:(sv.toList==[])=true)(_hsv2:sv.toList.isEmpty=true)(w:World) :
 Calls Tryz.prog 177 #[.int .i64 kind,.agg #[.int .i64 id,.int .u32 n,.string st,.string sv]] w fun e w'=>e = .returned (.int .i64 6)∧Below w.heap.size w w':=by
 have hb0:=heap_alloc_new w (.cells #[.int .i64 id,.int .u32 n,.string st,.string sv] 46)
 have hB0:Below w.heap.size w (w.alloc (.cells #[.int .i64 id,.int .u32 n,.string st,.string sv] 46)):=(Below.refl _ _).alloc (Nat.le_refl _) _
 have MY:=Lib.hid MY
 have LK:=Lib.hid LK
 have VT:=Lib.hid VT
 have P0:=Lib.hid hb0
 have B0:=Lib.hid hB0
 have c0:=cell_of_row _ w.heap.size 0 _ _ _ hb0
 clear hb0 hB0
 go_enter Tryz.func177,Tryz.ntmps177
 go_wp2_with fail
 refine(MY.out _).mono ?_
 rintro e w1 ⟨rfl,hb⟩
 have P1:=Lib.hid ((hb.block w.heap.size (by rw[World.size_alloc];omega)).trans P0.out)
 have B1:=Lib.hid (B0.out.trans (hb.mono B0.out.size))
 clear hb c0
 have c0:=cell_of_row _ w.heap.size 0 _ _ _ P1.out
 go_wp2_with fail
 refine(LK.out _).mono ?_
 rintro e w2 ⟨A,m,rfl,hb⟩
 have P2:=Lib.hid ((hb.block w.heap.size (lt_of_block P1.out)).trans P1.out)
 have B2:=Lib.hid (B1.out.trans (hb.mono B1.out.size))
 clear hb c0
 have hq:∀o,(w2.alloc o).heap[w.heap.size]? = some (.cells #[.int .i64 id,.int .u32 n,.string st,.string sv] 46 (0,0)):=fun o=>(heap_alloc_old _ _ (lt_of_block P2.out)).trans P2.out
 have c0:∀o,(w2.alloc o).cell? ⟨w.heap.size,0,none⟩=some (.int .i64 id):=fun o=>cell_of_row _ w.heap.size 0 _ _ _ (hq o)
 have c1:∀o,(w2.alloc o).cell? ⟨w.heap.size,1,none⟩=some (.int .u32 n):=fun o=>cell_of_row _ w.heap.size 1 _ _ _ (hq o)
 have c2:∀o,(w2.alloc o).cell? ⟨w.heap.size,2,none⟩=some (.string st):=fun o=>cell_of_row _ w.heap.size 2 _ _ _ (hq o)
 have c3:∀o,(w2.alloc o).cell? ⟨w.heap.size,3,none⟩=some (.string sv):=fun o=>cell_of_row _ w.heap.size 3 _ _ _ (hq o)
 clear hq
 go_wp2_with (first | (go_at_call 71;with_reducible refine(VT.out _).mono ?_;rintro e w3 ⟨rfl,rfl⟩))
 go_ret
 exact⟨rfl,B2.out.alloc B2.out.size _⟩
theorem qjx7(MY:∀W,Calls Tryz.prog 175 #[.int .i64 kind,.int .i64 id] W fun e w'=>e = .returned (.bool true)∧Below W.heap.size W w')(LK:∀W,Calls Tryz.prog 211 #[.int .i64 id] W fun e w'=>∃A m,e = .returned (.agg #[.int .i64 5,.slice A m m,.int .u32 le,.int .u32 mo])∧Below W.heap.size W w')(VT:∀W,Calls Tryz.prog 71 #[.string st] W fun e w'=>e = .returned (.bool true)∧W=w')(VV:∀W,Calls Tryz.prog 71 #[.string sv] W fun e w'=>e = .returned (.bool true)∧W=w')(hn:(n != 0)=false)(hsv1:(sv.toList==[])=true)(_hsv2:sv.toList.isEmpty=true)(e8:(id==8)=false)(w:World) :
 Calls Tryz.prog 177 #[.int .i64 kind,.agg #[.int .i64 id,.int .u32 n,.string st,.string sv]] w fun e w'=>e = .returned (.int .i64 0)∧Below w.heap.size w w':=by
 have hb0:=heap_alloc_new w (.cells #[.int .i64 id,.int .u32 n,.string st,.string sv] 46)
 have hB0:Below w.heap.size w (w.alloc (.cells #[.int .i64 id,.int .u32 n,.string st,.string sv] 46)):=(Below.refl _ _).alloc (Nat.le_refl _) _
 have MY:=Lib.hid MY
 have LK:=Lib.hid LK
 have VT:=Lib.hid VT
 have VV:=Lib.hid VV
 have P0:=Lib.hid hb0
 have B0:=Lib.hid hB0
 have c0:=cell_of_row _ w.heap.size 0 _ _ _ hb0
 clear hb0 hB0
 go_enter Tryz.func177,Tryz.ntmps177
 go_wp2_with fail
 refine(MY.out _).mono ?_
 rintro e w1 ⟨rfl,hb⟩
 have P1:=Lib.hid ((hb.block w.heap.size (by rw[World.size_alloc];omega)).trans P0.out)
 have B1:=Lib.hid (B0.out.trans (hb.mono B0.out.size))
 clear hb c0
 have c0:=cell_of_row _ w.heap.size 0 _ _ _ P1.out
 go_wp2_with fail
 refine(LK.out _).mono ?_
 rintro e w2 ⟨A,m,rfl,hb⟩
 have P2:=Lib.hid ((hb.block w.heap.size (lt_of_block P1.out)).trans P1.out)
 have B2:=Lib.hid (B1.out.trans (hb.mono B1.out.size))
 clear hb c0
 have hq:∀o,(w2.alloc o).heap[w.heap.size]? = some (.cells #[.int .i64 id,.int .u32 n,.string st,.string sv] 46 (0,0)):=fun o=>(heap_alloc_old _ _ (lt_of_block P2.out)).trans P2.out
 have c0:∀o,(w2.alloc o).cell? ⟨w.heap.size,0,none⟩=some (.int .i64 id):=fun o=>cell_of_row _ w.heap.size 0 _ _ _ (hq o)
 have c1:∀o,(w2.alloc o).cell? ⟨w.heap.size,1,none⟩=some (.int .u32 n):=fun o=>cell_of_row _ w.heap.size 1 _ _ _ (hq o)
 have c2:∀o,(w2.alloc o).cell? ⟨w.heap.size,2,none⟩=some (.string st):=fun o=>cell_of_row _ w.heap.size 2 _ _ _ (hq o)
 have c3:∀o,(w2.alloc o).cell? ⟨w.heap.size,3,none⟩=some (.string sv):=fun o=>cell_of_row _ w.heap.size 3 _ _ _ (hq o)
 clear hq
 go_wp2_with (first | (go_at_call 71;with_reducible refine(VT.out _).mono ?_;rintro e w3 ⟨rfl,rfl⟩) | (go_at_call 71;with_reducible refine(VV.out _).mono ?_;rintro e w3 ⟨rfl,rfl⟩))
 go_ret
 exact⟨rfl,B2.out.alloc B2.out.size _⟩
theorem q04y(MY:∀W,Calls Tryz.prog 175 #[.int .i64 kind,.int .i64 id] W fun e w'=>e = .returned (.bool true)∧Below W.heap.size W w')(LK:∀W,Calls Tryz.prog 211 #[.int .i64 id] W fun e w'=>∃A m,e = .returned (.agg #[.int .i64 5,.slice A m m,.int .u32 le,.int .u32 mo])∧Below W.heap.size W w')(VT:∀W,Calls Tryz.prog 71 #[.string st] W fun e w'=>e = .returned (.bool true)∧W=w')(VV:∀W,Calls Tryz.prog 71 #[.string sv] W fun e w'=>e = .returned (.bool true)∧W=w')(NM:∀W,Calls Tryz.prog 32 #[.string st] W fun e w'=>e = .returned (.bool false)∧W=w')(hn:(n != 0)=false)(hsv1:(sv.toList==[])=true)(_hsv2:sv.toList.isEmpty=true)(e8:(id==8)=true)(w:World) :
 Calls Tryz.prog 177 #[.int .i64 kind,.agg #[.int .i64 id,.int .u32 n,.string st,.string sv]] w fun e w'=>e = .returned (.int .i64 9)∧Below w.heap.size w w':=by
 have hb0:=heap_alloc_new w (.cells #[.int .i64 id,.int .u32 n,.string st,.string sv] 46)
 have hB0:Below w.heap.size w (w.alloc (.cells #[.int .i64 id,.int .u32 n,.string st,.string sv] 46)):=(Below.refl _ _).alloc (Nat.le_refl _) _
 have MY:=Lib.hid MY
 have LK:=Lib.hid LK
 have VT:=Lib.hid VT
 have VV:=Lib.hid VV
 have NM:=Lib.hid NM
 have P0:=Lib.hid hb0
 have B0:=Lib.hid hB0
 have c0:=cell_of_row _ w.heap.size 0 _ _ _ hb0
 clear hb0 hB0
 go_enter Tryz.func177,Tryz.ntmps177
 go_wp2_with fail
 refine(MY.out _).mono ?_
 rintro e w1 ⟨rfl,hb⟩
 have P1:=Lib.hid ((hb.block w.heap.size (by rw[World.size_alloc];omega)).trans P0.out)
 have B1:=Lib.hid (B0.out.trans (hb.mono B0.out.size))
 clear hb c0
 have c0:=cell_of_row _ w.heap.size 0 _ _ _ P1.out
 go_wp2_with fail
 refine(LK.out _).mono ?_
 rintro e w2 ⟨A,m,rfl,hb⟩
 have P2:=Lib.hid ((hb.block w.heap.size (lt_of_block P1.out)).trans P1.out)
 have B2:=Lib.hid (B1.out.trans (hb.mono B1.out.size))
 clear hb c0
 have hq:∀o,(w2.alloc o).heap[w.heap.size]? = some (.cells #[.int .i64 id,.int .u32 n,.string st,.string sv] 46 (0,0)):=fun o=>(heap_alloc_old _ _ (lt_of_block P2.out)).trans P2.out
 have c0:∀o,(w2.alloc o).cell? ⟨w.heap.size,0,none⟩=some (.int .i64 id):=fun o=>cell_of_row _ w.heap.size 0 _ _ _ (hq o)
 have c1:∀o,(w2.alloc o).cell? ⟨w.heap.size,1,none⟩=some (.int .u32 n):=fun o=>cell_of_row _ w.heap.size 1 _ _ _ (hq o)
 have c2:∀o,(w2.alloc o).cell? ⟨w.heap.size,2,none⟩=some (.string st):=fun o=>cell_of_row _ w.heap.size 2 _ _ _ (hq o)
 have c3:∀o,(w2.alloc o).cell? ⟨w.heap.size,3,none⟩=some (.string sv):=fun o=>cell_of_row _ w.heap.size 3 _ _ _ (hq o)
 clear hq
 go_wp2_with (first | (go_at_call 71;with_reducible refine(VT.out _).mono ?_;rintro e w3 ⟨rfl,rfl⟩) | (go_at_call 71;with_reducible refine(VV.out _).mono ?_;rintro e w3 ⟨rfl,rfl⟩) | (go_at_call 32;with_reducible refine(NM.out _).mono ?_;rintro e w3 ⟨rfl,rfl⟩))
 go_ret
 exact⟨rfl,B2.out.alloc B2.out.size _⟩
theorem qciu(MY:∀W,Calls Tryz.prog 175 #[.int .i64 kind,.int .i64 id] W fun e w'=>e = .returned (.bool true)∧Below W.heap.size W w')(LK:∀W,Calls Tryz.prog 211 #[.int .i64 id] W fun e w'=>∃A m,e = .returned (.agg #[.int .i64 5,.slice A m m,.int .u32 le,.int .u32 mo])∧Below W.heap.size W w')(VT:∀W,Calls Tryz.prog 71 #[.string st] W fun e w'=>e = .returned (.bool true)∧W=w')(VV:∀W,Calls Tryz.prog 71 #[.string sv] W fun e w'=>e = .returned (.bool true)∧W=w')(NM:∀W,Calls Tryz.prog 32 #[.string st] W fun e w'=>e = .returned (.bool true)∧W=w')(hn:(n != 0)=false)(hsv1:(sv.toList==[])=true)(_hsv2:sv.toList.isEmpty=true)(e8:(id==8)=true)(w:World) :
 Calls Tryz.prog 177 #[.int .i64 kind,.agg #[.int .i64 id,.int .u32 n,.string st,.string sv]] w fun e w'=>e = .returned (.int .i64 0)∧Below w.heap.size w w':=by
 have hb0:=heap_alloc_new w (.cells #[.int .i64 id,.int .u32 n,.string st,.string sv] 46)
 have hB0:Below w.heap.size w (w.alloc (.cells #[.int .i64 id,.int .u32 n,.string st,.string sv] 46)):=(Below.refl _ _).alloc (Nat.le_refl _) _
 have MY:=Lib.hid MY
 have LK:=Lib.hid LK
 have VT:=Lib.hid VT
 have VV:=Lib.hid VV
 have NM:=Lib.hid NM
 have P0:=Lib.hid hb0
 have B0:=Lib.hid hB0
 have c0:=cell_of_row _ w.heap.size 0 _ _ _ hb0
 clear hb0 hB0
 go_enter Tryz.func177,Tryz.ntmps177
 go_wp2_with fail
 refine(MY.out _).mono ?_
 rintro e w1 ⟨rfl,hb⟩
 have P1:=Lib.hid ((hb.block w.heap.size (by rw[World.size_alloc];omega)).trans P0.out)
 have B1:=Lib.hid (B0.out.trans (hb.mono B0.out.size))
 clear hb c0
 have c0:=cell_of_row _ w.heap.size 0 _ _ _ P1.out
 go_wp2_with fail
 refine(LK.out _).mono ?_
 rintro e w2 ⟨A,m,rfl,hb⟩
 have P2:=Lib.hid ((hb.block w.heap.size (lt_of_block P1.out)).trans P1.out)
 have B2:=Lib.hid (B1.out.trans (hb.mono B1.out.size))
 clear hb c0
 have hq:∀o,(w2.alloc o).heap[w.heap.size]? = some (.cells #[.int .i64 id,.int .u32 n,.string st,.string sv] 46 (0,0)):=fun o=>(heap_alloc_old _ _ (lt_of_block P2.out)).trans P2.out
 have c0:∀o,(w2.alloc o).cell? ⟨w.heap.size,0,none⟩=some (.int .i64 id):=fun o=>cell_of_row _ w.heap.size 0 _ _ _ (hq o)
 have c1:∀o,(w2.alloc o).cell? ⟨w.heap.size,1,none⟩=some (.int .u32 n):=fun o=>cell_of_row _ w.heap.size 1 _ _ _ (hq o)
 have c2:∀o,(w2.alloc o).cell? ⟨w.heap.size,2,none⟩=some (.string st):=fun o=>cell_of_row _ w.heap.size 2 _ _ _ (hq o)
 have c3:∀o,(w2.alloc o).cell? ⟨w.heap.size,3,none⟩=some (.string sv):=fun o=>cell_of_row _ w.heap.size 3 _ _ _ (hq o)
 clear hq
 go_wp2_with (first | (go_at_call 71;with_reducible refine(VT.out _).mono ?_;rintro e w3 ⟨rfl,rfl⟩) | (go_at_call 71;with_reducible refine(VV.out _).mono ?_;rintro e w3 ⟨rfl,rfl⟩) | (go_at_call 32;with_reducible refine(NM.out _).mono ?_;rintro e w3 ⟨rfl,rfl⟩))
 go_ret
 exact⟨rfl,B2.out.alloc B2.out.size _⟩
theorem qfgx(MY:∀W,Calls Tryz.prog 175 #[.int .i64 kind,.int .i64 id] W fun e w'=>e = .returned (.bool true)∧Below W.heap.size W w')(LK:∀W,Calls Tryz.prog 211 #[.int .i64 id] W fun e w'=>∃A m,e = .returned (.agg #[.int .i64 7,.slice A m m,.int .u32 le,.int .u32 mo])∧Below W.heap.size W w')(VT:∀W,Calls Tryz.prog 71 #[.string st] W fun e w'=>e = .returned (.bool false)∧W=w')(hn:(n != 0)=false)(w:World) :
 Calls Tryz.prog 177 #[.int .i64 kind,.agg #[.int .i64 id,.int .u32 n,.string st,.string sv]] w fun e w'=>e = .returned (.int .i64 6)∧Below w.heap.size w w':=by
 have hb0:=heap_alloc_new w (.cells #[.int .i64 id,.int .u32 n,.string st,.string sv] 46)
 have hB0:Below w.heap.size w (w.alloc (.cells #[.int .i64 id,.int .u32 n,.string st,.string sv] 46)):=(Below.refl _ _).alloc (Nat.le_refl _) _
 have MY:=Lib.hid MY
 have LK:=Lib.hid LK
 have VT:=Lib.hid VT
 have P0:=Lib.hid hb0
 have B0:=Lib.hid hB0
 have c0:=cell_of_row _ w.heap.size 0 _ _ _ hb0
 clear hb0 hB0
 go_enter Tryz.func177,Tryz.ntmps177
 go_wp2_with fail
 refine(MY.out _).mono ?_
 rintro e w1 ⟨rfl,hb⟩
 have P1:=Lib.hid ((hb.block w.heap.size (by rw[World.size_alloc];omega)).trans P0.out)
 have B1:=Lib.hid (B0.out.trans (hb.mono B0.out.size))
 clear hb c0
 have c0:=cell_of_row _ w.heap.size 0 _ _ _ P1.out
 go_wp2_with fail
 refine(LK.out _).mono ?_
 rintro e w2 ⟨A,m,rfl,hb⟩
 have P2:=Lib.hid ((hb.block w.heap.size (lt_of_block P1.out)).trans P1.out)
 have B2:=Lib.hid (B1.out.trans (hb.mono B1.out.size))
 clear hb c0
 have hq:∀o,(w2.alloc o).heap[w.heap.size]? = some (.cells #[.int .i64 id,.int .u32 n,.string st,.string sv] 46 (0,0)):=fun o=>(heap_alloc_old _ _ (lt_of_block P2.out)).trans P2.out
 have c0:∀o,(w2.alloc o).cell? ⟨w.heap.size,0,none⟩=some (.int .i64 id):=fun o=>cell_of_row _ w.heap.size 0 _ _ _ (hq o)
 have c1:∀o,(w2.alloc o).cell? ⟨w.heap.size,1,none⟩=some (.int .u32 n):=fun o=>cell_of_row _ w.heap.size 1 _ _ _ (hq o)
 have c2:∀o,(w2.alloc o).cell? ⟨w.heap.size,2,none⟩=some (.string st):=fun o=>cell_of_row _ w.heap.size 2 _ _ _ (hq o)
 have c3:∀o,(w2.alloc o).cell? ⟨w.heap.size,3,none⟩=some (.string sv):=fun o=>cell_of_row _ w.heap.size 3 _ _ _ (hq o)
 clear hq
 go_wp2_with (first | (go_at_call 71;with_reducible refine(VT.out _).mono ?_;rintro e w3 ⟨rfl,rfl⟩))
 go_ret
 exact⟨rfl,B2.out.alloc B2.out.size _⟩
theorem q9lq(MY:∀W,Calls Tryz.prog 175 #[.int .i64 kind,.int .i64 id] W fun e w'=>e = .returned (.bool true)∧Below W.heap.size W w')(LK:∀W,Calls Tryz.prog 211 #[.int .i64 id] W fun e w'=>∃A m,e = .returned (.agg #[.int .i64 7,.slice A m m,.int .u32 le,.int .u32 mo])∧Below W.heap.size W w')(VT:∀W,Calls Tryz.prog 71 #[.string st] W fun e w'=>e = .returned (.bool true)∧W=w')(VV:∀W,Calls Tryz.prog 71 #[.string sv] W fun e w'=>e = .returned (.bool false)∧W=w')(hn:(n != 0)=false)(w:World) :
 Calls Tryz.prog 177 #[.int .i64 kind,.agg #[.int .i64 id,.int .u32 n,.string st,.string sv]] w fun e w'=>e = .returned (.int .i64 6)∧Below w.heap.size w w':=by
 have hb0:=heap_alloc_new w (.cells #[.int .i64 id,.int .u32 n,.string st,.string sv] 46)
 have hB0:Below w.heap.size w (w.alloc (.cells #[.int .i64 id,.int .u32 n,.string st,.string sv] 46)):=(Below.refl _ _).alloc (Nat.le_refl _) _
 have MY:=Lib.hid MY
 have LK:=Lib.hid LK
 have VT:=Lib.hid VT
 have VV:=Lib.hid VV
 have P0:=Lib.hid hb0
 have B0:=Lib.hid hB0
 have c0:=cell_of_row _ w.heap.size 0 _ _ _ hb0
 clear hb0 hB0
 go_enter Tryz.func177,Tryz.ntmps177
 go_wp2_with fail
 refine(MY.out _).mono ?_
 rintro e w1 ⟨rfl,hb⟩
 have P1:=Lib.hid ((hb.block w.heap.size (by rw[World.size_alloc];omega)).trans P0.out)
 have B1:=Lib.hid (B0.out.trans (hb.mono B0.out.size))
 clear hb c0
 have c0:=cell_of_row _ w.heap.size 0 _ _ _ P1.out
 go_wp2_with fail
 refine(LK.out _).mono ?_
 rintro e w2 ⟨A,m,rfl,hb⟩
 have P2:=Lib.hid ((hb.block w.heap.size (lt_of_block P1.out)).trans P1.out)
 have B2:=Lib.hid (B1.out.trans (hb.mono B1.out.size))
 clear hb c0
 have hq:∀o,(w2.alloc o).heap[w.heap.size]? = some (.cells #[.int .i64 id,.int .u32 n,.string st,.string sv] 46 (0,0)):=fun o=>(heap_alloc_old _ _ (lt_of_block P2.out)).trans P2.out
 have c0:∀o,(w2.alloc o).cell? ⟨w.heap.size,0,none⟩=some (.int .i64 id):=fun o=>cell_of_row _ w.heap.size 0 _ _ _ (hq o)
 have c1:∀o,(w2.alloc o).cell? ⟨w.heap.size,1,none⟩=some (.int .u32 n):=fun o=>cell_of_row _ w.heap.size 1 _ _ _ (hq o)
 have c2:∀o,(w2.alloc o).cell? ⟨w.heap.size,2,none⟩=some (.string st):=fun o=>cell_of_row _ w.heap.size 2 _ _ _ (hq o)
 have c3:∀o,(w2.alloc o).cell? ⟨w.heap.size,3,none⟩=some (.string sv):=fun o=>cell_of_row _ w.heap.size 3 _ _ _ (hq o)
 clear hq
 go_wp2_with (first | (go_at_call 71;with_reducible refine(VT.out _).mono ?_;rintro e w3 ⟨rfl,rfl⟩) | (go_at_call 71;with_reducible refine(VV.out _).mono ?_;rintro e w3 ⟨rfl,rfl⟩))
 go_ret
 exact⟨rfl,B2.out.alloc B2.out.size _⟩
theorem qwvr(MY:∀W,Calls Tryz.prog 175 #[.int .i64 kind,.int .i64 id] W fun e w'=>e = .returned (.bool true)∧Below W.heap.size W w')(LK:∀W,Calls Tryz.prog 211 #[.int .i64 id] W fun e w'=>∃A m,e = .returned (.agg #[.int .i64 7,.slice A m m,.int .u32 le,.int .u32 mo])∧Below W.heap.size W w')(VT:∀W,Calls Tryz.prog 71 #[.string st] W fun e w'=>e = .returned (.bool true)∧W=w')(VV:∀W,Calls Tryz.prog 71 #[.string sv] W fun e w'=>e = .returned (.bool true)∧W=w')(hn:(n != 0)=false)(e8:(id==8)=false)(w:World) :
 Calls Tryz.prog 177 #[.int .i64 kind,.agg #[.int .i64 id,.int .u32 n,.string st,.string sv]] w fun e w'=>e = .returned (.int .i64 0)∧Below w.heap.size w w':=by
 have hb0:=heap_alloc_new w (.cells #[.int .i64 id,.int .u32 n,.string st,.string sv] 46)
 have hB0:Below w.heap.size w (w.alloc (.cells #[.int .i64 id,.int .u32 n,.string st,.string sv] 46)):=(Below.refl _ _).alloc (Nat.le_refl _) _
 have MY:=Lib.hid MY
 have LK:=Lib.hid LK
 have VT:=Lib.hid VT
 have VV:=Lib.hid VV
 have P0:=Lib.hid hb0
 have B0:=Lib.hid hB0
 have c0:=cell_of_row _ w.heap.size 0 _ _ _ hb0
 clear hb0 hB0
 go_enter Tryz.func177,Tryz.ntmps177
 go_wp2_with fail
 refine(MY.out _).mono ?_
 rintro e w1 ⟨rfl,hb⟩
 have P1:=Lib.hid ((hb.block w.heap.size (by rw[World.size_alloc];omega)).trans P0.out)
 have B1:=Lib.hid (B0.out.trans (hb.mono B0.out.size))
 clear hb c0
 have c0:=cell_of_row _ w.heap.size 0 _ _ _ P1.out
 go_wp2_with fail
 refine(LK.out _).mono ?_
 rintro e w2 ⟨A,m,rfl,hb⟩
 have P2:=Lib.hid ((hb.block w.heap.size (lt_of_block P1.out)).trans P1.out)
 have B2:=Lib.hid (B1.out.trans (hb.mono B1.out.size))
 clear hb c0
 have hq:∀o,(w2.alloc o).heap[w.heap.size]? = some (.cells #[.int .i64 id,.int .u32 n,.string st,.string sv] 46 (0,0)):=fun o=>(heap_alloc_old _ _ (lt_of_block P2.out)).trans P2.out
 have c0:∀o,(w2.alloc o).cell? ⟨w.heap.size,0,none⟩=some (.int .i64 id):=fun o=>cell_of_row _ w.heap.size 0 _ _ _ (hq o)
 have c1:∀o,(w2.alloc o).cell? ⟨w.heap.size,1,none⟩=some (.int .u32 n):=fun o=>cell_of_row _ w.heap.size 1 _ _ _ (hq o)
 have c2:∀o,(w2.alloc o).cell? ⟨w.heap.size,2,none⟩=some (.string st):=fun o=>cell_of_row _ w.heap.size 2 _ _ _ (hq o)
 have c3:∀o,(w2.alloc o).cell? ⟨w.heap.size,3,none⟩=some (.string sv):=fun o=>cell_of_row _ w.heap.size 3 _ _ _ (hq o)
 clear hq
 go_wp2_with (first | (go_at_call 71;with_reducible refine(VT.out _).mono ?_;rintro e w3 ⟨rfl,rfl⟩) | (go_at_call 71;with_reducible refine(VV.out _).mono ?_;rintro e w3 ⟨rfl,rfl⟩))
 go_ret
 exact⟨rfl,B2.out.alloc B2.out.size _⟩
end
end Go.Proofs.YtaahhbjnflimnaaGreat
