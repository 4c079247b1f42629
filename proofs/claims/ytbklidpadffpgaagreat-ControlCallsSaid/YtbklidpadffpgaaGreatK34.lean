/- The contract of polyglotref05.Check. Condition: strings of up to 200,000 bytes. -/
import Derived.Test.YtbklidpadffpgaaGreatK26
import Derived.Test.YtbklidpadffpgaaGreatK28
import Derived.Test.YtbklidpadffpgaaGreatK33
set_option maxRecDepth 100000
set_option maxHeartbeats 1000000
namespace Go.Proofs.YtbklidpadffpgaaGreat
open Go.RowKit
def MyB(kind id:Int)(b:Bool):Prop:=∀W,Calls Tryz.prog 106 #[.int .i64 kind,.int .i64 id] W fun e w'=>e = .returned (.bool b)∧Below W.heap.size W w'
def LkP(id sh le mo:Int):Prop:=∀W,Calls Tryz.prog 107 #[.int .i64 id] W fun e w'=>∃A m,e = .returned (.agg #[.int .i64 sh,.slice A m m,.int .u32 le,.int .u32 mo])∧Below W.heap.size W w'
theorem qgms(w:World)(id n:Int)(st sv:ByteArray):RowKit.Hid ((w.alloc (.cells #[.int .i64 id,.int .u32 n,.string st,.string sv] 25)).heap[w.heap.size]? = some (.cells #[.int .i64 id,.int .u32 n,.string st,.string sv] 25 (0,0)))∧RowKit.Hid (Below w.heap.size w (w.alloc (.cells #[.int .i64 id,.int .u32 n,.string st,.string sv] 25)))∧(w.alloc (.cells #[.int .i64 id,.int .u32 n,.string st,.string sv] 25)).cell? ⟨w.heap.size,0,none⟩=some (.int .i64 id):=
 ⟨heap_alloc_new w _,(Below.refl _ _).alloc (Nat.le_refl _) _,cell_of_row _ w.heap.size 0 _ _ _ (heap_alloc_new w _)⟩
section
variable{w W W':World}{id n:Int}{st sv:ByteArray}(P:RowKit.Hid (W.heap[w.heap.size]? = some (.cells #[.int .i64 id,.int .u32 n,.string st,.string sv] 25 (0,0))))(B:RowKit.Hid (Below w.heap.size w W))(hb:Below W.heap.size W W')
include P B hb
theorem qpb2:RowKit.Hid (W'.heap[w.heap.size]? = some (.cells #[.int .i64 id,.int .u32 n,.string st,.string sv] 25 (0,0)))∧RowKit.Hid (Below w.heap.size w W')∧W'.cell? ⟨w.heap.size,0,none⟩=some (.int .i64 id):=
 have h:=(hb.block w.heap.size (lt_of_block P.out)).trans P.out
 ⟨h,B.out.trans (hb.mono B.out.size),cell_of_row _ w.heap.size 0 _ _ _ h⟩
theorem q273:RowKit.Hid (W'.heap[w.heap.size]? = some (.cells #[.int .i64 id,.int .u32 n,.string st,.string sv] 25 (0,0)))∧RowKit.Hid (Below w.heap.size w W')∧(∀o,(W'.alloc o).cell? ⟨w.heap.size,0,none⟩=some (.int .i64 id))∧(∀o,(W'.alloc o).cell? ⟨w.heap.size,1,none⟩=some (.int .u32 n))∧(∀o,(W'.alloc o).cell? ⟨w.heap.size,2,none⟩=some (.string st))∧(∀o,(W'.alloc o).cell? ⟨w.heap.size,3,none⟩=some (.string sv)):=
 have h:=qpb2 P B hb
 have q:=fun o=>(heap_alloc_old W' o (lt_of_block h.1.out)).trans h.1.out
 ⟨h.1,h.2.1,fun o=>cell_of_row _ w.heap.size 0 _ _ _ (q o),fun o=>cell_of_row _ w.heap.size 1 _ _ _ (q o),fun o=>cell_of_row _ w.heap.size 2 _ _ _ (q o),fun o=>cell_of_row _ w.heap.size 3 _ _ _ (q o)⟩
end
section
variable{kind id n sh le mo:Int}{st sv:ByteArray}{bt bv nm:Bool}
theorem qi4l(MY:MyB kind id false)(w:World) :
 Calls Tryz.prog 68 #[.int .i64 kind,.agg #[.int .i64 id,.int .u32 n,.string st,.string sv]] w fun e w'=>e = .returned (.int .i64 9)∧Below w.heap.size w w':=by
 have MY:=Lib.hid MY
 obtain⟨P0,B0,c0⟩:=qgms w id n st sv
 go_enter Tryz.func68,Tryz.ntmps68
 go_wp2_with fail
 refine(MY.out _).mono ?_
 rintro e w1 ⟨rfl,hb⟩
 obtain⟨P1,B1,_⟩:=qpb2 P0 B0 hb
 clear hb c0
 go_wp2_with fail
 go_ret
 exact⟨rfl,B1.out⟩
theorem qzd1(MY:MyB kind id true)(LK:LkP id sh le mo)(q4:sh≤4)(_e5:(sh==5)=false)(_e6:(sh==6)=false)(_e7:(sh==7)=false)(_e7n:(sh != 7)=true)(hst1:(st.toList==[])=false)(_hst2:st.toList.isEmpty=false)(w:World) :
 Calls Tryz.prog 68 #[.int .i64 kind,.agg #[.int .i64 id,.int .u32 n,.string st,.string sv]] w fun e w'=>e = .returned (.int .i64 2)∧Below w.heap.size w w':=by
 have MY:=Lib.hid MY
 have LK:=Lib.hid LK
 obtain⟨P0,B0,c0⟩:=qgms w id n st sv
 go_enter Tryz.func68,Tryz.ntmps68
 go_wp2_with fail
 refine(MY.out _).mono ?_
 rintro e w1 ⟨rfl,hb⟩
 obtain⟨P1,B1,c0⟩:=qpb2 P0 B0 hb
 clear hb
 go_wp2_with fail
 refine(LK.out _).mono ?_
 rintro e w2 ⟨A,m,rfl,hb⟩
 obtain⟨P2,B2,c0,c1,c2,c3⟩:=q273 P1 B1 hb
 clear hb
 go_wp2_with (fail)
 go_ret
 exact⟨rfl,B2.out.alloc B2.out.size _⟩
theorem q55o(MY:MyB kind id true)(LK:LkP id sh le mo)(q4:sh≤4)(_e5:(sh==5)=false)(_e6:(sh==6)=false)(_e7:(sh==7)=false)(e7n:(sh != 7)=true)(hst1:(st.toList==[])=true)(_hst2:st.toList.isEmpty=true)(hsv1:(sv.toList==[])=false)(_hsv2:sv.toList.isEmpty=false)(w:World) :
 Calls Tryz.prog 68 #[.int .i64 kind,.agg #[.int .i64 id,.int .u32 n,.string st,.string sv]] w fun e w'=>e = .returned (.int .i64 2)∧Below w.heap.size w w':=by
 have MY:=Lib.hid MY
 have LK:=Lib.hid LK
 obtain⟨P0,B0,c0⟩:=qgms w id n st sv
 go_enter Tryz.func68,Tryz.ntmps68
 go_wp2_with fail
 refine(MY.out _).mono ?_
 rintro e w1 ⟨rfl,hb⟩
 obtain⟨P1,B1,c0⟩:=qpb2 P0 B0 hb
 clear hb
 go_wp2_with fail
 refine(LK.out _).mono ?_
 rintro e w2 ⟨A,m,rfl,hb⟩
 obtain⟨P2,B2,c0,c1,c2,c3⟩:=q273 P1 B1 hb
 clear hb
 go_wp2_with (fail)
 go_ret
 exact⟨rfl,B2.out.alloc B2.out.size _⟩
theorem q2er(MY:MyB kind id true)(LK:LkP id sh le mo)(q4:sh≤4)(_e5:(sh==5)=false)(_e6:(sh==6)=false)(_e7:(sh==7)=false)(e7n:(sh != 7)=true)(hst1:(st.toList==[])=true)(_hst2:st.toList.isEmpty=true)(hsv1:(sv.toList==[])=true)(_hsv2:sv.toList.isEmpty=true)(ql:n < le)(w:World) :
 Calls Tryz.prog 68 #[.int .i64 kind,.agg #[.int .i64 id,.int .u32 n,.string st,.string sv]] w fun e w'=>e = .returned (.int .i64 9)∧Below w.heap.size w w':=by
 have MY:=Lib.hid MY
 have LK:=Lib.hid LK
 obtain⟨P0,B0,c0⟩:=qgms w id n st sv
 go_enter Tryz.func68,Tryz.ntmps68
 go_wp2_with fail
 refine(MY.out _).mono ?_
 rintro e w1 ⟨rfl,hb⟩
 obtain⟨P1,B1,c0⟩:=qpb2 P0 B0 hb
 clear hb
 go_wp2_with fail
 refine(LK.out _).mono ?_
 rintro e w2 ⟨A,m,rfl,hb⟩
 obtain⟨P2,B2,c0,c1,c2,c3⟩:=q273 P1 B1 hb
 clear hb
 go_wp2_with (fail)
 go_ret
 exact⟨rfl,B2.out.alloc B2.out.size _⟩
theorem qjv2(MY:MyB kind id true)(LK:LkP id sh le mo)(q4:sh≤4)(_e5:(sh==5)=false)(_e6:(sh==6)=false)(_e7:(sh==7)=false)(e7n:(sh != 7)=true)(hst1:(st.toList==[])=true)(_hst2:st.toList.isEmpty=true)(hsv1:(sv.toList==[])=true)(_hsv2:sv.toList.isEmpty=true)(ql:¬n < le)(qm:mo < n)(w:World) :
 Calls Tryz.prog 68 #[.int .i64 kind,.agg #[.int .i64 id,.int .u32 n,.string st,.string sv]] w fun e w'=>e = .returned (.int .i64 9)∧Below w.heap.size w w':=by
 have MY:=Lib.hid MY
 have LK:=Lib.hid LK
 obtain⟨P0,B0,c0⟩:=qgms w id n st sv
 go_enter Tryz.func68,Tryz.ntmps68
 go_wp2_with fail
 refine(MY.out _).mono ?_
 rintro e w1 ⟨rfl,hb⟩
 obtain⟨P1,B1,c0⟩:=qpb2 P0 B0 hb
 clear hb
 go_wp2_with fail
 refine(LK.out _).mono ?_
 rintro e w2 ⟨A,m,rfl,hb⟩
 obtain⟨P2,B2,c0,c1,c2,c3⟩:=q273 P1 B1 hb
 clear hb
 go_wp2_with (fail)
 go_ret
 exact⟨rfl,B2.out.alloc B2.out.size _⟩
theorem q2ka(MY:MyB kind id true)(LK:LkP id sh le mo)(q4:sh≤4)(e5:(sh==5)=false)(e6:(sh==6)=false)(e7:(sh==7)=false)(e7n:(sh != 7)=true)(hst1:(st.toList==[])=true)(_hst2:st.toList.isEmpty=true)(hsv1:(sv.toList==[])=true)(_hsv2:sv.toList.isEmpty=true)(ql:¬n < le)(qm:¬mo < n)(e8:(id==8)=false)(w:World) :
 Calls Tryz.prog 68 #[.int .i64 kind,.agg #[.int .i64 id,.int .u32 n,.string st,.string sv]] w fun e w'=>e = .returned (.int .i64 0)∧Below w.heap.size w w':=by
 have MY:=Lib.hid MY
 have LK:=Lib.hid LK
 obtain⟨P0,B0,c0⟩:=qgms w id n st sv
 go_enter Tryz.func68,Tryz.ntmps68
 go_wp2_with fail
 refine(MY.out _).mono ?_
 rintro e w1 ⟨rfl,hb⟩
 obtain⟨P1,B1,c0⟩:=qpb2 P0 B0 hb
 clear hb
 go_wp2_with fail
 refine(LK.out _).mono ?_
 rintro e w2 ⟨A,m,rfl,hb⟩
 obtain⟨P2,B2,c0,c1,c2,c3⟩:=q273 P1 B1 hb
 clear hb
 go_wp2_with (fail)
 go_ret
 exact⟨rfl,B2.out.alloc B2.out.size _⟩
theorem qfon(MY:MyB kind id true)(LK:LkP id 5 le mo)(hn:(n != 0)=true)(w:World) :
 Calls Tryz.prog 68 #[.int .i64 kind,.agg #[.int .i64 id,.int .u32 n,.string st,.string sv]] w fun e w'=>e = .returned (.int .i64 2)∧Below w.heap.size w w':=by
 have MY:=Lib.hid MY
 have LK:=Lib.hid LK
 obtain⟨P0,B0,c0⟩:=qgms w id n st sv
 go_enter Tryz.func68,Tryz.ntmps68
 go_wp2_with fail
 refine(MY.out _).mono ?_
 rintro e w1 ⟨rfl,hb⟩
 obtain⟨P1,B1,c0⟩:=qpb2 P0 B0 hb
 clear hb
 go_wp2_with fail
 refine(LK.out _).mono ?_
 rintro e w2 ⟨A,m,rfl,hb⟩
 obtain⟨P2,B2,c0,c1,c2,c3⟩:=q273 P1 B1 hb
 clear hb
 go_wp2_with (fail)
 go_ret
 exact⟨rfl,B2.out.alloc B2.out.size _⟩
theorem q60w(MY:MyB kind id true)(LK:LkP id 6 le mo)(hn:(n != 0)=true)(w:World) :
 Calls Tryz.prog 68 #[.int .i64 kind,.agg #[.int .i64 id,.int .u32 n,.string st,.string sv]] w fun e w'=>e = .returned (.int .i64 2)∧Below w.heap.size w w':=by
 have MY:=Lib.hid MY
 have LK:=Lib.hid LK
 obtain⟨P0,B0,c0⟩:=qgms w id n st sv
 go_enter Tryz.func68,Tryz.ntmps68
 go_wp2_with fail
 refine(MY.out _).mono ?_
 rintro e w1 ⟨rfl,hb⟩
 obtain⟨P1,B1,c0⟩:=qpb2 P0 B0 hb
 clear hb
 go_wp2_with fail
 refine(LK.out _).mono ?_
 rintro e w2 ⟨A,m,rfl,hb⟩
 obtain⟨P2,B2,c0,c1,c2,c3⟩:=q273 P1 B1 hb
 clear hb
 go_wp2_with (fail)
 go_ret
 exact⟨rfl,B2.out.alloc B2.out.size _⟩
theorem qdtt(MY:MyB kind id true)(LK:LkP id 7 le mo)(hn:(n != 0)=true)(w:World) :
 Calls Tryz.prog 68 #[.int .i64 kind,.agg #[.int .i64 id,.int .u32 n,.string st,.string sv]] w fun e w'=>e = .returned (.int .i64 2)∧Below w.heap.size w w':=by
 have MY:=Lib.hid MY
 have LK:=Lib.hid LK
 obtain⟨P0,B0,c0⟩:=qgms w id n st sv
 go_enter Tryz.func68,Tryz.ntmps68
 go_wp2_with fail
 refine(MY.out _).mono ?_
 rintro e w1 ⟨rfl,hb⟩
 obtain⟨P1,B1,c0⟩:=qpb2 P0 B0 hb
 clear hb
 go_wp2_with fail
 refine(LK.out _).mono ?_
 rintro e w2 ⟨A,m,rfl,hb⟩
 obtain⟨P2,B2,c0,c1,c2,c3⟩:=q273 P1 B1 hb
 clear hb
 go_wp2_with (fail)
 go_ret
 exact⟨rfl,B2.out.alloc B2.out.size _⟩
theorem qrri(MY:MyB kind id true)(LK:LkP id 5 le mo)(hn:(n != 0)=false)(hsv1:(sv.toList==[])=false)(_hsv2:sv.toList.isEmpty=false)(w:World) :
 Calls Tryz.prog 68 #[.int .i64 kind,.agg #[.int .i64 id,.int .u32 n,.string st,.string sv]] w fun e w'=>e = .returned (.int .i64 2)∧Below w.heap.size w w':=by
 have MY:=Lib.hid MY
 have LK:=Lib.hid LK
 obtain⟨P0,B0,c0⟩:=qgms w id n st sv
 go_enter Tryz.func68,Tryz.ntmps68
 go_wp2_with fail
 refine(MY.out _).mono ?_
 rintro e w1 ⟨rfl,hb⟩
 obtain⟨P1,B1,c0⟩:=qpb2 P0 B0 hb
 clear hb
 go_wp2_with fail
 refine(LK.out _).mono ?_
 rintro e w2 ⟨A,m,rfl,hb⟩
 obtain⟨P2,B2,c0,c1,c2,c3⟩:=q273 P1 B1 hb
 clear hb
 go_wp2_with (fail)
 go_ret
 exact⟨rfl,B2.out.alloc B2.out.size _⟩
theorem qeju(MY:MyB kind id true)(LK:LkP id 6 le mo)(hn:(n != 0)=false)(hsv1:(sv.toList==[])=false)(_hsv2:sv.toList.isEmpty=false)(w:World) :
 Calls Tryz.prog 68 #[.int .i64 kind,.agg #[.int .i64 id,.int .u32 n,.string st,.string sv]] w fun e w'=>e = .returned (.int .i64 2)∧Below w.heap.size w w':=by
 have MY:=Lib.hid MY
 have LK:=Lib.hid LK
 obtain⟨P0,B0,c0⟩:=qgms w id n st sv
 go_enter Tryz.func68,Tryz.ntmps68
 go_wp2_with fail
 refine(MY.out _).mono ?_
 rintro e w1 ⟨rfl,hb⟩
 obtain⟨P1,B1,c0⟩:=qpb2 P0 B0 hb
 clear hb
 go_wp2_with fail
 refine(LK.out _).mono ?_
 rintro e w2 ⟨A,m,rfl,hb⟩
 obtain⟨P2,B2,c0,c1,c2,c3⟩:=q273 P1 B1 hb
 clear hb
 go_wp2_with (fail)
 go_ret
 exact⟨rfl,B2.out.alloc B2.out.size _⟩
theorem qlqa(MY:MyB kind id true)(LK:LkP id 6 le mo)(hn:(n != 0)=false)(hsv1:(sv.toList==[])=true)(_hsv2:sv.toList.isEmpty=true)(e8:(id==8)=false)(qb:(65535:Int) < (st.size:Int))(w:World) :
 Calls Tryz.prog 68 #[.int .i64 kind,.agg #[.int .i64 id,.int .u32 n,.string st,.string sv]] w fun e w'=>e = .returned (.int .i64 2)∧Below w.heap.size w w':=by
 have MY:=Lib.hid MY
 have LK:=Lib.hid LK
 obtain⟨P0,B0,c0⟩:=qgms w id n st sv
 go_enter Tryz.func68,Tryz.ntmps68
 go_wp2_with fail
 refine(MY.out _).mono ?_
 rintro e w1 ⟨rfl,hb⟩
 obtain⟨P1,B1,c0⟩:=qpb2 P0 B0 hb
 clear hb
 go_wp2_with fail
 refine(LK.out _).mono ?_
 rintro e w2 ⟨A,m,rfl,hb⟩
 obtain⟨P2,B2,c0,c1,c2,c3⟩:=q273 P1 B1 hb
 clear hb
 go_wp2_with (fail)
 go_ret
 exact⟨rfl,B2.out.alloc B2.out.size _⟩
theorem q9o2(MY:MyB kind id true)(LK:LkP id 6 le mo)(hn:(n != 0)=false)(hsv1:(sv.toList==[])=true)(_hsv2:sv.toList.isEmpty=true)(e8:(id==8)=false)(qb:¬(65535:Int) < (st.size:Int))(w:World) :
 Calls Tryz.prog 68 #[.int .i64 kind,.agg #[.int .i64 id,.int .u32 n,.string st,.string sv]] w fun e w'=>e = .returned (.int .i64 0)∧Below w.heap.size w w':=by
 have MY:=Lib.hid MY
 have LK:=Lib.hid LK
 obtain⟨P0,B0,c0⟩:=qgms w id n st sv
 go_enter Tryz.func68,Tryz.ntmps68
 go_wp2_with fail
 refine(MY.out _).mono ?_
 rintro e w1 ⟨rfl,hb⟩
 obtain⟨P1,B1,c0⟩:=qpb2 P0 B0 hb
 clear hb
 go_wp2_with fail
 refine(LK.out _).mono ?_
 rintro e w2 ⟨A,m,rfl,hb⟩
 obtain⟨P2,B2,c0,c1,c2,c3⟩:=q273 P1 B1 hb
 clear hb
 go_wp2_with (fail)
 go_ret
 exact⟨rfl,B2.out.alloc B2.out.size _⟩
theorem qnq4(MY:MyB kind id true)(LK:LkP id 5 le mo)(VT:∀W,Calls Tryz.prog 108 #[.string st] W fun e w'=>e = .returned (.bool false)∧W=w')(hn:(n != 0)=false)(hsv1:(sv.toList==[])=true)(_hsv2:sv.toList.isEmpty=true)(w:World) :
 Calls Tryz.prog 68 #[.int .i64 kind,.agg #[.int .i64 id,.int .u32 n,.string st,.string sv]] w fun e w'=>e = .returned (.int .i64 6)∧Below w.heap.size w w':=by
 have MY:=Lib.hid MY
 have LK:=Lib.hid LK
 have VT:=Lib.hid VT
 obtain⟨P0,B0,c0⟩:=qgms w id n st sv
 go_enter Tryz.func68,Tryz.ntmps68
 go_wp2_with fail
 refine(MY.out _).mono ?_
 rintro e w1 ⟨rfl,hb⟩
 obtain⟨P1,B1,c0⟩:=qpb2 P0 B0 hb
 clear hb
 go_wp2_with fail
 refine(LK.out _).mono ?_
 rintro e w2 ⟨A,m,rfl,hb⟩
 obtain⟨P2,B2,c0,c1,c2,c3⟩:=q273 P1 B1 hb
 clear hb
 go_wp2_with (first | (go_at_call 108;with_reducible refine(VT.out _).mono ?_;rintro e w3 ⟨rfl,rfl⟩))
 go_ret
 exact⟨rfl,B2.out.alloc B2.out.size _⟩
theorem qjx7(MY:MyB kind id true)(LK:LkP id 5 le mo)(VT:∀W,Calls Tryz.prog 108 #[.string st] W fun e w'=>e = .returned (.bool true)∧W=w')(VV:∀W,Calls Tryz.prog 108 #[.string sv] W fun e w'=>e = .returned (.bool true)∧W=w')(hn:(n != 0)=false)(hsv1:(sv.toList==[])=true)(_hsv2:sv.toList.isEmpty=true)(e8:(id==8)=false)(w:World) :
 Calls Tryz.prog 68 #[.int .i64 kind,.agg #[.int .i64 id,.int .u32 n,.string st,.string sv]] w fun e w'=>e = .returned (.int .i64 0)∧Below w.heap.size w w':=by
 have MY:=Lib.hid MY
 have LK:=Lib.hid LK
 have VT:=Lib.hid VT
 have VV:=Lib.hid VV
 obtain⟨P0,B0,c0⟩:=qgms w id n st sv
 go_enter Tryz.func68,Tryz.ntmps68
 go_wp2_with fail
 refine(MY.out _).mono ?_
 rintro e w1 ⟨rfl,hb⟩
 obtain⟨P1,B1,c0⟩:=qpb2 P0 B0 hb
 clear hb
 go_wp2_with fail
 refine(LK.out _).mono ?_
 rintro e w2 ⟨A,m,rfl,hb⟩
 obtain⟨P2,B2,c0,c1,c2,c3⟩:=q273 P1 B1 hb
 clear hb
 go_wp2_with (first | (go_at_call 108;with_reducible refine(VT.out _).mono ?_;rintro e w3 ⟨rfl,rfl⟩) | (go_at_call 108;with_reducible refine(VV.out _).mono ?_;rintro e w3 ⟨rfl,rfl⟩))
 go_ret
 exact⟨rfl,B2.out.alloc B2.out.size _⟩
theorem q04y(MY:MyB kind id true)(LK:LkP id 5 le mo)(VT:∀W,Calls Tryz.prog 108 #[.string st] W fun e w'=>e = .returned (.bool true)∧W=w')(VV:∀W,Calls Tryz.prog 108 #[.string sv] W fun e w'=>e = .returned (.bool true)∧W=w')(NM:∀W,Calls Tryz.prog 109 #[.string st] W fun e w'=>e = .returned (.bool false)∧W=w')(hn:(n != 0)=false)(hsv1:(sv.toList==[])=true)(_hsv2:sv.toList.isEmpty=true)(e8:(id==8)=true)(w:World) :
 Calls Tryz.prog 68 #[.int .i64 kind,.agg #[.int .i64 id,.int .u32 n,.string st,.string sv]] w fun e w'=>e = .returned (.int .i64 9)∧Below w.heap.size w w':=by
 have MY:=Lib.hid MY
 have LK:=Lib.hid LK
 have VT:=Lib.hid VT
 have VV:=Lib.hid VV
 have NM:=Lib.hid NM
 obtain⟨P0,B0,c0⟩:=qgms w id n st sv
 go_enter Tryz.func68,Tryz.ntmps68
 go_wp2_with fail
 refine(MY.out _).mono ?_
 rintro e w1 ⟨rfl,hb⟩
 obtain⟨P1,B1,c0⟩:=qpb2 P0 B0 hb
 clear hb
 go_wp2_with fail
 refine(LK.out _).mono ?_
 rintro e w2 ⟨A,m,rfl,hb⟩
 obtain⟨P2,B2,c0,c1,c2,c3⟩:=q273 P1 B1 hb
 clear hb
 go_wp2_with (first | (go_at_call 108;with_reducible refine(VT.out _).mono ?_;rintro e w3 ⟨rfl,rfl⟩) | (go_at_call 108;with_reducible refine(VV.out _).mono ?_;rintro e w3 ⟨rfl,rfl⟩) | (go_at_call 109;with_reducible refine(NM.out _).mono ?_;rintro e w3 ⟨rfl,rfl⟩))
 go_ret
 exact⟨rfl,B2.out.alloc B2.out.size _⟩
theorem qciu(MY:MyB kind id true)(LK:LkP id 5 le mo)(VT:∀W,Calls Tryz.prog 108 #[.string st] W fun e w'=>e = .returned (.bool true)∧W=w')(VV:∀W,Calls Tryz.prog 108 #[.string sv] W fun e w'=>e = .returned (.bool true)∧W=w')(NM:∀W,Calls Tryz.prog 109 #[.string st] W fun e w'=>e = .returned (.bool true)∧W=w')(hn:(n != 0)=false)(hsv1:(sv.toList==[])=true)(_hsv2:sv.toList.isEmpty=true)(e8:(id==8)=true)(w:World) :
 Calls Tryz.prog 68 #[.int .i64 kind,.agg #[.int .i64 id,.int .u32 n,.string st,.string sv]] w fun e w'=>e = .returned (.int .i64 0)∧Below w.heap.size w w':=by
 have MY:=Lib.hid MY
 have LK:=Lib.hid LK
 have VT:=Lib.hid VT
 have VV:=Lib.hid VV
 have NM:=Lib.hid NM
 obtain⟨P0,B0,c0⟩:=qgms w id n st sv
 go_enter Tryz.func68,Tryz.ntmps68
 go_wp2_with fail
 refine(MY.out _).mono ?_
 rintro e w1 ⟨rfl,hb⟩
 obtain⟨P1,B1,c0⟩:=qpb2 P0 B0 hb
 clear hb
 go_wp2_with fail
 refine(LK.out _).mono ?_
 rintro e w2 ⟨A,m,rfl,hb⟩
 obtain⟨P2,B2,c0,c1,c2,c3⟩:=q273 P1 B1 hb
 clear hb
 go_wp2_with (first | (go_at_call 108;with_reducible refine(VT.out _).mono ?_;rintro e w3 ⟨rfl,rfl⟩) | (go_at_call 108;with_reducible refine(VV.out _).mono ?_;rintro e w3 ⟨rfl,rfl⟩) | (go_at_call 109;with_reducible refine(NM.out _).mono ?_;rintro e w3 ⟨rfl,rfl⟩))
 go_ret
 exact⟨rfl,B2.out.alloc B2.out.size _⟩
theorem qfgx(MY:MyB kind id true)(LK:LkP id 7 le mo)(VT:∀W,Calls Tryz.prog 108 #[.string st] W fun e w'=>e = .returned (.bool false)∧W=w')(hn:(n != 0)=false)(w:World) :
 Calls Tryz.prog 68 #[.int .i64 kind,.agg #[.int .i64 id,.int .u32 n,.string st,.string sv]] w fun e w'=>e = .returned (.int .i64 6)∧Below w.heap.size w w':=by
 have MY:=Lib.hid MY
 have LK:=Lib.hid LK
 have VT:=Lib.hid VT
 obtain⟨P0,B0,c0⟩:=qgms w id n st sv
 go_enter Tryz.func68,Tryz.ntmps68
 go_wp2_with fail
 refine(MY.out _).mono ?_
 rintro e w1 ⟨rfl,hb⟩
 obtain⟨P1,B1,c0⟩:=qpb2 P0 B0 hb
 clear hb
 go_wp2_with fail
 refine(LK.out _).mono ?_
 rintro e w2 ⟨A,m,rfl,hb⟩
 obtain⟨P2,B2,c0,c1,c2,c3⟩:=q273 P1 B1 hb
 clear hb
 go_wp2_with (first | (go_at_call 108;with_reducible refine(VT.out _).mono ?_;rintro e w3 ⟨rfl,rfl⟩))
 go_ret
 exact⟨rfl,B2.out.alloc B2.out.size _⟩
theorem q9lq(MY:MyB kind id true)(LK:LkP id 7 le mo)(VT:∀W,Calls Tryz.prog 108 #[.string st] W fun e w'=>e = .returned (.bool true)∧W=w')(VV:∀W,Calls Tryz.prog 108 #[.string sv] W fun e w'=>e = .returned (.bool false)∧W=w')(hn:(n != 0)=false)(w:World) :
 Calls Tryz.prog 68 #[.int .i64 kind,.agg #[.int .i64 id,.int .u32 n,.string st,.string sv]] w fun e w'=>e = .returned (.int .i64 6)∧Below w.heap.size w w':=by
 have MY:=Lib.hid MY
 have LK:=Lib.hid LK
 have VT:=Lib.hid VT
 have VV:=Lib.hid VV
 obtain⟨P0,B0,c0⟩:=qgms w id n st sv
 go_enter Tryz.func68,Tryz.ntmps68
 go_wp2_with fail
 refine(MY.out _).mono ?_
 rintro e w1 ⟨rfl,hb⟩
 obtain⟨P1,B1,c0⟩:=qpb2 P0 B0 hb
 clear hb
 go_wp2_with fail
 refine(LK.out _).mono ?_
 rintro e w2 ⟨A,m,rfl,hb⟩
 obtain⟨P2,B2,c0,c1,c2,c3⟩:=q273 P1 B1 hb
 clear hb
 go_wp2_with (first | (go_at_call 108;with_reducible refine(VT.out _).mono ?_;rintro e w3 ⟨rfl,rfl⟩) | (go_at_call 108;with_reducible refine(VV.out _).mono ?_;rintro e w3 ⟨rfl,rfl⟩))
 go_ret
 exact⟨rfl,B2.out.alloc B2.out.size _⟩
theorem qwvr(MY:MyB kind id true)(LK:LkP id 7 le mo)(VT:∀W,Calls Tryz.prog 108 #[.string st] W fun e w'=>e = .returned (.bool true)∧W=w')(VV:∀W,Calls Tryz.prog 108 #[.string sv] W fun e w'=>e = .returned (.bool true)∧W=w')(hn:(n != 0)=false)(e8:(id==8)=false)(w:World) :
 Calls Tryz.prog 68 #[.int .i64 kind,.agg #[.int .i64 id,.int .u32 n,.string st,.string sv]] w fun e w'=>e = .returned (.int .i64 0)∧Below w.heap.size w w':=by
 have MY:=Lib.hid MY
 have LK:=Lib.hid LK
 have VT:=Lib.hid VT
 have VV:=Lib.hid VV
 obtain⟨P0,B0,c0⟩:=qgms w id n st sv
 go_enter Tryz.func68,Tryz.ntmps68
 go_wp2_with fail
 refine(MY.out _).mono ?_
 rintro e w1 ⟨rfl,hb⟩
 obtain⟨P1,B1,c0⟩:=qpb2 P0 B0 hb
 clear hb
 go_wp2_with fail
 refine(LK.out _).mono ?_
 rintro e w2 ⟨A,m,rfl,hb⟩
 obtain⟨P2,B2,c0,c1,c2,c3⟩:=q273 P1 B1 hb
 clear hb
 go_wp2_with (first | (go_at_call 108;with_reducible refine(VT.out _).mono ?_;rintro e w3 ⟨rfl,rfl⟩) | (go_at_call 108;with_reducible refine(VV.out _).mono ?_;rintro e w3 ⟨rfl,rfl⟩))
 go_ret
 exact⟨rfl,B2.out.alloc B2.out.size _⟩
end
end Go.Proofs.YtbklidpadffpgaaGreat
