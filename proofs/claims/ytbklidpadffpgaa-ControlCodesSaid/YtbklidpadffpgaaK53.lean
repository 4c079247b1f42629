/- The walk of ControlCodes. No condition. -/
import Derived.Deep.DeepCutAuto
import Derived.Great.BuildSlice
import Derived.Test.YtbklidpadffpgaaK52
import Derived.Test.YtbklidpadffpgaaK34
import Derived.Test.YtbklidpadffpgaaK29
import Derived.Test.YtbklidpadffpgaaK18
set_option maxHeartbeats 4000000
set_option maxRecDepth 100000
namespace Go.Proofs.Ytbklidpadffpgaa
open Go.RowKit
theorem qqkr(k:Int)(w:World)  (hr:k%4=0) :
 Calls Try.prog 3 #[.int .i64 k,.int .i64 0] w fun e w'=>e = .returned (.bool true)∧Below w.heap.size w w':=by
 have PI:=fun W=>qhho k 4 W (by decide) (by decide)
 rw[hr] at PI
 replace PI:=Lib.hid PI
 have B5:=fun W=>qau5 (k:=12) (c:=0) 5 (by decide) W
 have B4:=fun W=>qau5 (k:=12) (c:=0) 4 (by decide) W
 rw[show q2jl 5 (numK 12 0)=([],0) by rw[qku3 (by decide)];rfl] at B5
 rw[show q2jl 4 (numK 12 0)=([],0) by rw[qyyg (by decide)];rfl] at B4
 have z0:((bs []).toList==[])=true:=by rw[q0c6];rfl
 obtain⟨D,hD⟩:∃D,pkC (numK 12 0) adZ=D:=⟨_,rfl⟩
 have hD1:D.size=25:=by rw[←hD];exact qwmp _ _
 have hD2:D.all (·.oneCell')=true:=by rw[←hD];exact qmz0 _ _
 rw[hD] at B5 B4
 have HD:=Lib.hid hD
 have HD1:=Lib.hid hD1
 have HD2:=Lib.hid hD2
 have HZ:=Lib.hid qbwp
 have hzv:=qrai
 have hne:¬pkZ=#[]:=by intro h;have:=qbwp;rw[h] at this;cases this
 have LB:=Lib.hid (fun W=>q8xz (qybm (w:=W) (.cells pkZ 30)) (Nat.le_refl _) D)
 replace B5:=Lib.hid B5
 replace B4:=Lib.hid B4
 clear hD hD1 hD2 hr
 go_enter Try.func3,Try.ntmps3
 go_wp2_with fail
 refine(qpnd _).mono ?_
 rintro e W ⟨rfl,hb⟩
 have L1:=Lib.hid hb
 clear hb
 go_wp2_with fail
 refine(PI.out _).mono ?_
 rintro e W' ⟨rfl,rfl⟩
 have L2:=Lib.hid (qxh2 L1.out (LB.out W))
 have G2:=Lib.hid (setRow_heap _ _ _ D _ _ (heap_alloc_new W (.cells pkZ 30)))
 go_wp2_with (first
  | (refine wpList_buildTo rfl 30 _ rfl (some _) rfl D (by rw[←HD.out];kernel_rfl) ?_)
  | (refine wpList_store_row rfl _ _ _ rfl W.heap.size D rfl rfl 30 _ (heap_alloc_new W _) (by rw[HD1.out];exact q5nr) (by rw[HZ.out,HD1.out]) HD2.out ?_)
  | (refine wpList_load_row rfl _ _ rfl W.heap.size rfl 30 D (0,0) _ G2.out Try.underlying30 rfl (by rw[HD1.out];exact q5nr) ?_))
 refine(B5.out _).mono ?_
 rintro e W3 ⟨rfl,hb⟩
 have L3:=Lib.hid (qxh2 L2.out hb)
 have G3:=Lib.hid ((hb.block _ (lt_of_block G2.out)).trans G2.out)
 clear hb
 go_wp2_with (refine wpList_load_row rfl _ _ rfl W.heap.size rfl 30 D (0,0) _ G3.out Try.underlying30 rfl (by rw[HD1.out];exact q5nr) ?_)
 refine(B4.out _).mono ?_
 rintro e W4 ⟨rfl,hb⟩
 have L4:=Lib.hid (qxh2 L3.out hb)
 have G4:=Lib.hid ((hb.block _ (lt_of_block G3.out)).trans G3.out)
 have k0:W4.cell? ⟨W.heap.size,0,none⟩=some (.int .i64 12):=(cell_of_row _ _ 0 _ _ _ G4.out).trans (by rw[←HD.out];rfl)
 clear hb L1 L2 L3 G2 G3
 go_wp2_with fail
 go_ret
 exact⟨rfl,L4.out⟩
theorem q26h(k:Int)(w:World){c:Int}(hc:c≠0)(hr:k%4=0) :
 Calls Try.prog 3 #[.int .i64 k,.int .i64 c] w fun e w'=>e = .returned (.bool true)∧Below w.heap.size w w':=by
 have PI:=fun W=>qhho k 4 W (by decide) (by decide)
 rw[hr] at PI
 replace PI:=Lib.hid PI
 have B5:=fun W=>qau5 (k:=12) (c:=c) 5 (by decide) W
 have B4:=fun W=>qau5 (k:=12) (c:=c) 4 (by decide) W
 rw[show q2jl 5 (numK 12 c)=([],2) by rw[qku3 (by decide),if_pos (by decide),if_neg hc]] at B5
 rw[show q2jl 4 (numK 12 c)=([],2) by rw[qyyg (by decide),if_neg (by decide),if_neg hc]] at B4
 have z0:((bs []).toList==[])=true:=by rw[q0c6];rfl
 have e1:(c==0)=false:=by simpa using hc
 have e2:(c != 0)=true:=by simpa using hc
 obtain⟨D,hD⟩:∃D,pkC (numK 12 c) adZ=D:=⟨_,rfl⟩
 have hD1:D.size=25:=by rw[←hD];exact qwmp _ _
 have hD2:D.all (·.oneCell')=true:=by rw[←hD];exact qmz0 _ _
 rw[hD] at B5 B4
 have HD:=Lib.hid hD
 have HD1:=Lib.hid hD1
 have HD2:=Lib.hid hD2
 have HZ:=Lib.hid qbwp
 have hzv:=qrai
 have hne:¬pkZ=#[]:=by intro h;have:=qbwp;rw[h] at this;cases this
 have LB:=Lib.hid (fun W=>q8xz (qybm (w:=W) (.cells pkZ 30)) (Nat.le_refl _) D)
 replace B5:=Lib.hid B5
 replace B4:=Lib.hid B4
 clear hD hD1 hD2 hr
 go_enter Try.func3,Try.ntmps3
 go_wp2_with fail
 refine(qpnd _).mono ?_
 rintro e W ⟨rfl,hb⟩
 have L1:=Lib.hid hb
 clear hb
 go_wp2_with fail
 refine(PI.out _).mono ?_
 rintro e W' ⟨rfl,rfl⟩
 have L2:=Lib.hid (qxh2 L1.out (LB.out W))
 have G2:=Lib.hid (setRow_heap _ _ _ D _ _ (heap_alloc_new W (.cells pkZ 30)))
 go_wp2_with (first
  | (refine wpList_buildTo rfl 30 _ rfl (some _) rfl D (by rw[←HD.out];kernel_rfl) ?_)
  | (refine wpList_store_row rfl _ _ _ rfl W.heap.size D rfl rfl 30 _ (heap_alloc_new W _) (by rw[HD1.out];exact q5nr) (by rw[HZ.out,HD1.out]) HD2.out ?_)
  | (refine wpList_load_row rfl _ _ rfl W.heap.size rfl 30 D (0,0) _ G2.out Try.underlying30 rfl (by rw[HD1.out];exact q5nr) ?_))
 refine(B5.out _).mono ?_
 rintro e W3 ⟨rfl,hb⟩
 have L3:=Lib.hid (qxh2 L2.out hb)
 have G3:=Lib.hid ((hb.block _ (lt_of_block G2.out)).trans G2.out)
 clear hb
 go_wp2_with (refine wpList_load_row rfl _ _ rfl W.heap.size rfl 30 D (0,0) _ G3.out Try.underlying30 rfl (by rw[HD1.out];exact q5nr) ?_)
 refine(B4.out _).mono ?_
 rintro e W4 ⟨rfl,hb⟩
 have L4:=Lib.hid (qxh2 L3.out hb)
 have G4:=Lib.hid ((hb.block _ (lt_of_block G3.out)).trans G3.out)
 have k0:W4.cell? ⟨W.heap.size,0,none⟩=some (.int .i64 12):=(cell_of_row _ _ 0 _ _ _ G4.out).trans (by rw[←HD.out];rfl)
 clear hb L1 L2 L3 G2 G3
 go_wp2_with fail
 go_ret
 exact⟨rfl,L4.out⟩
theorem q33d(k:Int)(w:World)  (hr:k%4=1) :
 Calls Try.prog 3 #[.int .i64 k,.int .i64 0] w fun e w'=>e = .returned (.bool true)∧Below w.heap.size w w':=by
 have PI:=fun W=>qhho k 4 W (by decide) (by decide)
 rw[hr] at PI
 replace PI:=Lib.hid PI
 have B5:=fun W=>qau5 (k:=13) (c:=0) 5 (by decide) W
 have B4:=fun W=>qau5 (k:=13) (c:=0) 4 (by decide) W
 rw[show q2jl 5 (numK 13 0)=([],0) by rw[qku3 (by decide)];rfl] at B5
 rw[show q2jl 4 (numK 13 0)=([],0) by rw[qyyg (by decide)];rfl] at B4
 have z0:((bs []).toList==[])=true:=by rw[q0c6];rfl
 obtain⟨D,hD⟩:∃D,pkC (numK 13 0) adZ=D:=⟨_,rfl⟩
 have hD1:D.size=25:=by rw[←hD];exact qwmp _ _
 have hD2:D.all (·.oneCell')=true:=by rw[←hD];exact qmz0 _ _
 rw[hD] at B5 B4
 have HD:=Lib.hid hD
 have HD1:=Lib.hid hD1
 have HD2:=Lib.hid hD2
 have HZ:=Lib.hid qbwp
 have hzv:=qrai
 have hne:¬pkZ=#[]:=by intro h;have:=qbwp;rw[h] at this;cases this
 have LB:=Lib.hid (fun W=>q8xz (qybm (w:=W) (.cells pkZ 30)) (Nat.le_refl _) D)
 replace B5:=Lib.hid B5
 replace B4:=Lib.hid B4
 clear hD hD1 hD2 hr
 go_enter Try.func3,Try.ntmps3
 go_wp2_with fail
 refine(qpnd _).mono ?_
 rintro e W ⟨rfl,hb⟩
 have L1:=Lib.hid hb
 clear hb
 go_wp2_with fail
 refine(PI.out _).mono ?_
 rintro e W' ⟨rfl,rfl⟩
 have L2:=Lib.hid (qxh2 L1.out (LB.out W))
 have G2:=Lib.hid (setRow_heap _ _ _ D _ _ (heap_alloc_new W (.cells pkZ 30)))
 go_wp2_with (first
  | (refine wpList_buildTo rfl 30 _ rfl (some _) rfl D (by rw[←HD.out];kernel_rfl) ?_)
  | (refine wpList_store_row rfl _ _ _ rfl W.heap.size D rfl rfl 30 _ (heap_alloc_new W _) (by rw[HD1.out];exact q5nr) (by rw[HZ.out,HD1.out]) HD2.out ?_)
  | (refine wpList_load_row rfl _ _ rfl W.heap.size rfl 30 D (0,0) _ G2.out Try.underlying30 rfl (by rw[HD1.out];exact q5nr) ?_))
 refine(B5.out _).mono ?_
 rintro e W3 ⟨rfl,hb⟩
 have L3:=Lib.hid (qxh2 L2.out hb)
 have G3:=Lib.hid ((hb.block _ (lt_of_block G2.out)).trans G2.out)
 clear hb
 go_wp2_with (refine wpList_load_row rfl _ _ rfl W.heap.size rfl 30 D (0,0) _ G3.out Try.underlying30 rfl (by rw[HD1.out];exact q5nr) ?_)
 refine(B4.out _).mono ?_
 rintro e W4 ⟨rfl,hb⟩
 have L4:=Lib.hid (qxh2 L3.out hb)
 have G4:=Lib.hid ((hb.block _ (lt_of_block G3.out)).trans G3.out)
 have k0:W4.cell? ⟨W.heap.size,0,none⟩=some (.int .i64 13):=(cell_of_row _ _ 0 _ _ _ G4.out).trans (by rw[←HD.out];rfl)
 clear hb L1 L2 L3 G2 G3
 go_wp2_with fail
 go_ret
 exact⟨rfl,L4.out⟩
theorem qmqi(k:Int)(w:World){c:Int}(hc:c≠0)(hr:k%4=1) :
 Calls Try.prog 3 #[.int .i64 k,.int .i64 c] w fun e w'=>e = .returned (.bool true)∧Below w.heap.size w w':=by
 have PI:=fun W=>qhho k 4 W (by decide) (by decide)
 rw[hr] at PI
 replace PI:=Lib.hid PI
 have B5:=fun W=>qau5 (k:=13) (c:=c) 5 (by decide) W
 have B4:=fun W=>qau5 (k:=13) (c:=c) 4 (by decide) W
 rw[show q2jl 5 (numK 13 c)=([],2) by rw[qku3 (by decide),if_pos (by decide),if_neg hc]] at B5
 rw[show q2jl 4 (numK 13 c)=([],2) by rw[qyyg (by decide),if_neg (by decide),if_neg hc]] at B4
 have z0:((bs []).toList==[])=true:=by rw[q0c6];rfl
 have e1:(c==0)=false:=by simpa using hc
 have e2:(c != 0)=true:=by simpa using hc
 obtain⟨D,hD⟩:∃D,pkC (numK 13 c) adZ=D:=⟨_,rfl⟩
 have hD1:D.size=25:=by rw[←hD];exact qwmp _ _
 have hD2:D.all (·.oneCell')=true:=by rw[←hD];exact qmz0 _ _
 rw[hD] at B5 B4
 have HD:=Lib.hid hD
 have HD1:=Lib.hid hD1
 have HD2:=Lib.hid hD2
 have HZ:=Lib.hid qbwp
 have hzv:=qrai
 have hne:¬pkZ=#[]:=by intro h;have:=qbwp;rw[h] at this;cases this
 have LB:=Lib.hid (fun W=>q8xz (qybm (w:=W) (.cells pkZ 30)) (Nat.le_refl _) D)
 replace B5:=Lib.hid B5
 replace B4:=Lib.hid B4
 clear hD hD1 hD2 hr
 go_enter Try.func3,Try.ntmps3
 go_wp2_with fail
 refine(qpnd _).mono ?_
 rintro e W ⟨rfl,hb⟩
 have L1:=Lib.hid hb
 clear hb
 go_wp2_with fail
 refine(PI.out _).mono ?_
 rintro e W' ⟨rfl,rfl⟩
 have L2:=Lib.hid (qxh2 L1.out (LB.out W))
 have G2:=Lib.hid (setRow_heap _ _ _ D _ _ (heap_alloc_new W (.cells pkZ 30)))
 go_wp2_with (first
  | (refine wpList_buildTo rfl 30 _ rfl (some _) rfl D (by rw[←HD.out];kernel_rfl) ?_)
  | (refine wpList_store_row rfl _ _ _ rfl W.heap.size D rfl rfl 30 _ (heap_alloc_new W _) (by rw[HD1.out];exact q5nr) (by rw[HZ.out,HD1.out]) HD2.out ?_)
  | (refine wpList_load_row rfl _ _ rfl W.heap.size rfl 30 D (0,0) _ G2.out Try.underlying30 rfl (by rw[HD1.out];exact q5nr) ?_))
 refine(B5.out _).mono ?_
 rintro e W3 ⟨rfl,hb⟩
 have L3:=Lib.hid (qxh2 L2.out hb)
 have G3:=Lib.hid ((hb.block _ (lt_of_block G2.out)).trans G2.out)
 clear hb
 go_wp2_with (refine wpList_load_row rfl _ _ rfl W.heap.size rfl 30 D (0,0) _ G3.out Try.underlying30 rfl (by rw[HD1.out];exact q5nr) ?_)
 refine(B4.out _).mono ?_
 rintro e W4 ⟨rfl,hb⟩
 have L4:=Lib.hid (qxh2 L3.out hb)
 have G4:=Lib.hid ((hb.block _ (lt_of_block G3.out)).trans G3.out)
 have k0:W4.cell? ⟨W.heap.size,0,none⟩=some (.int .i64 13):=(cell_of_row _ _ 0 _ _ _ G4.out).trans (by rw[←HD.out];rfl)
 clear hb L1 L2 L3 G2 G3
 go_wp2_with fail
 go_ret
 exact⟨rfl,L4.out⟩
theorem qj5s(k:Int)(w:World)  (hr:k%4=2) :
 Calls Try.prog 3 #[.int .i64 k,.int .i64 0] w fun e w'=>e = .returned (.bool true)∧Below w.heap.size w w':=by
 have PI:=fun W=>qhho k 4 W (by decide) (by decide)
 rw[hr] at PI
 replace PI:=Lib.hid PI
 have B5:=fun W=>qau5 (k:=14) (c:=0) 5 (by decide) W
 have B4:=fun W=>qau5 (k:=14) (c:=0) 4 (by decide) W
 rw[show q2jl 5 (numK 14 0)=([],0) by decide+kernel] at B5
 rw[show q2jl 4 (numK 14 0)=([],0) by rw[qyyg (by decide)];rfl] at B4
 have z0:((bs []).toList==[])=true:=by rw[q0c6];rfl
 have MY:=fun W=>q6zo 14 0 W
 rw[show mayR 14 0=true by decide+kernel] at MY
 replace MY:=Lib.hid MY
 obtain⟨D,hD⟩:∃D,pkC (numK 14 0) adZ=D:=⟨_,rfl⟩
 have hD1:D.size=25:=by rw[←hD];exact qwmp _ _
 have hD2:D.all (·.oneCell')=true:=by rw[←hD];exact qmz0 _ _
 rw[hD] at B5 B4
 have HD:=Lib.hid hD
 have HD1:=Lib.hid hD1
 have HD2:=Lib.hid hD2
 have HZ:=Lib.hid qbwp
 have hzv:=qrai
 have hne:¬pkZ=#[]:=by intro h;have:=qbwp;rw[h] at this;cases this
 have LB:=Lib.hid (fun W=>q8xz (qybm (w:=W) (.cells pkZ 30)) (Nat.le_refl _) D)
 replace B5:=Lib.hid B5
 replace B4:=Lib.hid B4
 clear hD hD1 hD2 hr
 go_enter Try.func3,Try.ntmps3
 go_wp2_with fail
 refine(qpnd _).mono ?_
 rintro e W ⟨rfl,hb⟩
 have L1:=Lib.hid hb
 clear hb
 go_wp2_with fail
 refine(PI.out _).mono ?_
 rintro e W' ⟨rfl,rfl⟩
 have L2:=Lib.hid (qxh2 L1.out (LB.out W))
 have G2:=Lib.hid (setRow_heap _ _ _ D _ _ (heap_alloc_new W (.cells pkZ 30)))
 go_wp2_with (first
  | (refine wpList_buildTo rfl 30 _ rfl (some _) rfl D (by rw[←HD.out];kernel_rfl) ?_)
  | (refine wpList_store_row rfl _ _ _ rfl W.heap.size D rfl rfl 30 _ (heap_alloc_new W _) (by rw[HD1.out];exact q5nr) (by rw[HZ.out,HD1.out]) HD2.out ?_)
  | (refine wpList_load_row rfl _ _ rfl W.heap.size rfl 30 D (0,0) _ G2.out Try.underlying30 rfl (by rw[HD1.out];exact q5nr) ?_))
 refine(B5.out _).mono ?_
 rintro e W3 ⟨rfl,hb⟩
 have L3:=Lib.hid (qxh2 L2.out hb)
 have G3:=Lib.hid ((hb.block _ (lt_of_block G2.out)).trans G2.out)
 clear hb
 go_wp2_with (refine wpList_load_row rfl _ _ rfl W.heap.size rfl 30 D (0,0) _ G3.out Try.underlying30 rfl (by rw[HD1.out];exact q5nr) ?_)
 refine(B4.out _).mono ?_
 rintro e W4 ⟨rfl,hb⟩
 have L4:=Lib.hid (qxh2 L3.out hb)
 have G4:=Lib.hid ((hb.block _ (lt_of_block G3.out)).trans G3.out)
 have k0:W4.cell? ⟨W.heap.size,0,none⟩=some (.int .i64 14):=(cell_of_row _ _ 0 _ _ _ G4.out).trans (by rw[←HD.out];rfl)
 clear hb L1 L2 L3 G2 G3
 go_wp2_with fail
 refine(MY.out _).mono ?_
 rintro e W5 ⟨rfl,hb⟩
 have L5:=Lib.hid (qxh2 L4.out hb)
 clear hb k0
 go_wp2_with fail
 go_ret
 exact⟨rfl,L5.out⟩
theorem q09l(k:Int)(w:World){c:Int}(hc:c≠0)(hm:mayR 14 c=false)(hr:k%4=2) :
 Calls Try.prog 3 #[.int .i64 k,.int .i64 c] w fun e w'=>e = .returned (.bool true)∧Below w.heap.size w w':=by
 have PI:=fun W=>qhho k 4 W (by decide) (by decide)
 rw[hr] at PI
 replace PI:=Lib.hid PI
 have B5:=fun W=>qau5 (k:=14) (c:=c) 5 (by decide) W
 have B4:=fun W=>qau5 (k:=14) (c:=c) 4 (by decide) W
 rw[show q2jl 5 (numK 14 c)=([],2) by rw[qku3 (by decide),if_neg (by decide),hm];rfl] at B5
 rw[show q2jl 4 (numK 14 c)=([],2) by rw[qyyg (by decide),if_neg (by decide),if_neg hc]] at B4
 have z0:((bs []).toList==[])=true:=by rw[q0c6];rfl
 have e1:(c==0)=false:=by simpa using hc
 have e2:(c != 0)=true:=by simpa using hc
 have MY:=fun W=>q6zo 14 c W
 rw[hm] at MY
 replace MY:=Lib.hid MY
 obtain⟨D,hD⟩:∃D,pkC (numK 14 c) adZ=D:=⟨_,rfl⟩
 have hD1:D.size=25:=by rw[←hD];exact qwmp _ _
 have hD2:D.all (·.oneCell')=true:=by rw[←hD];exact qmz0 _ _
 rw[hD] at B5 B4
 have HD:=Lib.hid hD
 have HD1:=Lib.hid hD1
 have HD2:=Lib.hid hD2
 have HZ:=Lib.hid qbwp
 have hzv:=qrai
 have hne:¬pkZ=#[]:=by intro h;have:=qbwp;rw[h] at this;cases this
 have LB:=Lib.hid (fun W=>q8xz (qybm (w:=W) (.cells pkZ 30)) (Nat.le_refl _) D)
 replace B5:=Lib.hid B5
 replace B4:=Lib.hid B4
 clear hD hD1 hD2 hr
 go_enter Try.func3,Try.ntmps3
 go_wp2_with fail
 refine(qpnd _).mono ?_
 rintro e W ⟨rfl,hb⟩
 have L1:=Lib.hid hb
 clear hb
 go_wp2_with fail
 refine(PI.out _).mono ?_
 rintro e W' ⟨rfl,rfl⟩
 have L2:=Lib.hid (qxh2 L1.out (LB.out W))
 have G2:=Lib.hid (setRow_heap _ _ _ D _ _ (heap_alloc_new W (.cells pkZ 30)))
 go_wp2_with (first
  | (refine wpList_buildTo rfl 30 _ rfl (some _) rfl D (by rw[←HD.out];kernel_rfl) ?_)
  | (refine wpList_store_row rfl _ _ _ rfl W.heap.size D rfl rfl 30 _ (heap_alloc_new W _) (by rw[HD1.out];exact q5nr) (by rw[HZ.out,HD1.out]) HD2.out ?_)
  | (refine wpList_load_row rfl _ _ rfl W.heap.size rfl 30 D (0,0) _ G2.out Try.underlying30 rfl (by rw[HD1.out];exact q5nr) ?_))
 refine(B5.out _).mono ?_
 rintro e W3 ⟨rfl,hb⟩
 have L3:=Lib.hid (qxh2 L2.out hb)
 have G3:=Lib.hid ((hb.block _ (lt_of_block G2.out)).trans G2.out)
 clear hb
 go_wp2_with (refine wpList_load_row rfl _ _ rfl W.heap.size rfl 30 D (0,0) _ G3.out Try.underlying30 rfl (by rw[HD1.out];exact q5nr) ?_)
 refine(B4.out _).mono ?_
 rintro e W4 ⟨rfl,hb⟩
 have L4:=Lib.hid (qxh2 L3.out hb)
 have G4:=Lib.hid ((hb.block _ (lt_of_block G3.out)).trans G3.out)
 have k0:W4.cell? ⟨W.heap.size,0,none⟩=some (.int .i64 14):=(cell_of_row _ _ 0 _ _ _ G4.out).trans (by rw[←HD.out];rfl)
 clear hb L1 L2 L3 G2 G3
 go_wp2_with fail
 refine(MY.out _).mono ?_
 rintro e W5 ⟨rfl,hb⟩
 have L5:=Lib.hid (qxh2 L4.out hb)
 clear hb k0
 go_wp2_with fail
 go_ret
 exact⟨rfl,L5.out⟩
theorem qjnv(k:Int)(w:World){n:Nat}(hc:(n:Int)≠0)(hn:n < 256)(hm:mayR 14 (n:Int)=true)(hr:k%4=2) :
 Calls Try.prog 3 #[.int .i64 k,.int .i64 (n:Int)] w fun e w'=>e = .returned (.bool true)∧Below w.heap.size w w':=by
 have PI:=fun W=>qhho k 4 W (by decide) (by decide)
 rw[hr] at PI
 replace PI:=Lib.hid PI
 have B5:=fun W=>qau5 (k:=14) (c:=(n:Int)) 5 (by decide) W
 have B4:=fun W=>qau5 (k:=14) (c:=(n:Int)) 4 (by decide) W
 rw[show q2jl 5 (numK 14 (n:Int))=([UInt8.ofNat n],0) by rw[qku3 (by decide),if_neg (by decide),hm,if_pos rfl,if_neg hc];rfl] at B5
 rw[show q2jl 4 (numK 14 (n:Int))=([],2) by rw[qyyg (by decide),if_neg (by decide),if_neg hc]] at B4
 have e1:((n:Int)==0)=false:=by simpa using hc
 have e2:((n:Int) != 0)=true:=by simpa using hc
 have hn2:(n:Int) < 256:=by omega
 have hmn:(UInt8.ofNat n).toNat=n:=by rw[UInt8.toNat_ofNat'];omega
 have CV:∀W:World,(convert 35 9 (.slice (some ⟨W.heap.size,0,none⟩) 1 1)).run Try.prog (W.alloc (.cells #[.int .u8 (n:Int)] 5)) = .ok (.string (bs [UInt8.ofNat n])) (W.alloc (.cells #[.int .u8 (n:Int)] 5)):=fun W=>by
  have:=q3j9 (base:=W.heap.size) (w:=W.alloc (.cells #[.int .u8 ((UInt8.ofNat n).toNat:Int)] 5)) [UInt8.ofNat n] ⟨rfl,.inr ⟨_,1,_,rfl,Nat.le_refl _,heap_alloc_new W _,Nat.le_refl _,by decide,rfl,rfl⟩⟩
  rw[hmn] at this
  exact this
 have CV:=Lib.hid CV
 have z0:((bs [UInt8.ofNat n]).toList==[])=false:=by rw[q0c6];rfl
 have MY:=fun W=>q6zo 14 (n:Int) W
 rw[hm] at MY
 replace MY:=Lib.hid MY
 generalize bs [UInt8.ofNat n]=X at *
 clear hmn hn
 obtain⟨D,hD⟩:∃D,pkC (numK 14 (n:Int)) adZ=D:=⟨_,rfl⟩
 have hD1:D.size=25:=by rw[←hD];exact qwmp _ _
 have hD2:D.all (·.oneCell')=true:=by rw[←hD];exact qmz0 _ _
 rw[hD] at B5 B4
 have HD:=Lib.hid hD
 have HD1:=Lib.hid hD1
 have HD2:=Lib.hid hD2
 have HZ:=Lib.hid qbwp
 have hzv:=qrai
 have hne:¬pkZ=#[]:=by intro h;have:=qbwp;rw[h] at this;cases this
 have LB:=Lib.hid (fun W=>q8xz (qybm (w:=W) (.cells pkZ 30)) (Nat.le_refl _) D)
 replace B5:=Lib.hid B5
 replace B4:=Lib.hid B4
 clear hD hD1 hD2 hr
 go_enter Try.func3,Try.ntmps3
 go_wp2_with fail
 refine(qpnd _).mono ?_
 rintro e W ⟨rfl,hb⟩
 have L1:=Lib.hid hb
 clear hb
 go_wp2_with fail
 refine(PI.out _).mono ?_
 rintro e W' ⟨rfl,rfl⟩
 have L2:=Lib.hid (qxh2 L1.out (LB.out W))
 have G2:=Lib.hid (setRow_heap _ _ _ D _ _ (heap_alloc_new W (.cells pkZ 30)))
 go_wp2_with (first
  | (refine wpList_buildTo rfl 30 _ rfl (some _) rfl D (by rw[←HD.out];kernel_rfl) ?_)
  | (refine wpList_store_row rfl _ _ _ rfl W.heap.size D rfl rfl 30 _ (heap_alloc_new W _) (by rw[HD1.out];exact q5nr) (by rw[HZ.out,HD1.out]) HD2.out ?_)
  | (refine wpList_load_row rfl _ _ rfl W.heap.size rfl 30 D (0,0) _ G2.out Try.underlying30 rfl (by rw[HD1.out];exact q5nr) ?_))
 refine(B5.out _).mono ?_
 rintro e W3 ⟨rfl,hb⟩
 have L3:=Lib.hid (qxh2 L2.out hb)
 have G3:=Lib.hid ((hb.block _ (lt_of_block G2.out)).trans G2.out)
 clear hb
 go_wp2_with (refine wpList_load_row rfl _ _ rfl W.heap.size rfl 30 D (0,0) _ G3.out Try.underlying30 rfl (by rw[HD1.out];exact q5nr) ?_)
 refine(B4.out _).mono ?_
 rintro e W4 ⟨rfl,hb⟩
 have L4:=Lib.hid (qxh2 L3.out hb)
 have G4:=Lib.hid ((hb.block _ (lt_of_block G3.out)).trans G3.out)
 have k0:W4.cell? ⟨W.heap.size,0,none⟩=some (.int .i64 14):=(cell_of_row _ _ 0 _ _ _ G4.out).trans (by rw[←HD.out];rfl)
 clear hb L1 L2 L3 G2 G3
 go_wp2_with fail
 refine(MY.out _).mono ?_
 rintro e W5 ⟨rfl,hb⟩
 have L5:=Lib.hid (qxh2 L4.out hb)
 clear hb k0
 have CX:=CV.out W5
 have LC:=Lib.hid (qxh2 L5.out (qybm (w:=W5) (.cells #[.int .u8 (n:Int)] 5)))
 go_wp2_with fail
 go_ret
 exact⟨rfl,LC.out⟩
theorem q20y(k:Int)(w:World)  (hr:k%4=3) :
 Calls Try.prog 3 #[.int .i64 k,.int .i64 0] w fun e w'=>e = .returned (.bool true)∧Below w.heap.size w w':=by
 have PI:=fun W=>qhho k 4 W (by decide) (by decide)
 rw[hr] at PI
 replace PI:=Lib.hid PI
 have B5:=fun W=>qau5 (k:=15) (c:=0) 5 (by decide) W
 have B4:=fun W=>qau5 (k:=15) (c:=0) 4 (by decide) W
 rw[show q2jl 5 (numK 15 0)=([],0) by decide+kernel] at B5
 rw[show q2jl 4 (numK 15 0)=([],8) by rw[qyyg (by decide),if_pos rfl]] at B4
 have z0:((bs []).toList==[])=true:=by rw[q0c6];rfl
 have MY:=fun W=>q6zo 15 0 W
 rw[show mayR 15 0=true by decide+kernel] at MY
 replace MY:=Lib.hid MY
 obtain⟨D,hD⟩:∃D,pkC (numK 15 0) adZ=D:=⟨_,rfl⟩
 have hD1:D.size=25:=by rw[←hD];exact qwmp _ _
 have hD2:D.all (·.oneCell')=true:=by rw[←hD];exact qmz0 _ _
 rw[hD] at B5 B4
 have HD:=Lib.hid hD
 have HD1:=Lib.hid hD1
 have HD2:=Lib.hid hD2
 have HZ:=Lib.hid qbwp
 have hzv:=qrai
 have hne:¬pkZ=#[]:=by intro h;have:=qbwp;rw[h] at this;cases this
 have LB:=Lib.hid (fun W=>q8xz (qybm (w:=W) (.cells pkZ 30)) (Nat.le_refl _) D)
 replace B5:=Lib.hid B5
 replace B4:=Lib.hid B4
 clear hD hD1 hD2 hr
 go_enter Try.func3,Try.ntmps3
 go_wp2_with fail
 refine(qpnd _).mono ?_
 rintro e W ⟨rfl,hb⟩
 have L1:=Lib.hid hb
 clear hb
 go_wp2_with fail
 refine(PI.out _).mono ?_
 rintro e W' ⟨rfl,rfl⟩
 have L2:=Lib.hid (qxh2 L1.out (LB.out W))
 have G2:=Lib.hid (setRow_heap _ _ _ D _ _ (heap_alloc_new W (.cells pkZ 30)))
 go_wp2_with (first
  | (refine wpList_buildTo rfl 30 _ rfl (some _) rfl D (by rw[←HD.out];kernel_rfl) ?_)
  | (refine wpList_store_row rfl _ _ _ rfl W.heap.size D rfl rfl 30 _ (heap_alloc_new W _) (by rw[HD1.out];exact q5nr) (by rw[HZ.out,HD1.out]) HD2.out ?_)
  | (refine wpList_load_row rfl _ _ rfl W.heap.size rfl 30 D (0,0) _ G2.out Try.underlying30 rfl (by rw[HD1.out];exact q5nr) ?_))
 refine(B5.out _).mono ?_
 rintro e W3 ⟨rfl,hb⟩
 have L3:=Lib.hid (qxh2 L2.out hb)
 have G3:=Lib.hid ((hb.block _ (lt_of_block G2.out)).trans G2.out)
 clear hb
 go_wp2_with (refine wpList_load_row rfl _ _ rfl W.heap.size rfl 30 D (0,0) _ G3.out Try.underlying30 rfl (by rw[HD1.out];exact q5nr) ?_)
 refine(B4.out _).mono ?_
 rintro e W4 ⟨rfl,hb⟩
 have L4:=Lib.hid (qxh2 L3.out hb)
 have G4:=Lib.hid ((hb.block _ (lt_of_block G3.out)).trans G3.out)
 have k0:W4.cell? ⟨W.heap.size,0,none⟩=some (.int .i64 15):=(cell_of_row _ _ 0 _ _ _ G4.out).trans (by rw[←HD.out];rfl)
 clear hb L1 L2 L3 G2 G3
 go_wp2_with fail
 refine(MY.out _).mono ?_
 rintro e W5 ⟨rfl,hb⟩
 have L5:=Lib.hid (qxh2 L4.out hb)
 clear hb k0
 go_wp2_with fail
 go_ret
 exact⟨rfl,L5.out⟩
theorem qk8f(k:Int)(w:World){c:Int}(hc:c≠0)(hm:mayR 15 c=false)(hr:k%4=3) :
 Calls Try.prog 3 #[.int .i64 k,.int .i64 c] w fun e w'=>e = .returned (.bool true)∧Below w.heap.size w w':=by
 have PI:=fun W=>qhho k 4 W (by decide) (by decide)
 rw[hr] at PI
 replace PI:=Lib.hid PI
 have B5:=fun W=>qau5 (k:=15) (c:=c) 5 (by decide) W
 have B4:=fun W=>qau5 (k:=15) (c:=c) 4 (by decide) W
 rw[show q2jl 5 (numK 15 c)=([],2) by rw[qku3 (by decide),if_neg (by decide),hm];rfl] at B5
 rw[show q2jl 4 (numK 15 c)=([],8) by rw[qyyg (by decide),if_pos rfl]] at B4
 have z0:((bs []).toList==[])=true:=by rw[q0c6];rfl
 have e1:(c==0)=false:=by simpa using hc
 have e2:(c != 0)=true:=by simpa using hc
 have MY:=fun W=>q6zo 15 c W
 rw[hm] at MY
 replace MY:=Lib.hid MY
 obtain⟨D,hD⟩:∃D,pkC (numK 15 c) adZ=D:=⟨_,rfl⟩
 have hD1:D.size=25:=by rw[←hD];exact qwmp _ _
 have hD2:D.all (·.oneCell')=true:=by rw[←hD];exact qmz0 _ _
 rw[hD] at B5 B4
 have HD:=Lib.hid hD
 have HD1:=Lib.hid hD1
 have HD2:=Lib.hid hD2
 have HZ:=Lib.hid qbwp
 have hzv:=qrai
 have hne:¬pkZ=#[]:=by intro h;have:=qbwp;rw[h] at this;cases this
 have LB:=Lib.hid (fun W=>q8xz (qybm (w:=W) (.cells pkZ 30)) (Nat.le_refl _) D)
 replace B5:=Lib.hid B5
 replace B4:=Lib.hid B4
 clear hD hD1 hD2 hr
 go_enter Try.func3,Try.ntmps3
 go_wp2_with fail
 refine(qpnd _).mono ?_
 rintro e W ⟨rfl,hb⟩
 have L1:=Lib.hid hb
 clear hb
 go_wp2_with fail
 refine(PI.out _).mono ?_
 rintro e W' ⟨rfl,rfl⟩
 have L2:=Lib.hid (qxh2 L1.out (LB.out W))
 have G2:=Lib.hid (setRow_heap _ _ _ D _ _ (heap_alloc_new W (.cells pkZ 30)))
 go_wp2_with (first
  | (refine wpList_buildTo rfl 30 _ rfl (some _) rfl D (by rw[←HD.out];kernel_rfl) ?_)
  | (refine wpList_store_row rfl _ _ _ rfl W.heap.size D rfl rfl 30 _ (heap_alloc_new W _) (by rw[HD1.out];exact q5nr) (by rw[HZ.out,HD1.out]) HD2.out ?_)
  | (refine wpList_load_row rfl _ _ rfl W.heap.size rfl 30 D (0,0) _ G2.out Try.underlying30 rfl (by rw[HD1.out];exact q5nr) ?_))
 refine(B5.out _).mono ?_
 rintro e W3 ⟨rfl,hb⟩
 have L3:=Lib.hid (qxh2 L2.out hb)
 have G3:=Lib.hid ((hb.block _ (lt_of_block G2.out)).trans G2.out)
 clear hb
 go_wp2_with (refine wpList_load_row rfl _ _ rfl W.heap.size rfl 30 D (0,0) _ G3.out Try.underlying30 rfl (by rw[HD1.out];exact q5nr) ?_)
 refine(B4.out _).mono ?_
 rintro e W4 ⟨rfl,hb⟩
 have L4:=Lib.hid (qxh2 L3.out hb)
 have G4:=Lib.hid ((hb.block _ (lt_of_block G3.out)).trans G3.out)
 have k0:W4.cell? ⟨W.heap.size,0,none⟩=some (.int .i64 15):=(cell_of_row _ _ 0 _ _ _ G4.out).trans (by rw[←HD.out];rfl)
 clear hb L1 L2 L3 G2 G3
 go_wp2_with fail
 refine(MY.out _).mono ?_
 rintro e W5 ⟨rfl,hb⟩
 have L5:=Lib.hid (qxh2 L4.out hb)
 clear hb k0
 go_wp2_with fail
 go_ret
 exact⟨rfl,L5.out⟩
theorem qiic(k:Int)(w:World){n:Nat}(hc:(n:Int)≠0)(hn:n < 256)(hm:mayR 15 (n:Int)=true)(hr:k%4=3) :
 Calls Try.prog 3 #[.int .i64 k,.int .i64 (n:Int)] w fun e w'=>e = .returned (.bool true)∧Below w.heap.size w w':=by
 have PI:=fun W=>qhho k 4 W (by decide) (by decide)
 rw[hr] at PI
 replace PI:=Lib.hid PI
 have B5:=fun W=>qau5 (k:=15) (c:=(n:Int)) 5 (by decide) W
 have B4:=fun W=>qau5 (k:=15) (c:=(n:Int)) 4 (by decide) W
 rw[show q2jl 5 (numK 15 (n:Int))=([UInt8.ofNat n],0) by rw[qku3 (by decide),if_neg (by decide),hm,if_pos rfl,if_neg hc];rfl] at B5
 rw[show q2jl 4 (numK 15 (n:Int))=([],8) by rw[qyyg (by decide),if_pos rfl]] at B4
 have e1:((n:Int)==0)=false:=by simpa using hc
 have e2:((n:Int) != 0)=true:=by simpa using hc
 have hn2:(n:Int) < 256:=by omega
 have hmn:(UInt8.ofNat n).toNat=n:=by rw[UInt8.toNat_ofNat'];omega
 have CV:∀W:World,(convert 35 9 (.slice (some ⟨W.heap.size,0,none⟩) 1 1)).run Try.prog (W.alloc (.cells #[.int .u8 (n:Int)] 5)) = .ok (.string (bs [UInt8.ofNat n])) (W.alloc (.cells #[.int .u8 (n:Int)] 5)):=fun W=>by
  have:=q3j9 (base:=W.heap.size) (w:=W.alloc (.cells #[.int .u8 ((UInt8.ofNat n).toNat:Int)] 5)) [UInt8.ofNat n] ⟨rfl,.inr ⟨_,1,_,rfl,Nat.le_refl _,heap_alloc_new W _,Nat.le_refl _,by decide,rfl,rfl⟩⟩
  rw[hmn] at this
  exact this
 have CV:=Lib.hid CV
 have z0:((bs [UInt8.ofNat n]).toList==[])=false:=by rw[q0c6];rfl
 have MY:=fun W=>q6zo 15 (n:Int) W
 rw[hm] at MY
 replace MY:=Lib.hid MY
 generalize bs [UInt8.ofNat n]=X at *
 clear hmn hn
 obtain⟨D,hD⟩:∃D,pkC (numK 15 (n:Int)) adZ=D:=⟨_,rfl⟩
 have hD1:D.size=25:=by rw[←hD];exact qwmp _ _
 have hD2:D.all (·.oneCell')=true:=by rw[←hD];exact qmz0 _ _
 rw[hD] at B5 B4
 have HD:=Lib.hid hD
 have HD1:=Lib.hid hD1
 have HD2:=Lib.hid hD2
 have HZ:=Lib.hid qbwp
 have hzv:=qrai
 have hne:¬pkZ=#[]:=by intro h;have:=qbwp;rw[h] at this;cases this
 have LB:=Lib.hid (fun W=>q8xz (qybm (w:=W) (.cells pkZ 30)) (Nat.le_refl _) D)
 replace B5:=Lib.hid B5
 replace B4:=Lib.hid B4
 clear hD hD1 hD2 hr
 go_enter Try.func3,Try.ntmps3
 go_wp2_with fail
 refine(qpnd _).mono ?_
 rintro e W ⟨rfl,hb⟩
 have L1:=Lib.hid hb
 clear hb
 go_wp2_with fail
 refine(PI.out _).mono ?_
 rintro e W' ⟨rfl,rfl⟩
 have L2:=Lib.hid (qxh2 L1.out (LB.out W))
 have G2:=Lib.hid (setRow_heap _ _ _ D _ _ (heap_alloc_new W (.cells pkZ 30)))
 go_wp2_with (first
  | (refine wpList_buildTo rfl 30 _ rfl (some _) rfl D (by rw[←HD.out];kernel_rfl) ?_)
  | (refine wpList_store_row rfl _ _ _ rfl W.heap.size D rfl rfl 30 _ (heap_alloc_new W _) (by rw[HD1.out];exact q5nr) (by rw[HZ.out,HD1.out]) HD2.out ?_)
  | (refine wpList_load_row rfl _ _ rfl W.heap.size rfl 30 D (0,0) _ G2.out Try.underlying30 rfl (by rw[HD1.out];exact q5nr) ?_))
 refine(B5.out _).mono ?_
 rintro e W3 ⟨rfl,hb⟩
 have L3:=Lib.hid (qxh2 L2.out hb)
 have G3:=Lib.hid ((hb.block _ (lt_of_block G2.out)).trans G2.out)
 clear hb
 go_wp2_with (refine wpList_load_row rfl _ _ rfl W.heap.size rfl 30 D (0,0) _ G3.out Try.underlying30 rfl (by rw[HD1.out];exact q5nr) ?_)
 refine(B4.out _).mono ?_
 rintro e W4 ⟨rfl,hb⟩
 have L4:=Lib.hid (qxh2 L3.out hb)
 have G4:=Lib.hid ((hb.block _ (lt_of_block G3.out)).trans G3.out)
 have k0:W4.cell? ⟨W.heap.size,0,none⟩=some (.int .i64 15):=(cell_of_row _ _ 0 _ _ _ G4.out).trans (by rw[←HD.out];rfl)
 clear hb L1 L2 L3 G2 G3
 go_wp2_with fail
 refine(MY.out _).mono ?_
 rintro e W5 ⟨rfl,hb⟩
 have L5:=Lib.hid (qxh2 L4.out hb)
 clear hb k0
 have CX:=CV.out W5
 have LC:=Lib.hid (qxh2 L5.out (qybm (w:=W5) (.cells #[.int .u8 (n:Int)] 5)))
 go_wp2_with fail
 go_ret
 exact⟨rfl,LC.out⟩
theorem qnae(k c:Int)(w:World) :
 Calls Try.prog 3 #[.int .i64 k,.int .i64 c] w fun e w'=>e = .returned (.bool true)∧Below w.heap.size w w':=by
 have hr:k%4=0∨k%4=1∨k%4=2∨k%4=3:=by omega
 by_cases hc:c=0
 ·subst hc
  rcases hr with h | h | h | h
  ·exact qqkr k w h
  ·exact q33d k w h
  ·exact qj5s k w h
  ·exact q20y k w h
 ·rcases hr with h | h | h | h
  ·exact q26h k w hc h
  ·exact qmqi k w hc h
  ·cases hm:mayR 14 c with
   | false=>exact q09l k w hc hm h
   | true=>
    obtain⟨c0,c1⟩:=qaiv hm
    obtain⟨n,rfl⟩:∃n:Nat,c=n:=⟨c.toNat,by omega⟩
    exact qjnv k w hc (by omega) hm h
  ·cases hm:mayR 15 c with
   | false=>exact qk8f k w hc hm h
   | true=>
    obtain⟨c0,c1⟩:=qaiv hm
    obtain⟨n,rfl⟩:∃n:Nat,c=n:=⟨c.toNat,by omega⟩
    exact qiic k w hc (by omega) hm h
end Go.Proofs.Ytbklidpadffpgaa
