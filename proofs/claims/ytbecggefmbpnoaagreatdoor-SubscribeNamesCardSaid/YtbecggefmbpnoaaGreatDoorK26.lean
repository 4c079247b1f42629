/- The contract of subscribe.used. Condition: none. -/
import Derived.Great.BuildSlice
import Derived.Deep.DeepCutAuto
import Derived.Deep.CutBlock
import Derived.Test.YtbecggefmbpnoaaGreatDoorK25
import Derived.Test.YtbecggefmbpnoaaGreatDoorK09
import Derived.Test.YtbecggefmbpnoaaGreatDoorK13
import Derived.Test.YtbecggefmbpnoaaGreatDoorK06
set_option maxHeartbeats 2000000
set_option maxRecDepth 100000
namespace Go.Proofs.YtbecggefmbpnoaaGreatDoor
open Go.RowKit
def qtij(v:Int)(p:Pk):Pk:={Pk.zero with kind:=p.kind,id:=p.id,filters:=if qsfj p.kind then p.filters else [],codes:=if !qsfj p.kind&&!qojk v p.kind then p.codes else [],props:=if v=5 then p.props else []}
def qlcd(v k:Int)(a:Ad):Ad:={adZ with fs:=if qsfj k then a.fs else none,fc:=if qsfj k then a.fc else 0,cs:=if !qsfj k&&!qojk v k then a.cs else none,cc:=if !qsfj k&&!qojk v k then a.cc else 0,ps:=if v=5 then a.ps else none,pc:=if v=5 then a.pc else 0}
theorem qciq{w:World}{p:Pk}{a:Ad}(v:Int)(h:PkAt w p a):PkAt w (qtij v p) (qlcd v p.kind a):=by
 refine⟨fun e=>absurd rfl e,?_,?_,?_⟩
 ·unfold qtij qlcd
  cases (!qsfj p.kind&&!qojk v p.kind)
  ·exact fun e=>absurd rfl e
  ·exact h.cs
 ·unfold qtij qlcd
  cases qsfj p.kind
  ·exact fun e=>absurd rfl e
  ·exact h.fs
 ·unfold qtij qlcd
  by_cases h5:v=5
  ·simp only[if_pos h5];exact h.ps
  ·simp only[if_neg h5];exact fun e=>absurd rfl e
theorem q191{p:Pk}(v:Int)(h:q21o p):q21o (qtij v p):=by
 refine⟨?_,?_,?_,Nat.zero_le _⟩
 ·unfold qtij
  cases (!qsfj p.kind&&!qojk v p.kind)
  ·exact Nat.zero_le _
  ·exact h.1
 ·unfold qtij
  cases qsfj p.kind
  ·exact Nat.zero_le _
  ·exact h.2.1
 ·unfold qtij
  by_cases h5:v=5
  ·simp only[if_pos h5];exact h.2.2.1
  ·simp only[if_neg h5];exact Nat.zero_le _
def us0T(p:Pk):Pk:={Pk.zero with kind:=p.kind,id:=p.id}
def us1T(v:Int)(p:Pk):Pk:={Pk.zero with kind:=p.kind,id:=p.id,filters:=if qsfj p.kind then p.filters else [],codes:=if !qsfj p.kind&&!qojk v p.kind then p.codes else []}
def qxsp(v k:Int)(a:Ad):Ad:={adZ with fs:=if qsfj k then a.fs else none,fc:=if qsfj k then a.fc else 0,cs:=if !qsfj k&&!qojk v k then a.cs else none,cc:=if !qsfj k&&!qojk v k then a.cc else 0}
theorem q1ms(v:Int)(p:Pk)(a:Ad)(w:World):Calls Tryz.prog 85 #[.int .i64 v,.agg (pkC p a)] w fun e w'=>e = .returned (.agg (pkC (qtij v p) (qlcd v p.kind a)))∧Below w.heap.size w w':=by
 have Z0:((w.alloc (.cells (pkC p a) 29)).alloc (.cells pkZ 29)).heap.size=w.heap.size+1+1:=by simp
 have GN:(((w.alloc (.cells (pkC p a) 29)).alloc (.cells pkZ 29)).alloc (.cells pkZ 29)).heap[w.heap.size+1+1]? = some (.cells pkZ 29 (0,0)):=by
  have:=heap_alloc_new ((w.alloc (.cells (pkC p a) 29)).alloc (.cells pkZ 29)) (.cells pkZ 29)
  rw[Z0] at this;exact this
 have S0:UsS w p a (us0T p) adZ ((((w.alloc (.cells (pkC p a) 29)).alloc (.cells pkZ 29)).alloc (.cells pkZ 29)).setRow (w.heap.size+1+1) (pkC (us0T p) adZ)):=by
  refine⟨q8xz (qxh2 (qxh2 (qybm _) (qybm _)) (qybm _)) (by omega) _,?_,?_,setRow_heap _ _ _ _ _ _ GN⟩
  ·exact(setRow_other _ _ _ _ (by omega)).trans ((heap_alloc_old _ _ (by rw[Z0];omega)).trans (heap_alloc2_old _ _ _))
  ·exact(setRow_other _ _ _ _ (by omega)).trans ((heap_alloc_old _ _ (by rw[Z0];omega)).trans (heap_alloc2_new _ _ _))
 have hzv:=qrai
 have hne:¬pkZ=#[]:=by intro h;have:=qbwp;rw[h] at this;cases this
 have HZ:=Lib.hid qbwp
 have GN:=Lib.hid GN
 have hD1:=qwmp (us0T p) adZ
 have hD2:=qmz0 (us0T p) adZ
 obtain⟨D,hD⟩:∃D,pkC (us0T p) adZ=D:=⟨_,rfl⟩
 rw[hD] at hD1 hD2 S0
 have HD:=Lib.hid hD
 have HD1:=Lib.hid hD1
 have HD2:=Lib.hid hD2
 have HS0:=Lib.hid S0
 have k0:((w.alloc (.cells (pkC p a) 29)).alloc (.cells pkZ 29)).cell? ⟨w.heap.size,0,none⟩=some (.int .i64 p.kind):=cell_of_row _ _ 0 _ _ _ (heap_alloc2_old _ _ _)
 have k4:((w.alloc (.cells (pkC p a) 29)).alloc (.cells pkZ 29)).cell? ⟨w.heap.size,4,none⟩=some (.int .i64 p.id):=cell_of_row _ _ 4 _ _ _ (heap_alloc2_old _ _ _)
 clear S0 hD hD1 hD2 Z0
 go_enter Tryz.func85,Tryz.ntmps85
 go_upto_block 0 with (first
  | (refine wpList_buildTo rfl 29 _ rfl (some _) rfl D (by rw[←HD.out];kernel_rfl) ?_)
  | (refine wpList_store_row rfl _ _ _ rfl (w.heap.size+1+1) D rfl rfl 29 _ GN.out (by rw[HD1.out];exact q5nr) (by rw[HZ.out,HD1.out]) HD2.out ?_))
 clear k0 k4 GN HZ hne hzv
 generalize (((w.alloc (.cells (pkC p a) 29)).alloc (.cells pkZ 29)).alloc (.cells pkZ 29)).setRow (w.heap.size+1+1) D=W at *
 dsimp only[Act.put]
 go_cut [] (fun wx=>UsS w p a (us1T v p) (qxsp v p.kind a) wx)
 case first=>
  have k0:W.cell? ⟨w.heap.size,0,none⟩=some (.int .i64 p.kind):=HS0.out.cell 0
  cases ha:qsfj p.kind with
  | true=>
   have S1:=Lib.hid (HS0.out.put 23 (.slice a.fs p.filters.length a.fc) (x':=us1T v p) (b':=qxsp v p.kind a) (by unfold us1T qxsp us0T;rw[ha];rfl))
   have k23:W.cell? ⟨w.heap.size,23,none⟩=some (.slice a.fs p.filters.length a.fc):=HS0.out.cell 23
   have n23:W.cell? ⟨w.heap.size+1+1,23,none⟩=some (.slice none 0 0):=HS0.out.ncell 23
   have f23:=HS0.out.fr 23
   have AS:=Lib.hid (fun W=>(ha▸qczm p.kind W:Calls Tryz.prog 44 #[.int .i64 p.kind] W fun e w'=>e = .returned (.bool true)∧W=w'))
   clear HS0 ha
   go_wp2_with (go_at_call 44;refine(AS.out _).mono ?_;rintro e W2 ⟨rfl,rfl⟩)
   go_meet
   exact S1.out
  | false=>
   have AS:=Lib.hid (fun W=>(ha▸qczm p.kind W:Calls Tryz.prog 44 #[.int .i64 p.kind] W fun e w'=>e = .returned (.bool false)∧W=w'))
   cases hb:qojk v p.kind with
   | true=>
    have BA:=Lib.hid (fun W=>(hb▸q1kd v p.kind W:Calls Tryz.prog 45 #[.int .i64 v,.int .i64 p.kind] W fun e w'=>e = .returned (.bool true)∧W=w'))
    have S1:=Lib.hid (show UsS w p a (us1T v p) (qxsp v p.kind a) W by unfold us1T qxsp;rw[ha,hb];exact HS0.out)
    clear HS0 ha hb
    go_wp2_with (first
     | (go_at_call 44;refine(AS.out _).mono ?_;rintro e W2 ⟨rfl,rfl⟩)
     | (go_at_call 45;refine(BA.out _).mono ?_;rintro e W2 ⟨rfl,rfl⟩))
    go_meet
    exact S1.out
   | false=>
    have BA:=Lib.hid (fun W=>(hb▸q1kd v p.kind W:Calls Tryz.prog 45 #[.int .i64 v,.int .i64 p.kind] W fun e w'=>e = .returned (.bool false)∧W=w'))
    have S1:=Lib.hid (HS0.out.put 22 (.slice a.cs p.codes.length a.cc) (x':=us1T v p) (b':=qxsp v p.kind a) (by unfold us1T qxsp us0T;rw[ha,hb];rfl))
    have k22:W.cell? ⟨w.heap.size,22,none⟩=some (.slice a.cs p.codes.length a.cc):=HS0.out.cell 22
    have n22:W.cell? ⟨w.heap.size+1+1,22,none⟩=some (.slice none 0 0):=HS0.out.ncell 22
    have f22:=HS0.out.fr 22
    clear HS0 ha hb
    go_wp2_with (first
     | (go_at_call 44;refine(AS.out _).mono ?_;rintro e W2 ⟨rfl,rfl⟩)
     | (go_at_call 45;refine(BA.out _).mono ?_;rintro e W2 ⟨rfl,rfl⟩))
    go_meet
    exact S1.out
 case rest=>
  have H1:=Lib.hid hcut
  clear hcut HS0
  go_upto_if 28 with fail
  go_cut [] (fun wx=>UsS w p a (qtij v p) (qlcd v p.kind a) wx)
  case first=>
   by_cases h5:v=5
   ·subst h5
    have S1:=Lib.hid (H1.out.put 24 (.slice a.ps p.props.length a.pc) (x':=qtij 5 p) (b':=qlcd 5 p.kind a) rfl)
    have k24:wc.cell? ⟨w.heap.size,24,none⟩=some (.slice a.ps p.props.length a.pc):=H1.out.cell 24
    have n24:wc.cell? ⟨w.heap.size+1+1,24,none⟩=some (.slice none 0 0):=H1.out.ncell 24
    have f24:=H1.out.fr 24
    clear H1
    go_wp2_with fail
    go_meet
    exact S1.out
   ·have h5':(v==5)=false:=beq_eq_false_iff_ne.2 h5
    have SB:=Lib.hid (show UsS w p a (qtij v p) (qlcd v p.kind a) wc by
     unfold qtij qlcd
     rw[if_neg h5,if_neg h5,if_neg h5];exact H1.out)
    clear H1 h5
    go_wp2_with fail
    go_meet
    exact SB.out
  case rest=>
   have HS:=Lib.hid hcut
   clear hcut H1
   have GB:=HS.out.new
   have GR:=Lib.hid HS.out.res
   have LO:=Lib.hid HS.out.low
   have hR1:=qwmp (qtij v p) (qlcd v p.kind a)
   have hR2:=qmz0 (qtij v p) (qlcd v p.kind a)
   obtain⟨R,hR⟩:∃R,pkC (qtij v p) (qlcd v p.kind a)=R:=⟨_,rfl⟩
   rw[hR] at GB hR1 hR2
   have HR:=Lib.hid hR
   have GB:=Lib.hid GB
   have HR1:=Lib.hid hR1
   have HR2:=Lib.hid hR2
   clear hR1 hR2 HS hR
   go_wp2_with (first
    | (refine wpList_load_row rfl _ _ rfl (w.heap.size+1+1) rfl 29 R (0,0) _ GB.out Tryz.underlying29 rfl (by rw[HR1.out];exact q5nr) ?_)
    | (refine wpList_store_row rfl _ _ _ rfl (w.heap.size+1) R rfl rfl 29 _ GR.out (by rw[HR1.out];exact q5nr) (by rw[qbwp,HR1.out]) HR2.out ?_))
   exact q7wi (cs:=R) rfl rfl rfl Tryz.underlying29 rfl (by rw[HR1.out];exact q5nr) (setRow_heap _ _ _ _ _ _ GR.out) ⟨by rw[HR.out],q8xz LO.out (by omega) _⟩
def q3zb(p:Pk):Array Value:=#[.int .i64 p.kind,.int .i64 p.qos,.int .i64 p.id,.int .i64 p.keep,.int .i64 p.code,.int .i64 p.wQos]
theorem q93c:(Tryz.prog.info? 140).map (·.size)=some 6:=by kernel_rfl
theorem q8oq(p:Pk):(q3zb p).all (·.oneCell')=true:=by simp[q3zb,Value.oneCell']
theorem qi7b(p:Pk)(a:Ad)(w:World):Calls Tryz.prog 118 #[pkV p a] w fun e w'=>e = .returned (.agg (q3zb p))∧Below w.heap.size w w':=by
 have HB:=Lib.hid (fun o o'=>qxh2 (qybm (w:=w) o) (qybm o'))
 have HN:=Lib.hid (fun o o'=>heap_alloc2_new w o o')
 have c0:(pkC p a)[0]? = some (.int .i64 p.kind):=rfl
 have c3:(pkC p a)[3]? = some (.int .i64 p.qos):=rfl
 have c4:(pkC p a)[4]? = some (.int .i64 p.id):=rfl
 have c8:(pkC p a)[8]? = some (.int .i64 p.keep):=rfl
 have c21:(pkC p a)[21]? = some (.int .i64 p.code):=rfl
 have c17:(pkC p a)[17]? = some (.int .i64 p.wQos):=rfl
 have hone:=q8oq p
 have hsz:(q3zb p).size=6:=rfl
 have hdef:q3zb p=#[.int .i64 p.kind,.int .i64 p.qos,.int .i64 p.id,.int .i64 p.keep,.int .i64 p.code,.int .i64 p.wQos]:=rfl
 unfold pkV
 generalize pkC p a=C at *
 generalize q3zb p=D at *
 generalize p.kind=v0 at *
 generalize p.qos=v3 at *
 generalize p.id=v4 at *
 generalize p.keep=v8 at *
 generalize p.code=v21 at *
 generalize p.wQos=v17 at *
 have H1:=Lib.hid hone
 have H2:=Lib.hid hsz
 have H3:=Lib.hid hdef
 clear hone hsz hdef
 go_enter Tryz.func118,Tryz.ntmps118
 go_wp2_with (first
  | (refine wpList_buildTo rfl 140 _ rfl (some 16) rfl D (by rw[H3.out];kernel_rfl) ?_)
  | (refine wpList_store_row rfl _ _ _ rfl (w.heap.size+1) D rfl rfl 140 _ (HN.out _ _) ?b1 ?b2 ?b3 ?_))
 case b1=>rw[H2.out];exact q93c
 case b2=>rw[H2.out];rfl
 case b3=>exact H1.out
 refine q7wi (cs:=D) rfl rfl rfl Tryz.underlying140 rfl (by rw[H2.out];exact q93c) (setRow_heap _ _ _ _ _ _ (HN.out _ _)) ?_
 exact⟨rfl,q8xz (HB.out _ _) (by omega) _⟩
theorem qnle(x0 y0 x1 y1 x2 y2 x3 y3 x4 y4 x5 y5:Int)(w:World):(Op.equalIn 10000 140 (.agg #[.int .i64 x0,.int .i64 x1,.int .i64 x2,.int .i64 x3,.int .i64 x4,.int .i64 x5]) (.agg #[.int .i64 y0,.int .i64 y1,.int .i64 y2,.int .i64 y3,.int .i64 y4,.int .i64 y5])).run Tryz.prog w = .ok ((x0==y0)&&(x1==y1)&&(x2==y2)&&(x3==y3)&&(x4==y4)&&(x5==y5)) w:=by
 have u3:=Tryz.underlying3
 have a3:=Tryz.isAgg3
 have z3:=Tryz.sizeOf3
 rw[show(10000:Nat)=9999+1 from rfl,Op.equalIn]
 simp only[Sem.run_bind,run_underlying Tryz.underlying140,Result.andThen_ok]
 simp only[Std.Legacy.Range.forIn_eq_forIn_range',Std.Legacy.Range.size,Nat.sub_zero,Nat.add_sub_cancel,Nat.div_one,List.range'_succ,List.range'_zero,List.forIn_cons,List.forIn_nil]
 go_simp
 by_cases h0:x0=y0<;>by_cases h1:x1=y1<;>by_cases h2:x2=y2<;>by_cases h3:x3=y3<;>by_cases h4:x4=y4<;>by_cases h5:x5=y5<;>simp[h0,h1,h2,h3,h4,h5]
theorem qh1o(p q:Pk)(w:World):(binOp .eql 140 (.agg (q3zb p)) (.agg (q3zb q))).run Tryz.prog w = .ok (.bool (decide (p.nums=q.nums))) w:=by
 rw[run_eql_struct]
 unfold q3zb
 rw[qnle]
 show Result.ok (Value.bool _) w=_
 congr 2
 rw[Bool.eq_iff_iff]
 simp[Pk.nums,and_assoc]
def qjjk(p:Pk):Array Value:=#[.bool p.dup,.bool p.retain,.bool p.clean,.bool p.hasUser,.bool p.hasPass,.bool p.hasWill,.bool p.session,.bool p.wRetain]
theorem qa72:(Tryz.prog.info? 142).map (·.size)=some 8:=by kernel_rfl
theorem qai1(p:Pk):(qjjk p).all (·.oneCell')=true:=by simp[qjjk,Value.oneCell']
theorem qu0d(p:Pk)(a:Ad)(w:World):Calls Tryz.prog 119 #[pkV p a] w fun e w'=>e = .returned (.agg (qjjk p))∧Below w.heap.size w w':=by
 have HB:=Lib.hid (fun o o'=>qxh2 (qybm (w:=w) o) (qybm o'))
 have HN:=Lib.hid (fun o o'=>heap_alloc2_new w o o')
 have c1:(pkC p a)[1]? = some (.bool p.dup):=rfl
 have c2:(pkC p a)[2]? = some (.bool p.retain):=rfl
 have c7:(pkC p a)[7]? = some (.bool p.clean):=rfl
 have c10:(pkC p a)[10]? = some (.bool p.hasUser):=rfl
 have c12:(pkC p a)[12]? = some (.bool p.hasPass):=rfl
 have c14:(pkC p a)[14]? = some (.bool p.hasWill):=rfl
 have c20:(pkC p a)[20]? = some (.bool p.session):=rfl
 have c18:(pkC p a)[18]? = some (.bool p.wRetain):=rfl
 have hone:=qai1 p
 have hsz:(qjjk p).size=8:=rfl
 have hdef:qjjk p=#[.bool p.dup,.bool p.retain,.bool p.clean,.bool p.hasUser,.bool p.hasPass,.bool p.hasWill,.bool p.session,.bool p.wRetain]:=rfl
 unfold pkV
 generalize pkC p a=C at *
 generalize qjjk p=D at *
 generalize p.dup=v1 at *
 generalize p.retain=v2 at *
 generalize p.clean=v7 at *
 generalize p.hasUser=v10 at *
 generalize p.hasPass=v12 at *
 generalize p.hasWill=v14 at *
 generalize p.session=v20 at *
 generalize p.wRetain=v18 at *
 have H1:=Lib.hid hone
 have H2:=Lib.hid hsz
 have H3:=Lib.hid hdef
 clear hone hsz hdef
 go_enter Tryz.func119,Tryz.ntmps119
 go_wp2_with (first
  | (refine wpList_buildTo rfl 142 _ rfl (some 20) rfl D (by rw[H3.out];kernel_rfl) ?_)
  | (refine wpList_store_row rfl _ _ _ rfl (w.heap.size+1) D rfl rfl 142 _ (HN.out _ _) ?b1 ?b2 ?b3 ?_))
 case b1=>rw[H2.out];exact qa72
 case b2=>rw[H2.out];rfl
 case b3=>exact H1.out
 refine q7wi (cs:=D) rfl rfl rfl Tryz.underlying142 rfl (by rw[H2.out];exact qa72) (setRow_heap _ _ _ _ _ _ (HN.out _ _)) ?_
 exact⟨rfl,q8xz (HB.out _ _) (by omega) _⟩
theorem qu29(x0 y0 x1 y1 x2 y2 x3 y3 x4 y4 x5 y5 x6 y6 x7 y7:Bool)(w:World):(Op.equalIn 10000 142 (.agg #[.bool x0,.bool x1,.bool x2,.bool x3,.bool x4,.bool x5,.bool x6,.bool x7]) (.agg #[.bool y0,.bool y1,.bool y2,.bool y3,.bool y4,.bool y5,.bool y6,.bool y7])).run Tryz.prog w = .ok ((x0==y0)&&(x1==y1)&&(x2==y2)&&(x3==y3)&&(x4==y4)&&(x5==y5)&&(x6==y6)&&(x7==y7)) w:=by
 have u3:=Tryz.underlying4
 have a3:=Tryz.isAgg4
 have z3:=Tryz.sizeOf4
 rw[show(10000:Nat)=9999+1 from rfl,Op.equalIn]
 simp only[Sem.run_bind,run_underlying Tryz.underlying142,Result.andThen_ok]
 simp only[Std.Legacy.Range.forIn_eq_forIn_range',Std.Legacy.Range.size,Nat.sub_zero,Nat.add_sub_cancel,Nat.div_one,List.range'_succ,List.range'_zero,List.forIn_cons,List.forIn_nil]
 go_simp
 by_cases h0:x0=y0<;>by_cases h1:x1=y1<;>by_cases h2:x2=y2<;>by_cases h3:x3=y3<;>by_cases h4:x4=y4<;>by_cases h5:x5=y5<;>by_cases h6:x6=y6<;>by_cases h7:x7=y7<;>simp[h0,h1,h2,h3,h4,h5,h6,h7]
theorem quaf(p q:Pk)(w:World):(binOp .eql 142 (.agg (qjjk p)) (.agg (qjjk q))).run Tryz.prog w = .ok (.bool (decide (p.marks=q.marks))) w:=by
 rw[run_eql_struct]
 unfold qjjk
 rw[qu29]
 show Result.ok (Value.bool _) w=_
 congr 2
 rw[Bool.eq_iff_iff]
 simp[Pk.marks,and_assoc]
def q5cx(p:Pk):Array Value:=#[.string (bs p.topic),.string (bs p.payload),.string (bs p.client),.string (bs p.user),.string (bs p.pass),.string (bs p.wTopic),.string (bs p.wPayload)]
theorem qebr:(Tryz.prog.info? 144).map (·.size)=some 7:=by kernel_rfl
theorem qzoi(p:Pk):(q5cx p).all (·.oneCell')=true:=by simp[q5cx,Value.oneCell']
theorem quge(p:Pk)(a:Ad)(w:World):Calls Tryz.prog 120 #[pkV p a] w fun e w'=>e = .returned (.agg (q5cx p))∧Below w.heap.size w w':=by
 have HB:=Lib.hid (fun o o'=>qxh2 (qybm (w:=w) o) (qybm o'))
 have HN:=Lib.hid (fun o o'=>heap_alloc2_new w o o')
 have c5:(pkC p a)[5]? = some (.string (bs p.topic)):=rfl
 have c6:(pkC p a)[6]? = some (.string (bs p.payload)):=rfl
 have c9:(pkC p a)[9]? = some (.string (bs p.client)):=rfl
 have c11:(pkC p a)[11]? = some (.string (bs p.user)):=rfl
 have c13:(pkC p a)[13]? = some (.string (bs p.pass)):=rfl
 have c15:(pkC p a)[15]? = some (.string (bs p.wTopic)):=rfl
 have c16:(pkC p a)[16]? = some (.string (bs p.wPayload)):=rfl
 have hone:=qzoi p
 have hsz:(q5cx p).size=7:=rfl
 have hdef:q5cx p=#[.string (bs p.topic),.string (bs p.payload),.string (bs p.client),.string (bs p.user),.string (bs p.pass),.string (bs p.wTopic),.string (bs p.wPayload)]:=rfl
 unfold pkV
 generalize pkC p a=C at *
 generalize q5cx p=D at *
 generalize bs p.topic=v5 at *
 generalize bs p.payload=v6 at *
 generalize bs p.client=v9 at *
 generalize bs p.user=v11 at *
 generalize bs p.pass=v13 at *
 generalize bs p.wTopic=v15 at *
 generalize bs p.wPayload=v16 at *
 have H1:=Lib.hid hone
 have H2:=Lib.hid hsz
 have H3:=Lib.hid hdef
 clear hone hsz hdef
 go_enter Tryz.func120,Tryz.ntmps120
 go_wp2_with (first
  | (refine wpList_buildTo rfl 144 _ rfl (some 19) rfl D (by rw[H3.out];kernel_rfl) ?_)
  | (refine wpList_store_row rfl _ _ _ rfl (w.heap.size+1) D rfl rfl 144 _ (HN.out _ _) ?b1 ?b2 ?b3 ?_))
 case b1=>rw[H2.out];exact qebr
 case b2=>rw[H2.out];rfl
 case b3=>exact H1.out
 refine q7wi (cs:=D) rfl rfl rfl Tryz.underlying144 rfl (by rw[H2.out];exact qebr) (setRow_heap _ _ _ _ _ _ (HN.out _ _)) ?_
 exact⟨rfl,q8xz (HB.out _ _) (by omega) _⟩
theorem qase(x0 y0 x1 y1 x2 y2 x3 y3 x4 y4 x5 y5 x6 y6:ByteArray)(w:World):(Op.equalIn 10000 144 (.agg #[.string x0,.string x1,.string x2,.string x3,.string x4,.string x5,.string x6]) (.agg #[.string y0,.string y1,.string y2,.string y3,.string y4,.string y5,.string y6])).run Tryz.prog w = .ok ((x0.toList==y0.toList)&&(x1.toList==y1.toList)&&(x2.toList==y2.toList)&&(x3.toList==y3.toList)&&(x4.toList==y4.toList)&&(x5.toList==y5.toList)&&(x6.toList==y6.toList)) w:=by
 have u3:=Tryz.underlying9
 have a3:=Tryz.isAgg9
 have z3:=Tryz.sizeOf9
 rw[show(10000:Nat)=9999+1 from rfl,Op.equalIn]
 simp only[Sem.run_bind,run_underlying Tryz.underlying144,Result.andThen_ok]
 simp only[Std.Legacy.Range.forIn_eq_forIn_range',Std.Legacy.Range.size,Nat.sub_zero,Nat.add_sub_cancel,Nat.div_one,List.range'_succ,List.range'_zero,List.forIn_cons,List.forIn_nil]
 go_simp
 by_cases h0:x0.toList=y0.toList<;>by_cases h1:x1.toList=y1.toList<;>by_cases h2:x2.toList=y2.toList<;>by_cases h3:x3.toList=y3.toList<;>by_cases h4:x4.toList=y4.toList<;>by_cases h5:x5.toList=y5.toList<;>by_cases h6:x6.toList=y6.toList<;>simp[h0,h1,h2,h3,h4,h5,h6]
theorem q6p1(p q:Pk)(w:World):(binOp .eql 144 (.agg (q5cx p)) (.agg (q5cx q))).run Tryz.prog w = .ok (.bool (decide (p.texts=q.texts))) w:=by
 rw[run_eql_struct]
 unfold q5cx
 rw[qase]
 show Result.ok (Value.bool _) w=_
 congr 2
 rw[Bool.eq_iff_iff]
 simp[Pk.texts,q0c6,and_assoc]
end Go.Proofs.YtbecggefmbpnoaaGreatDoor
