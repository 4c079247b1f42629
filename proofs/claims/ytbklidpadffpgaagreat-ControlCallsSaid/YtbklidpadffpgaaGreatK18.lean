/- The lists of the packet that is nothing. No condition. -/
import Derived.Lib.BitFns
import Derived.Lib.Walk
import Derived.Great.BuildSlice
import Derived.Deep.LoopGhost
import Derived.Deep.QuietTactic
import Derived.Test.YtbklidpadffpgaaGreatK08
import Derived.Test.YtbklidpadffpgaaGreatK17
import Derived.Test.YtbklidpadffpgaaGreatK03
import Derived.Test.YtbklidpadffpgaaGreatK09
set_option maxHeartbeats 2000000
set_option maxRecDepth 100000
namespace Go.Proofs.YtbklidpadffpgaaGreat
open Go.RowKit
def adZ:Ad:=⟨none,0,none,0,none,0,none,0⟩
theorem qm1s(b:UInt8):bits .and .u8 (b.toNat:Int) 128=if 128≤b.toNat then 128 else 0:=by
 have all:∀x:Fin 256,bits .and .u8 (x.val:Int) 128=if 128≤x.val then 128 else 0:=by decide+kernel
 exact all ⟨b.toNat,b.toNat_lt⟩
theorem qbg0(b:UInt8):bits .and .u8 (b.toNat:Int) 127=((b.toNat%128:Nat):Int):=by
 have all:∀x:Fin 256,bits .and .u8 (x.val:Int) 127=((x.val%128:Nat):Int):=by decide+kernel
 exact all ⟨b.toNat,b.toNat_lt⟩
theorem qoki(x:Nat)(h:x < 128):bits .or .u8 (x:Int) 128=((x+128:Nat):Int):=by
 have all:∀x:Fin 128,bits .or .u8 (x.val:Int) 128=((x.val+128:Nat):Int):=by decide+kernel
 exact all ⟨x,h⟩
theorem quym(x:Int)(w:World)(h0:0≤x)(h1:x≤268435455) :
 Calls Tryz.prog 154 #[.int .u64 x] w fun e w'=>e = .returned (.int .i64 (Lib.bitLen x.toNat))∧w=w':=by
 have h32:x < 4294967296:=by omega
 by_cases c1:x < 256
 ·have l:=Lib.bitLen_le8' x h0 (by omega)
  have g0:x≤255:=by omega
  go_enter Tryz.func154,Tryz.ntmps154
  go_wp2
  go_ret
  refine⟨congrArg Ending.returned (congrArg (Value.int IntKind.i64) ?_),rfl⟩
  rw[Lib.len8_of x h0 g0]
  unfold wrap64
  omega
 by_cases c2:x < 65536
 ·have l:=Lib.bitLen_le8' (x / 256) (by omega) (by omega)
  have s:=Lib.bitLen_shift8 x.toNat (by omega) (by omega)
  have g0:0≤x / 256:=by omega
  have g1:x / 256≤255:=by omega
  have e:(x / 256).toNat=x.toNat / 256:=by omega
  rw[e] at l
  have E:=Lib.hid e
  have S:=Lib.hid s
  clear e s
  go_enter Tryz.func154,Tryz.ntmps154
  go_wp2
  go_ret
  refine⟨congrArg Ending.returned (congrArg (Value.int IntKind.i64) ?_),rfl⟩
  rw[Lib.len8_of (x / 256) g0 g1,E.out,S.out]
  unfold wrap64
  omega
 by_cases c3:x < 16777216
 ·have l:=Lib.bitLen_le8' (x / 65536) (by omega) (by omega)
  have s:=Lib.bitLen_shift16 x.toNat (by omega) (by omega)
  have g0:0≤x / 65536:=by omega
  have g1:x / 65536≤255:=by omega
  have e:(x / 65536).toNat=x.toNat / 65536:=by omega
  rw[e] at l
  have E:=Lib.hid e
  have S:=Lib.hid s
  clear e s
  go_enter Tryz.func154,Tryz.ntmps154
  go_wp2
  go_ret
  refine⟨congrArg Ending.returned (congrArg (Value.int IntKind.i64) ?_),rfl⟩
  rw[Lib.len8_of (x / 65536) g0 g1,E.out,S.out]
  unfold wrap64
  omega
 ·have l:=Lib.bitLen_le8' (x / 65536 / 256) (by omega) (by omega)
  have s:=Lib.bitLen_shift24 x.toNat (by omega) (by omega)
  have g0:0≤x / 65536 / 256:=by omega
  have g1:x / 65536 / 256≤255:=by omega
  have e:(x / 65536 / 256).toNat=x.toNat / 16777216:=by omega
  rw[e] at l
  have E:=Lib.hid e
  have S:=Lib.hid s
  clear e s
  go_enter Tryz.func154,Tryz.ntmps154
  go_wp2
  go_ret
  refine⟨congrArg Ending.returned (congrArg (Value.int IntKind.i64) ?_),rfl⟩
  rw[Lib.len8_of (x / 65536 / 256) g0 g1,E.out,S.out]
  unfold wrap64
  omega
theorem q5on(x:Int)(w:World)(h0:0≤x)(h1:x≤268435455) :
 Calls Tryz.prog 123 #[.int .u64 x] w fun e w'=>e = .returned (.int .i64 (Lib.bitLen x.toNat))∧w=w':=by
 go_enter Tryz.func123,Tryz.ntmps123
 go_wp2_with (go_at_call 154;refine(quym x _ h0 h1).mono ?_;rintro e w' ⟨rfl,rfl⟩)
 go_ret
 exact⟨rfl,rfl⟩
theorem qbdl(n:Nat)(h:n≤268435455):(max 1 (Lib.bitLen n)+6) / 7=sz n:=by
 have low:∀k,k≤63→2^k≤n→k < Lib.bitLen n:=fun k hk hn=>by
  have hpos:n / 2^k≠0:=by have:=Nat.div_pos hn (Nat.two_pow_pos k);omega
  have h64:n < 2^64:=by
   have:(268435455:Nat) < 2^64:=by decide
   omega
  rw[Lib.bitLen_shift k n hn h64,Lib.bitLen_half _ hpos (Nat.lt_of_le_of_lt (Nat.div_le_self _ _) h64)]
  omega
 rcases qnl4 n h with ⟨e,h1⟩ | ⟨e,h1,h2⟩ | ⟨e,h1,h2⟩ | ⟨e,h1⟩<;>rw[e]
 ·have:=Lib.bitLen_le n 7 (by decide) h1
  omega
 ·have:=Lib.bitLen_le n 14 (by decide) h2
  have:=low 7 (by decide) h1
  omega
 ·have:=Lib.bitLen_le n 21 (by decide) h2
  have:=low 14 (by decide) h1
  omega
 ·have:=Lib.bitLen_le n 28 (by decide) (by omega)
  have:=low 21 (by decide) h1
  omega
theorem ql84(n:Nat)(h:n≤268435455):(max 1 (Lib.bitLen n:Int)+7 - 1) / 7=sz n:=by
 rw[←qbdl n h]
 generalize Lib.bitLen n=b
 rcases Nat.le_total 1 b with h | h
 ·rw[Nat.max_eq_right h,Int.max_eq_right (by omega)];omega
 ·rw[Nat.max_eq_left h,Int.max_eq_left (by omega)];omega
theorem qk0d(n:Int)(w:World) :
 Calls Tryz.prog 96 #[.int .i64 n] w fun e w'=>e = .returned (.int .i64 (sz n))∧w=w':=by
 by_cases h1:n < 0
 ·rw[qbck.2 (.inl h1)]
  go_enter Tryz.func96,Tryz.ntmps96
  go_wp2
  go_ret
  exact⟨rfl,rfl⟩
 by_cases h2:268435455 < n
 ·rw[qbck.2 (.inr h2)]
  go_enter Tryz.func96,Tryz.ntmps96
  go_wp2
  go_ret
  exact⟨rfl,rfl⟩
 ·obtain⟨k,rfl⟩:=Int.eq_ofNat_of_zero_le (show 0≤n by omega)
  have e:=ql84 k (by omega)
  have b:=Lib.bitLen_le k 28 (by decide) (by omega)
  have E:=Lib.hid e
  clear e
  go_enter Tryz.func96,Tryz.ntmps96
  go_wp2_with (go_at_call 123;refine(q5on k _ (by omega) (by omega)).mono ?_;rintro e w' ⟨rfl,rfl⟩)
  go_ret
  exact⟨congrArg Ending.returned (congrArg (Value.int IntKind.i64) E.out),rfl⟩
def q3zb(p:Pk):Array Value:=#[.int .i64 p.kind,.int .i64 p.qos,.int .i64 p.id,.int .i64 p.keep,.int .i64 p.code,.int .i64 p.wQos]
theorem q93c:(Tryz.prog.info? 117).map (·.size)=some 6:=by kernel_rfl
theorem q8oq(p:Pk):(q3zb p).all (·.oneCell')=true:=by simp[q3zb,Value.oneCell']
theorem qi7b(p:Pk)(a:Ad)(w:World):Calls Tryz.prog 81 #[pkV p a] w fun e w'=>e = .returned (.agg (q3zb p))∧Below w.heap.size w w':=by
 have HB:=Lib.hid (fun o o'=>qxh2 (qybm (w:=w) o) (qybm o'))
 have HN:=Lib.hid (fun o o'=>heap_alloc2_new w o o')
 have c0:(pkC p a)[0]? = some (.int .i64 p.kind):=rfl
 have c3:(pkC p a)[3]? = some (.int .i64 p.qos):=rfl
 have c4:(pkC p a)[4]? = some (.int .i64 p.id):=rfl
 have c8:(pkC p a)[8]? = some (.int .i64 p.keep):=rfl
 have c21:(pkC p a)[21]? = some (.int .i64 p.code):=rfl
 have c17:(pkC p a)[17]? = some (.int .i64 p.wQos):=rfl
 have hone:=q8oq p
 have hsz:(q3zb p).size=6:=rfl
 have hdef:q3zb p=#[.int .i64 p.kind,.int .i64 p.qos,.int .i64 p.id,.int .i64 p.keep,.int .i64 p.code,.int .i64 p.wQos]:=rfl
 unfold pkV
 generalize pkC p a=C at *
 generalize q3zb p=D at *
 generalize p.kind=v0 at *
 generalize p.qos=v3 at *
 generalize p.id=v4 at *
 generalize p.keep=v8 at *
 generalize p.code=v21 at *
 generalize p.wQos=v17 at *
 have H1:=Lib.hid hone
 have H2:=Lib.hid hsz
 have H3:=Lib.hid hdef
 clear hone hsz hdef
 go_enter Tryz.func81,Tryz.ntmps81
 go_wp2_with (first
  | (refine wpList_buildTo rfl 117 _ rfl (some 16) rfl D (by rw[H3.out];kernel_rfl) ?_)
  | (refine wpList_store_row rfl _ _ _ rfl (w.heap.size+1) D rfl rfl 117 _ (HN.out _ _) ?b1 ?b2 ?b3 ?_))
 case b1=>rw[H2.out];exact q93c
 case b2=>rw[H2.out];rfl
 case b3=>exact H1.out
 refine q7wi (cs:=D) rfl rfl rfl Tryz.underlying117 rfl (by rw[H2.out];exact q93c) (setRow_heap _ _ _ _ _ _ (HN.out _ _)) ?_
 exact⟨rfl,q8xz (HB.out _ _) (by omega) _⟩
theorem qnle(x0 y0 x1 y1 x2 y2 x3 y3 x4 y4 x5 y5:Int)(w:World):(Op.equalIn 10000 117 (.agg #[.int .i64 x0,.int .i64 x1,.int .i64 x2,.int .i64 x3,.int .i64 x4,.int .i64 x5]) (.agg #[.int .i64 y0,.int .i64 y1,.int .i64 y2,.int .i64 y3,.int .i64 y4,.int .i64 y5])).run Tryz.prog w = .ok ((x0==y0)&&(x1==y1)&&(x2==y2)&&(x3==y3)&&(x4==y4)&&(x5==y5)) w:=by
 have u3:=Tryz.underlying3
 have a3:=Tryz.isAgg3
 have z3:=Tryz.sizeOf3
 rw[show(10000:Nat)=9999+1 from rfl,Op.equalIn]
 simp only[Sem.run_bind,run_underlying Tryz.underlying117,Result.andThen_ok]
 simp only[Std.Legacy.Range.forIn_eq_forIn_range',Std.Legacy.Range.size,Nat.sub_zero,Nat.add_sub_cancel,Nat.div_one,List.range'_succ,List.range'_zero,List.forIn_cons,List.forIn_nil]
 go_simp
 by_cases h0:x0=y0<;>by_cases h1:x1=y1<;>by_cases h2:x2=y2<;>by_cases h3:x3=y3<;>by_cases h4:x4=y4<;>by_cases h5:x5=y5<;>simp[h0,h1,h2,h3,h4,h5]
theorem qh1o(p q:Pk)(w:World):(binOp .eql 117 (.agg (q3zb p)) (.agg (q3zb q))).run Tryz.prog w = .ok (.bool (decide (p.nums=q.nums))) w:=by
 rw[run_eql_struct]
 unfold q3zb
 rw[qnle]
 show Result.ok (Value.bool _) w=_
 congr 2
 rw[Bool.eq_iff_iff]
 simp[Pk.nums,and_assoc]
def qjjk(p:Pk):Array Value:=#[.bool p.dup,.bool p.retain,.bool p.clean,.bool p.hasUser,.bool p.hasPass,.bool p.hasWill,.bool p.session,.bool p.wRetain]
theorem qa72:(Tryz.prog.info? 119).map (·.size)=some 8:=by kernel_rfl
theorem qai1(p:Pk):(qjjk p).all (·.oneCell')=true:=by simp[qjjk,Value.oneCell']
theorem qu0d(p:Pk)(a:Ad)(w:World):Calls Tryz.prog 82 #[pkV p a] w fun e w'=>e = .returned (.agg (qjjk p))∧Below w.heap.size w w':=by
 have HB:=Lib.hid (fun o o'=>qxh2 (qybm (w:=w) o) (qybm o'))
 have HN:=Lib.hid (fun o o'=>heap_alloc2_new w o o')
 have c1:(pkC p a)[1]? = some (.bool p.dup):=rfl
 have c2:(pkC p a)[2]? = some (.bool p.retain):=rfl
 have c7:(pkC p a)[7]? = some (.bool p.clean):=rfl
 have c10:(pkC p a)[10]? = some (.bool p.hasUser):=rfl
 have c12:(pkC p a)[12]? = some (.bool p.hasPass):=rfl
 have c14:(pkC p a)[14]? = some (.bool p.hasWill):=rfl
 have c20:(pkC p a)[20]? = some (.bool p.session):=rfl
 have c18:(pkC p a)[18]? = some (.bool p.wRetain):=rfl
 have hone:=qai1 p
 have hsz:(qjjk p).size=8:=rfl
 have hdef:qjjk p=#[.bool p.dup,.bool p.retain,.bool p.clean,.bool p.hasUser,.bool p.hasPass,.bool p.hasWill,.bool p.session,.bool p.wRetain]:=rfl
 unfold pkV
 generalize pkC p a=C at *
 generalize qjjk p=D at *
 generalize p.dup=v1 at *
 generalize p.retain=v2 at *
 generalize p.clean=v7 at *
 generalize p.hasUser=v10 at *
 generalize p.hasPass=v12 at *
 generalize p.hasWill=v14 at *
 generalize p.session=v20 at *
 generalize p.wRetain=v18 at *
 have H1:=Lib.hid hone
 have H2:=Lib.hid hsz
 have H3:=Lib.hid hdef
 clear hone hsz hdef
 go_enter Tryz.func82,Tryz.ntmps82
 go_wp2_with (first
  | (refine wpList_buildTo rfl 119 _ rfl (some 20) rfl D (by rw[H3.out];kernel_rfl) ?_)
  | (refine wpList_store_row rfl _ _ _ rfl (w.heap.size+1) D rfl rfl 119 _ (HN.out _ _) ?b1 ?b2 ?b3 ?_))
 case b1=>rw[H2.out];exact qa72
 case b2=>rw[H2.out];rfl
 case b3=>exact H1.out
 refine q7wi (cs:=D) rfl rfl rfl Tryz.underlying119 rfl (by rw[H2.out];exact qa72) (setRow_heap _ _ _ _ _ _ (HN.out _ _)) ?_
 exact⟨rfl,q8xz (HB.out _ _) (by omega) _⟩
theorem qu29(x0 y0 x1 y1 x2 y2 x3 y3 x4 y4 x5 y5 x6 y6 x7 y7:Bool)(w:World):(Op.equalIn 10000 119 (.agg #[.bool x0,.bool x1,.bool x2,.bool x3,.bool x4,.bool x5,.bool x6,.bool x7]) (.agg #[.bool y0,.bool y1,.bool y2,.bool y3,.bool y4,.bool y5,.bool y6,.bool y7])).run Tryz.prog w = .ok ((x0==y0)&&(x1==y1)&&(x2==y2)&&(x3==y3)&&(x4==y4)&&(x5==y5)&&(x6==y6)&&(x7==y7)) w:=by
 have u3:=Tryz.underlying4
 have a3:=Tryz.isAgg4
 have z3:=Tryz.sizeOf4
 rw[show(10000:Nat)=9999+1 from rfl,Op.equalIn]
 simp only[Sem.run_bind,run_underlying Tryz.underlying119,Result.andThen_ok]
 simp only[Std.Legacy.Range.forIn_eq_forIn_range',Std.Legacy.Range.size,Nat.sub_zero,Nat.add_sub_cancel,Nat.div_one,List.range'_succ,List.range'_zero,List.forIn_cons,List.forIn_nil]
 go_simp
 by_cases h0:x0=y0<;>by_cases h1:x1=y1<;>by_cases h2:x2=y2<;>by_cases h3:x3=y3<;>by_cases h4:x4=y4<;>by_cases h5:x5=y5<;>by_cases h6:x6=y6<;>by_cases h7:x7=y7<;>simp[h0,h1,h2,h3,h4,h5,h6,h7]
theorem quaf(p q:Pk)(w:World):(binOp .eql 119 (.agg (qjjk p)) (.agg (qjjk q))).run Tryz.prog w = .ok (.bool (decide (p.marks=q.marks))) w:=by
 rw[run_eql_struct]
 unfold qjjk
 rw[qu29]
 show Result.ok (Value.bool _) w=_
 congr 2
 rw[Bool.eq_iff_iff]
 simp[Pk.marks,and_assoc]
def q5cx(p:Pk):Array Value:=#[.string (bs p.topic),.string (bs p.payload),.string (bs p.client),.string (bs p.user),.string (bs p.pass),.string (bs p.wTopic),.string (bs p.wPayload)]
theorem qebr:(Tryz.prog.info? 121).map (·.size)=some 7:=by kernel_rfl
theorem qzoi(p:Pk):(q5cx p).all (·.oneCell')=true:=by simp[q5cx,Value.oneCell']
theorem quge(p:Pk)(a:Ad)(w:World):Calls Tryz.prog 83 #[pkV p a] w fun e w'=>e = .returned (.agg (q5cx p))∧Below w.heap.size w w':=by
 have HB:=Lib.hid (fun o o'=>qxh2 (qybm (w:=w) o) (qybm o'))
 have HN:=Lib.hid (fun o o'=>heap_alloc2_new w o o')
 have c5:(pkC p a)[5]? = some (.string (bs p.topic)):=rfl
 have c6:(pkC p a)[6]? = some (.string (bs p.payload)):=rfl
 have c9:(pkC p a)[9]? = some (.string (bs p.client)):=rfl
 have c11:(pkC p a)[11]? = some (.string (bs p.user)):=rfl
 have c13:(pkC p a)[13]? = some (.string (bs p.pass)):=rfl
 have c15:(pkC p a)[15]? = some (.string (bs p.wTopic)):=rfl
 have c16:(pkC p a)[16]? = some (.string (bs p.wPayload)):=rfl
 have hone:=qzoi p
 have hsz:(q5cx p).size=7:=rfl
 have hdef:q5cx p=#[.string (bs p.topic),.string (bs p.payload),.string (bs p.client),.string (bs p.user),.string (bs p.pass),.string (bs p.wTopic),.string (bs p.wPayload)]:=rfl
 unfold pkV
 generalize pkC p a=C at *
 generalize q5cx p=D at *
 generalize bs p.topic=v5 at *
 generalize bs p.payload=v6 at *
 generalize bs p.client=v9 at *
 generalize bs p.user=v11 at *
 generalize bs p.pass=v13 at *
 generalize bs p.wTopic=v15 at *
 generalize bs p.wPayload=v16 at *
 have H1:=Lib.hid hone
 have H2:=Lib.hid hsz
 have H3:=Lib.hid hdef
 clear hone hsz hdef
 go_enter Tryz.func83,Tryz.ntmps83
 go_wp2_with (first
  | (refine wpList_buildTo rfl 121 _ rfl (some 19) rfl D (by rw[H3.out];kernel_rfl) ?_)
  | (refine wpList_store_row rfl _ _ _ rfl (w.heap.size+1) D rfl rfl 121 _ (HN.out _ _) ?b1 ?b2 ?b3 ?_))
 case b1=>rw[H2.out];exact qebr
 case b2=>rw[H2.out];rfl
 case b3=>exact H1.out
 refine q7wi (cs:=D) rfl rfl rfl Tryz.underlying121 rfl (by rw[H2.out];exact qebr) (setRow_heap _ _ _ _ _ _ (HN.out _ _)) ?_
 exact⟨rfl,q8xz (HB.out _ _) (by omega) _⟩
theorem qase(x0 y0 x1 y1 x2 y2 x3 y3 x4 y4 x5 y5 x6 y6:ByteArray)(w:World):(Op.equalIn 10000 121 (.agg #[.string x0,.string x1,.string x2,.string x3,.string x4,.string x5,.string x6]) (.agg #[.string y0,.string y1,.string y2,.string y3,.string y4,.string y5,.string y6])).run Tryz.prog w = .ok ((x0.toList==y0.toList)&&(x1.toList==y1.toList)&&(x2.toList==y2.toList)&&(x3.toList==y3.toList)&&(x4.toList==y4.toList)&&(x5.toList==y5.toList)&&(x6.toList==y6.toList)) w:=by
 have u3:=Tryz.underlying9
 have a3:=Tryz.isAgg9
 have z3:=Tryz.sizeOf9
 rw[show(10000:Nat)=9999+1 from rfl,Op.equalIn]
 simp only[Sem.run_bind,run_underlying Tryz.underlying121,Result.andThen_ok]
 simp only[Std.Legacy.Range.forIn_eq_forIn_range',Std.Legacy.Range.size,Nat.sub_zero,Nat.add_sub_cancel,Nat.div_one,List.range'_succ,List.range'_zero,List.forIn_cons,List.forIn_nil]
 go_simp
 by_cases h0:x0.toList=y0.toList<;>by_cases h1:x1.toList=y1.toList<;>by_cases h2:x2.toList=y2.toList<;>by_cases h3:x3.toList=y3.toList<;>by_cases h4:x4.toList=y4.toList<;>by_cases h5:x5.toList=y5.toList<;>by_cases h6:x6.toList=y6.toList<;>simp[h0,h1,h2,h3,h4,h5,h6]
theorem q6p1(p q:Pk)(w:World):(binOp .eql 121 (.agg (q5cx p)) (.agg (q5cx q))).run Tryz.prog w = .ok (.bool (decide (p.texts=q.texts))) w:=by
 rw[run_eql_struct]
 unfold q5cx
 rw[qase]
 show Result.ok (Value.bool _) w=_
 congr 2
 rw[Bool.eq_iff_iff]
 simp[Pk.texts,q0c6,and_assoc]
theorem qbkq(p q:Pr)(w:World) :
 Calls Tryz.prog 89 #[qbhk p,qbhk q] w fun e w'=>e = .returned (.bool (decide (p=q)))∧Below w.heap.size w w':=by
 have HB:=Lib.hid (fun o o'=>qxh2 (qybm (w:=w) o) (qybm o'))
 unfold qbhk
 obtain⟨D,hD⟩:∃D,decide (p=q)=D:=⟨_,rfl⟩
 rw[hD]
 have hno:p≠q→D=false:=fun h=>by rw[←hD];exact decide_eq_false h
 have HNO:=Lib.hid hno
 have HD:=Lib.hid hD
 clear hno hD
 rcases qzlf p q with h | h | ⟨h1,h2⟩ | ⟨h1,h2,h3⟩ | ⟨h1,h2,h3,h4⟩
 ·have hD:D=true:=by rw[←HD.out];exact decide_eq_true h
  subst h hD
  clear HD HNO
  generalize p.id=x0
  generalize ((p.n:Nat):Int)=x1
  generalize bs p.text=x2
  generalize bs p.value=x3
  go_enter Tryz.func89,Tryz.ntmps89
  go_wp2_with fail
  go_ret
  exact⟨rfl,HB.out _ _⟩
 ·have hD:=HNO.out (fun e=>by rw[e] at h;simp at h)
  clear HD HNO
  subst hD
  generalize p.id=x0 at *
  generalize ((p.n:Nat):Int)=x1 at *
  generalize bs p.text=x2 at *
  generalize bs p.value=x3 at *
  generalize q.id=y0 at *
  generalize ((q.n:Nat):Int)=y1 at *
  generalize bs q.text=y2 at *
  generalize bs q.value=y3 at *
  go_enter Tryz.func89,Tryz.ntmps89
  go_wp2_with fail
  go_ret
  exact⟨rfl,HB.out _ _⟩
 ·have hD:=HNO.out (fun e=>by rw[e] at h2;simp at h2)
  clear HD HNO
  subst hD
  rw[h1]
  clear h1
  generalize p.id=x0 at *
  generalize ((p.n:Nat):Int)=x1 at *
  generalize bs p.text=x2 at *
  generalize bs p.value=x3 at *
  generalize q.id=y0 at *
  generalize ((q.n:Nat):Int)=y1 at *
  generalize bs q.text=y2 at *
  generalize bs q.value=y3 at *
  go_enter Tryz.func89,Tryz.ntmps89
  go_wp2_with fail
  go_ret
  exact⟨rfl,HB.out _ _⟩
 ·have hD:=HNO.out (fun e=>by rw[e] at h3;simp at h3)
  clear HD HNO
  subst hD
  rw[h1]
  rw[h2]
  clear h1 h2
  generalize p.id=x0 at *
  generalize ((p.n:Nat):Int)=x1 at *
  generalize bs p.text=x2 at *
  generalize bs p.value=x3 at *
  generalize q.id=y0 at *
  generalize ((q.n:Nat):Int)=y1 at *
  generalize bs q.text=y2 at *
  generalize bs q.value=y3 at *
  go_enter Tryz.func89,Tryz.ntmps89
  go_wp2_with fail
  go_ret
  exact⟨rfl,HB.out _ _⟩
 ·have hD:=HNO.out (fun e=>by rw[e] at h4;simp at h4)
  clear HD HNO
  subst hD
  rw[h1]
  rw[h2]
  rw[h3]
  clear h1 h2 h3
  generalize p.id=x0 at *
  generalize ((p.n:Nat):Int)=x1 at *
  generalize bs p.text=x2 at *
  generalize bs p.value=x3 at *
  generalize q.id=y0 at *
  generalize ((q.n:Nat):Int)=y1 at *
  generalize bs q.text=y2 at *
  generalize bs q.value=y3 at *
  go_enter Tryz.func89,Tryz.ntmps89
  go_wp2_with fail
  go_ret
  exact⟨rfl,HB.out _ _⟩
theorem qqwl(p q:Fi)(w:World) :
 Calls Tryz.prog 87 #[fiV p,fiV q] w fun e w'=>e = .returned (.bool (decide (p=q)))∧Below w.heap.size w w':=by
 have HB:=Lib.hid (fun o o'=>qxh2 (qybm (w:=w) o) (qybm o'))
 unfold fiV
 obtain⟨D,hD⟩:∃D,decide (p=q)=D:=⟨_,rfl⟩
 rw[hD]
 have hno:p≠q→D=false:=fun h=>by rw[←hD];exact decide_eq_false h
 have HNO:=Lib.hid hno
 have HD:=Lib.hid hD
 clear hno hD
 rcases qpuj p q with h | h | ⟨h1,h2⟩ | ⟨h1,h2,h3⟩ | ⟨h1,h2,h3,h4⟩ | ⟨h1,h2,h3,h4,h5⟩
 ·have hD:D=true:=by rw[←HD.out];exact decide_eq_true h
  subst h hD
  clear HD HNO
  generalize bs p.topic=x0
  generalize p.qos=x1
  generalize p.noLocal=x2
  generalize p.asPub=x3
  generalize p.handling=x4
  go_enter Tryz.func87,Tryz.ntmps87
  go_wp2_with fail
  go_ret
  exact⟨rfl,HB.out _ _⟩
 ·have hD:=HNO.out (fun e=>by rw[e] at h;simp at h)
  clear HD HNO
  subst hD
  generalize bs p.topic=x0 at *
  generalize p.qos=x1 at *
  generalize p.noLocal=x2 at *
  generalize p.asPub=x3 at *
  generalize p.handling=x4 at *
  generalize bs q.topic=y0 at *
  generalize q.qos=y1 at *
  generalize q.noLocal=y2 at *
  generalize q.asPub=y3 at *
  generalize q.handling=y4 at *
  go_enter Tryz.func87,Tryz.ntmps87
  go_wp2_with fail
  go_ret
  exact⟨rfl,HB.out _ _⟩
 ·have hD:=HNO.out (fun e=>by rw[e] at h2;simp at h2)
  clear HD HNO
  subst hD
  rw[h1]
  clear h1
  generalize bs p.topic=x0 at *
  generalize p.qos=x1 at *
  generalize p.noLocal=x2 at *
  generalize p.asPub=x3 at *
  generalize p.handling=x4 at *
  generalize bs q.topic=y0 at *
  generalize q.qos=y1 at *
  generalize q.noLocal=y2 at *
  generalize q.asPub=y3 at *
  generalize q.handling=y4 at *
  go_enter Tryz.func87,Tryz.ntmps87
  go_wp2_with fail
  go_ret
  exact⟨rfl,HB.out _ _⟩
 ·have hD:=HNO.out (fun e=>by rw[e] at h3;simp at h3)
  clear HD HNO
  subst hD
  rw[h1]
  rw[h2]
  clear h1 h2
  generalize bs p.topic=x0 at *
  generalize p.qos=x1 at *
  generalize p.noLocal=x2 at *
  generalize p.asPub=x3 at *
  generalize p.handling=x4 at *
  generalize bs q.topic=y0 at *
  generalize q.qos=y1 at *
  generalize q.noLocal=y2 at *
  generalize q.asPub=y3 at *
  generalize q.handling=y4 at *
  go_enter Tryz.func87,Tryz.ntmps87
  go_wp2_with fail
  go_ret
  exact⟨rfl,HB.out _ _⟩
 ·have hD:=HNO.out (fun e=>by rw[e] at h4;simp at h4)
  clear HD HNO
  subst hD
  rw[h1]
  rw[h2]
  rw[h3]
  clear h1 h2 h3
  generalize bs p.topic=x0 at *
  generalize p.qos=x1 at *
  generalize p.noLocal=x2 at *
  generalize p.asPub=x3 at *
  generalize p.handling=x4 at *
  generalize bs q.topic=y0 at *
  generalize q.qos=y1 at *
  generalize q.noLocal=y2 at *
  generalize q.asPub=y3 at *
  generalize q.handling=y4 at *
  go_enter Tryz.func87,Tryz.ntmps87
  go_wp2_with fail
  go_ret
  exact⟨rfl,HB.out _ _⟩
 ·have hD:=HNO.out (fun e=>by rw[e] at h5;simp at h5)
  clear HD HNO
  subst hD
  rw[h1]
  rw[h2]
  rw[h3]
  rw[h4]
  clear h1 h2 h3 h4
  generalize bs p.topic=x0 at *
  generalize p.qos=x1 at *
  generalize p.noLocal=x2 at *
  generalize p.asPub=x3 at *
  generalize p.handling=x4 at *
  generalize bs q.topic=y0 at *
  generalize q.qos=y1 at *
  generalize q.noLocal=y2 at *
  generalize q.asPub=y3 at *
  generalize q.handling=y4 at *
  go_enter Tryz.func87,Tryz.ntmps87
  go_wp2_with fail
  go_ret
  exact⟨rfl,HB.out _ _⟩
theorem q588(p q:Int)(w:World) :
 Calls Tryz.prog 85 #[.int .i64 p,.int .i64 q] w fun e w'=>e = .returned (.bool (decide (p=q)))∧Below w.heap.size w w':=by
 have HR:=Lib.hid (Below.refl w.heap.size w)
 have e:(p==q)=decide (p=q):=by rw[Bool.eq_iff_iff];simp
 rw[←e]
 clear e
 go_enter Tryz.func85,Tryz.ntmps85
 go_wp2_with fail
 go_ret
 exact⟨rfl,HR.out⟩
theorem qk57(A B:Option Addr)(na nb c d:Nat)(l m:List Pr)(w:World)(hA:PL w A l)(hB:PL w B m)(hla:l.length=na)(hlb:m.length=nb)(hN:na≤70000)(hM:nb≤70000) :
 Calls Tryz.prog 88 #[.slice A na c,.slice B nb d,.func (.func 89) #[] #[]] w fun e w'=>e = .returned (.bool (decide (l=m)))∧Below w.heap.size w w':=by
 by_cases hn:na=nb
 ·subst hn
  obtain⟨D,hD⟩:∃D,decide (l=m)=D:=⟨_,rfl⟩
  rw[hD]
  have HD:=Lib.hid hD
  have HA:=Lib.hid hA
  have HB:=Lib.hid hB
  have HLA:=Lib.hid hla
  have HLB:=Lib.hid hlb
  have B0:=Lib.hid (Below.refl w.heap.size w)
  have q0:(na:Int)≤70000:=by omega
  clear hA hB hla hlb hN hM hD
  go_enter Tryz.func88,Tryz.ntmps88
  go_wp2_with fail
  go_loopg [17] na (fun gk i wr=>∃k:Nat,k≤na∧gk=na - k∧i = .int .i64 (k:Int)∧Below w.heap.size w wr∧∀j p q,j < k→l[j]? = some p→m[j]? = some q→p=q)
  case atStart=>exact⟨0,Nat.zero_le _,rfl,rfl,B0.out,fun j p q h=>by omega⟩
  case round=>
   obtain⟨k,hk,rfl,rfl,hb,hS⟩:=hrel
   have HS:=Lib.hid hS
   have B1:=Lib.hid hb
   by_cases hlt:k < na
   ·have hkl:k < l.length:=by rw[HLA.out];exact hlt
    have hkm:k < m.length:=by rw[HLB.out];exact hlt
    obtain⟨p,hp⟩:∃p,l[k]? = some p:=⟨_,List.getElem?_eq_getElem hkl⟩
    obtain⟨q,hq⟩:∃q,m[k]? = some q:=⟨_,List.getElem?_eq_getElem hkm⟩
    have HA2:=Lib.hid (HA.out.below hb)
    have HB2:=Lib.hid (HB.out.below hb)
    obtain⟨ga,ia,rfl,la,a0,a1,a2,a3⟩:=HA2.out.at hp
    obtain⟨gb,ib,rfl,lb,b0,b1,b2,b3⟩:=HB2.out.at hq
    have HP:=Lib.hid hp
    have HQ:=Lib.hid hq
    have HL:=Lib.hid hlt
    have g1:(k:Int) < (na:Int):=by omega
    have g2:=hb.size
    have hyes:p=q∨D=false:=by
     by_cases h:p=q
     ·exact .inl h
     ·refine .inr ?_
      rw[←HD.out]
      exact decide_eq_false fun e=>h (by subst e;exact Option.some.inj (HP.out.symm.trans HQ.out))
    have HY:=Lib.hid hyes
    have SM:=Lib.hid (qbkq p q)
    obtain⟨E,hE⟩:∃E,decide (p=q)=E:=⟨_,rfl⟩
    rw[hE] at SM
    have HE:=Lib.hid hE
    clear hS hkl hkm hp hq hlt hk hyes hb hE
    unfold qbhk at SM
    go_wp2_with fail
    refine(SM.out _).mono ?_
    rintro e w3 ⟨rfl,hb⟩
    have B2:=Lib.hid (qxh2 (qxh2 (qxh2 B1.out (qybm _)) (qybm _)) hb)
    clear hb
    cases E with
    | true=>
     go_wp2_with fail
     go_roundg (na - (k+1))
     case measure=>have:=HL.out;omega
     case rel=>
      have hpq:p=q:=of_decide_eq_true HE.out
      refine⟨k+1,by have:=HL.out;omega,rfl,by go_num,B2.out,fun j u v hj hu hv=>?_⟩
      by_cases hjk:j=k
      ·subst hjk
       exact((Option.some.inj (hu.symm.trans HP.out)).trans hpq).trans (Option.some.inj (HQ.out.symm.trans hv))
      ·exact HS.out j u v (by omega) hu hv
    | false=>
     have hD:D=false:=(HY.out).resolve_left (of_decide_eq_false HE.out)
     subst hD
     go_wp2_with fail
     go_ret
     exact⟨rfl,B2.out⟩
   ·obtain rfl:k=na:=by omega
    have hD:D=true:=by rw[←HD.out];exact decide_eq_true (qs8g HLA.out HLB.out hS)
    subst hD
    clear hS hlt hk hb
    go_wp2_with fail
    go_ret
    exact⟨rfl,B1.out⟩
 ·have hD:decide (l=m)=false:=decide_eq_false fun e=>hn (by rw[←hla,←hlb,e])
  have q0:((na:Int) != (nb:Int))=true:=by rw[bne_iff_ne];omega
  have B0:=Lib.hid (Below.refl w.heap.size w)
  rw[hD]
  clear hA hB hla hlb hN hM hD hn
  go_enter Tryz.func88,Tryz.ntmps88
  go_wp2_with fail
  go_ret
  exact⟨rfl,B0.out⟩
theorem qm9z(A B:Option Addr)(na nb c d:Nat)(l m:List Fi)(w:World)(hA:CL w A (fcs l))(hB:CL w B (fcs m))(hla:l.length=na)(hlb:m.length=nb)(hN:na≤70000)(hM:nb≤70000) :
 Calls Tryz.prog 86 #[.slice A na c,.slice B nb d,.func (.func 87) #[] #[]] w fun e w'=>e = .returned (.bool (decide (l=m)))∧Below w.heap.size w w':=by
 by_cases hn:na=nb
 ·subst hn
  obtain⟨D,hD⟩:∃D,decide (l=m)=D:=⟨_,rfl⟩
  rw[hD]
  have HD:=Lib.hid hD
  have HA:=Lib.hid hA
  have HB:=Lib.hid hB
  have HLA:=Lib.hid hla
  have HLB:=Lib.hid hlb
  have B0:=Lib.hid (Below.refl w.heap.size w)
  have q0:(na:Int)≤70000:=by omega
  clear hA hB hla hlb hN hM hD
  go_enter Tryz.func86,Tryz.ntmps86
  go_wp2_with fail
  go_loopg [17] na (fun gk i wr=>∃k:Nat,k≤na∧gk=na - k∧i = .int .i64 (k:Int)∧Below w.heap.size w wr∧∀j p q,j < k→l[j]? = some p→m[j]? = some q→p=q)
  case atStart=>exact⟨0,Nat.zero_le _,rfl,rfl,B0.out,fun j p q h=>by omega⟩
  case round=>
   obtain⟨k,hk,rfl,rfl,hb,hS⟩:=hrel
   have HS:=Lib.hid hS
   have B1:=Lib.hid hb
   by_cases hlt:k < na
   ·have hkl:k < l.length:=by rw[HLA.out];exact hlt
    have hkm:k < m.length:=by rw[HLB.out];exact hlt
    obtain⟨p,hp⟩:∃p,l[k]? = some p:=⟨_,List.getElem?_eq_getElem hkl⟩
    obtain⟨q,hq⟩:∃q,m[k]? = some q:=⟨_,List.getElem?_eq_getElem hkm⟩
    have HA2:=Lib.hid (HA.out.below hb)
    have HB2:=Lib.hid (HB.out.below hb)
    obtain⟨ga,ia,rfl,la,a0,a1,a2,a3,a4⟩:=HA2.out.fi hp
    obtain⟨gb,ib,rfl,lb,b0,b1,b2,b3,b4⟩:=HB2.out.fi hq
    have HP:=Lib.hid hp
    have HQ:=Lib.hid hq
    have HL:=Lib.hid hlt
    have g1:(k:Int) < (na:Int):=by omega
    have g2:=hb.size
    have hyes:p=q∨D=false:=by
     by_cases h:p=q
     ·exact .inl h
     ·refine .inr ?_
      rw[←HD.out]
      exact decide_eq_false fun e=>h (by subst e;exact Option.some.inj (HP.out.symm.trans HQ.out))
    have HY:=Lib.hid hyes
    have SM:=Lib.hid (qqwl p q)
    obtain⟨E,hE⟩:∃E,decide (p=q)=E:=⟨_,rfl⟩
    rw[hE] at SM
    have HE:=Lib.hid hE
    clear hS hkl hkm hp hq hlt hk hyes hb hE
    unfold fiV at SM
    go_wp2_with fail
    refine(SM.out _).mono ?_
    rintro e w3 ⟨rfl,hb⟩
    have B2:=Lib.hid (qxh2 (qxh2 (qxh2 B1.out (qybm _)) (qybm _)) hb)
    clear hb
    cases E with
    | true=>
     go_wp2_with fail
     go_roundg (na - (k+1))
     case measure=>have:=HL.out;omega
     case rel=>
      have hpq:p=q:=of_decide_eq_true HE.out
      refine⟨k+1,by have:=HL.out;omega,rfl,by go_num,B2.out,fun j u v hj hu hv=>?_⟩
      by_cases hjk:j=k
      ·subst hjk
       exact((Option.some.inj (hu.symm.trans HP.out)).trans hpq).trans (Option.some.inj (HQ.out.symm.trans hv))
      ·exact HS.out j u v (by omega) hu hv
    | false=>
     have hD:D=false:=(HY.out).resolve_left (of_decide_eq_false HE.out)
     subst hD
     go_wp2_with fail
     go_ret
     exact⟨rfl,B2.out⟩
   ·obtain rfl:k=na:=by omega
    have hD:D=true:=by rw[←HD.out];exact decide_eq_true (qs8g HLA.out HLB.out hS)
    subst hD
    clear hS hlt hk hb
    go_wp2_with fail
    go_ret
    exact⟨rfl,B1.out⟩
 ·have hD:decide (l=m)=false:=decide_eq_false fun e=>hn (by rw[←hla,←hlb,e])
  have q0:((na:Int) != (nb:Int))=true:=by rw[bne_iff_ne];omega
  have B0:=Lib.hid (Below.refl w.heap.size w)
  rw[hD]
  clear hA hB hla hlb hN hM hD hn
  go_enter Tryz.func86,Tryz.ntmps86
  go_wp2_with fail
  go_ret
  exact⟨rfl,B0.out⟩
theorem q5se(A B:Option Addr)(na nb c d:Nat)(l m:List Int)(w:World)(hA:CL w A (ics l))(hB:CL w B (ics m))(hla:l.length=na)(hlb:m.length=nb)(hN:na≤70000)(hM:nb≤70000) :
 Calls Tryz.prog 84 #[.slice A na c,.slice B nb d,.func (.func 85) #[] #[]] w fun e w'=>e = .returned (.bool (decide (l=m)))∧Below w.heap.size w w':=by
 by_cases hn:na=nb
 ·subst hn
  obtain⟨D,hD⟩:∃D,decide (l=m)=D:=⟨_,rfl⟩
  rw[hD]
  have HD:=Lib.hid hD
  have HA:=Lib.hid hA
  have HB:=Lib.hid hB
  have HLA:=Lib.hid hla
  have HLB:=Lib.hid hlb
  have B0:=Lib.hid (Below.refl w.heap.size w)
  have q0:(na:Int)≤70000:=by omega
  clear hA hB hla hlb hN hM hD
  go_enter Tryz.func84,Tryz.ntmps84
  go_wp2_with fail
  go_loopg [17] na (fun gk i wr=>∃k:Nat,k≤na∧gk=na - k∧i = .int .i64 (k:Int)∧Below w.heap.size w wr∧∀j p q,j < k→l[j]? = some p→m[j]? = some q→p=q)
  case atStart=>exact⟨0,Nat.zero_le _,rfl,rfl,B0.out,fun j p q h=>by omega⟩
  case round=>
   obtain⟨k,hk,rfl,rfl,hb,hS⟩:=hrel
   have HS:=Lib.hid hS
   have B1:=Lib.hid hb
   by_cases hlt:k < na
   ·have hkl:k < l.length:=by rw[HLA.out];exact hlt
    have hkm:k < m.length:=by rw[HLB.out];exact hlt
    obtain⟨p,hp⟩:∃p,l[k]? = some p:=⟨_,List.getElem?_eq_getElem hkl⟩
    obtain⟨q,hq⟩:∃q,m[k]? = some q:=⟨_,List.getElem?_eq_getElem hkm⟩
    have HA2:=Lib.hid (HA.out.below hb)
    have HB2:=Lib.hid (HB.out.below hb)
    obtain⟨ga,ia,rfl,la,a0⟩:=HA2.out.int hp
    obtain⟨gb,ib,rfl,lb,b0⟩:=HB2.out.int hq
    have HP:=Lib.hid hp
    have HQ:=Lib.hid hq
    have HL:=Lib.hid hlt
    have g1:(k:Int) < (na:Int):=by omega
    have g2:=hb.size
    have hyes:p=q∨D=false:=by
     by_cases h:p=q
     ·exact .inl h
     ·refine .inr ?_
      rw[←HD.out]
      exact decide_eq_false fun e=>h (by subst e;exact Option.some.inj (HP.out.symm.trans HQ.out))
    have HY:=Lib.hid hyes
    have SM:=Lib.hid (q588 p q)
    obtain⟨E,hE⟩:∃E,decide (p=q)=E:=⟨_,rfl⟩
    rw[hE] at SM
    have HE:=Lib.hid hE
    clear hS hkl hkm hp hq hlt hk hyes hb hE
    go_wp2_with fail
    refine(SM.out _).mono ?_
    rintro e w3 ⟨rfl,hb⟩
    have B2:=Lib.hid (qxh2 B1.out hb)
    clear hb
    cases E with
    | true=>
     go_wp2_with fail
     go_roundg (na - (k+1))
     case measure=>have:=HL.out;omega
     case rel=>
      have hpq:p=q:=of_decide_eq_true HE.out
      refine⟨k+1,by have:=HL.out;omega,rfl,by go_num,B2.out,fun j u v hj hu hv=>?_⟩
      by_cases hjk:j=k
      ·subst hjk
       exact((Option.some.inj (hu.symm.trans HP.out)).trans hpq).trans (Option.some.inj (HQ.out.symm.trans hv))
      ·exact HS.out j u v (by omega) hu hv
    | false=>
     have hD:D=false:=(HY.out).resolve_left (of_decide_eq_false HE.out)
     subst hD
     go_wp2_with fail
     go_ret
     exact⟨rfl,B2.out⟩
   ·obtain rfl:k=na:=by omega
    have hD:D=true:=by rw[←HD.out];exact decide_eq_true (qs8g HLA.out HLB.out hS)
    subst hD
    clear hS hlt hk hb
    go_wp2_with fail
    go_ret
    exact⟨rfl,B1.out⟩
 ·have hD:decide (l=m)=false:=decide_eq_false fun e=>hn (by rw[←hla,←hlb,e])
  have q0:((na:Int) != (nb:Int))=true:=by rw[bne_iff_ne];omega
  have B0:=Lib.hid (Below.refl w.heap.size w)
  rw[hD]
  clear hA hB hla hlb hN hM hD hn
  go_enter Tryz.func84,Tryz.ntmps84
  go_wp2_with fail
  go_ret
  exact⟨rfl,B0.out⟩
end Go.Proofs.YtbklidpadffpgaaGreat
