/- What stands while a function copies a packet's fields into a new one. No condition. -/
import Derived.Laws.ResultCell
import Derived.Great.BuildSlice
import Derived.Deep.DeepCutAuto
import Derived.Lib.BitFns
import Derived.Lib.Walk
import Derived.Test.YthhdhagenmcbeaaGreatK02
import Derived.Test.YthhdhagenmcbeaaGreatK07
import Derived.Test.YthhdhagenmcbeaaGreatK16
import Derived.Test.YthhdhagenmcbeaaGreatK03
import Derived.Test.YthhdhagenmcbeaaGreatK13
import Derived.Test.YthhdhagenmcbeaaGreatK10
set_option maxRecDepth 100000
set_option maxHeartbeats 2000000
namespace Go.Proofs.YthhdhagenmcbeaaGreat
open Go.RowKit
structure UsS(w:World)(p:Pk)(a:Ad)(x:Pk)(b:Ad)(W:World):Prop where
 low:Below w.heap.size w W
 box:W.heap[w.heap.size]? = some (.cells (pkC p a) 35 (0,0))
 res:W.heap[w.heap.size+1]? = some (.cells pkZ 35 (0,0))
 new:W.heap[w.heap.size+1+1]? = some (.cells (pkC x b) 35 (0,0))
section
variable{w W W':World}{p x:Pk}{a b:Ad}
theorem UsS.cell(h:UsS w p a x b W)(j:Nat):W.cell? ⟨w.heap.size,j,none⟩=(pkC p a)[j]? := cell_of_row _ _ j _ _ _ h.box
theorem UsS.ncell(h:UsS w p a x b W)(j:Nat):W.cell? ⟨w.heap.size+1+1,j,none⟩=(pkC x b)[j]? := cell_of_row _ _ j _ _ _ h.new
theorem UsS.fr(h:UsS w p a x b W)(j:Nat):W.frozen? ⟨w.heap.size+1+1,j,none⟩=false:=frozen_of_row _ _ _ _ _ h.new
theorem UsS.put(h:UsS w p a x b W)(j:Nat)(u:Value){x':Pk}{b':Ad}(he:(pkC x b).setIfInBounds j u=pkC x' b'):UsS w p a x' b' (W.setCell ⟨w.heap.size+1+1,j,none⟩ u):=
 ⟨h.low.setCell (by show _≤w.heap.size+1+1;omega) u,(heap_setCell_other W ⟨w.heap.size+1+1,j,none⟩ _ u (by show w.heap.size≠w.heap.size+1+1;omega)).trans h.box,(heap_setCell_other W ⟨w.heap.size+1+1,j,none⟩ _ u (by show w.heap.size+1≠w.heap.size+1+1;omega)).trans h.res,
  by have:=qlvy h.new j u;rw[he] at this;exact this⟩
theorem UsS.call(h:UsS w p a x b W)(hb:Below W.heap.size W W'):UsS w p a x b W':=
 ⟨qxh2 h.low hb,(hb.block _ (lt_of_block h.box)).trans h.box,(hb.block _ (lt_of_block h.res)).trans h.res,(hb.block _ (lt_of_block h.new)).trans h.new⟩
theorem UsS.drew(h:UsS w p a x b W):UsS w p a x b W.drew:=⟨h.low.drew,h.box,h.res,h.new⟩
end
theorem qnzz(v k:Int)(w:World):Calls Tryz.prog 22 #[.int .i64 v,.int .i64 k] w fun e w'=>e = .returned (.bool (versC v&&qvya k))∧w=w':=by
 unfold versC qvya
 have hv:v=4∨v=5∨((v==4)=false∧(v==5)=false):=by
  by_cases h4:v=4
  ·exact .inl h4
  by_cases h5:v=5
  ·exact .inr (.inl h5)
  exact .inr (.inr ⟨beq_eq_false_iff_ne.2 h4,beq_eq_false_iff_ne.2 h5⟩)
 have hk:decide (4≤k)=true∨decide (4≤k)=false:=by cases decide (4≤k)<;>simp
 rcases hv with rfl | rfl | ⟨h4,h5⟩
 ·rcases hk with k1 | k1
  all_goals
   rw[k1]
   go_enter Tryz.func22,Tryz.ntmps22
   go_wp2
   go_ret
   exact⟨by first | rfl | simp,rfl⟩
 ·rcases hk with k1 | k1
  all_goals
   rw[k1]
   go_enter Tryz.func22,Tryz.ntmps22
   go_wp2
   go_ret
   exact⟨by first | rfl | simp,rfl⟩
 ·rw[h4,h5]
  go_enter Tryz.func22,Tryz.ntmps22
  go_wp2
  go_ret
  exact⟨by first | rfl | simp,rfl⟩
theorem q6c0(p:Pk)(a:Ad)(w:World):Calls Tryz.prog 20 #[.agg (pkC p a)] w fun e w'=>e = .returned (.int .i64 (necA p:Nat))∧Below w.heap.size w w':=by
 have S0:=Lib.hid (BxS.made w p a)
 have c24:(w.alloc (.cells (pkC p a) 35)).cell? ⟨w.heap.size,24,none⟩=some (.slice a.ps p.props.length a.pc):=S0.out.cell 24
 have c21:(w.alloc (.cells (pkC p a) 35)).cell? ⟨w.heap.size,21,none⟩=some (.int .i64 p.code):=S0.out.cell 21
 unfold necA
 by_cases hl:p.props=[]
 ·have hz:p.props.length=0:=by rw[hl];rfl
  rw[if_neg (by simpa using hl)]
  rw[hz] at c24
  by_cases hc:p.code=0
  ·rw[if_neg (by simpa using hc)]
   rw[hc] at c21
   clear hl hc hz
   go_enter Tryz.func20,Tryz.ntmps20
   go_wp2_with fail
   go_ret
   exact⟨rfl,S0.out.low⟩
  ·rw[if_pos hc]
   have e1:(p.code==0)=false:=by simpa using hc
   have e2:(p.code != 0)=true:=by simpa using hc
   clear hl hc hz
   generalize p.code=c at *
   go_enter Tryz.func20,Tryz.ntmps20
   go_wp2_with fail
   go_ret
   exact⟨rfl,S0.out.low⟩
 ·rw[if_pos hl]
  have hz:0 < p.props.length:=List.length_pos_iff.2 hl
  clear hl
  generalize p.props.length=n at *
  go_enter Tryz.func20,Tryz.ntmps20
  go_wp2_with fail
  go_ret
  exact⟨rfl,S0.out.low⟩
def qo3o(v:Int)(p:Pk):Pk:={Pk.zero with kind:=p.kind,id:=p.id,code:=if v=5 then p.code else 0,props:=if v=5 then p.props else []}
def qi8p(v:Int)(a:Ad):Ad:={adZ with ps:=if v=5 then a.ps else none,pc:=if v=5 then a.pc else 0}
theorem qvqb{w:World}{p:Pk}{a:Ad}(v:Int)(h:PkAt w p a):PkAt w (qo3o v p) (qi8p v a):=by
 refine⟨fun e=>absurd rfl e,fun e=>absurd rfl e,fun e=>absurd rfl e,?_⟩
 unfold qo3o qi8p
 by_cases h5:v=5
 ·simp only[if_pos h5];exact h.ps
 ·simp only[if_neg h5];exact fun e=>absurd rfl e
theorem q9mw{p:Pk}(v:Int)(h:q21o p):q21o (qo3o v p):=by
 refine⟨Nat.zero_le _,Nat.zero_le _,?_,Nat.zero_le _⟩
 unfold qo3o
 by_cases h5:v=5
 ·simp only[if_pos h5];exact h.2.2.1
 ·simp only[if_neg h5];exact Nat.zero_le _
def us0A(p:Pk):Pk:={Pk.zero with kind:=p.kind,id:=p.id}
theorem qbym(v:Int)(p:Pk)(a:Ad)(w:World):Calls Tryz.prog 56 #[.int .i64 v,.agg (pkC p a)] w fun e w'=>e = .returned (.agg (pkC (qo3o v p) (qi8p v a)))∧Below w.heap.size w w':=by
 have Z0:((w.alloc (.cells (pkC p a) 35)).alloc (.cells pkZ 35)).heap.size=w.heap.size+1+1:=by simp
 have GN:(((w.alloc (.cells (pkC p a) 35)).alloc (.cells pkZ 35)).alloc (.cells pkZ 35)).heap[w.heap.size+1+1]? = some (.cells pkZ 35 (0,0)):=by
  have:=heap_alloc_new ((w.alloc (.cells (pkC p a) 35)).alloc (.cells pkZ 35)) (.cells pkZ 35)
  rw[Z0] at this;exact this
 have S0:UsS w p a (us0A p) adZ ((((w.alloc (.cells (pkC p a) 35)).alloc (.cells pkZ 35)).alloc (.cells pkZ 35)).setRow (w.heap.size+1+1) (pkC (us0A p) adZ)):=by
  refine⟨q8xz (qxh2 (qxh2 (qybm _) (qybm _)) (qybm _)) (by omega) _,?_,?_,setRow_heap _ _ _ _ _ _ GN⟩
  ·exact(setRow_other _ _ _ _ (by omega)).trans ((heap_alloc_old _ _ (by rw[Z0];omega)).trans (heap_alloc2_old _ _ _))
  ·exact(setRow_other _ _ _ _ (by omega)).trans ((heap_alloc_old _ _ (by rw[Z0];omega)).trans (heap_alloc2_new _ _ _))
 have hzv:=qrai
 have hne:¬pkZ=#[]:=by intro h;have:=qbwp;rw[h] at this;cases this
 have HZ:=Lib.hid qbwp
 have GN:=Lib.hid GN
 have hD1:=qwmp (us0A p) adZ
 have hD2:=qmz0 (us0A p) adZ
 obtain⟨D,hD⟩:∃D,pkC (us0A p) adZ=D:=⟨_,rfl⟩
 rw[hD] at hD1 hD2 S0
 have HD:=Lib.hid hD
 have HD1:=Lib.hid hD1
 have HD2:=Lib.hid hD2
 have HS0:=Lib.hid S0
 have k0:((w.alloc (.cells (pkC p a) 35)).alloc (.cells pkZ 35)).cell? ⟨w.heap.size,0,none⟩=some (.int .i64 p.kind):=cell_of_row _ _ 0 _ _ _ (heap_alloc2_old _ _ _)
 have k4:((w.alloc (.cells (pkC p a) 35)).alloc (.cells pkZ 35)).cell? ⟨w.heap.size,4,none⟩=some (.int .i64 p.id):=cell_of_row _ _ 4 _ _ _ (heap_alloc2_old _ _ _)
 clear S0 hD hD1 hD2 Z0
 go_enter Tryz.func56,Tryz.ntmps56
 go_upto_if 12 with (first
  | (refine wpList_buildTo rfl 35 _ rfl (some _) rfl D (by rw[←HD.out];kernel_rfl) ?_)
  | (refine wpList_store_row rfl _ _ _ rfl (w.heap.size+1+1) D rfl rfl 35 _ GN.out (by rw[HD1.out];exact q5nr) (by rw[HZ.out,HD1.out]) HD2.out ?_))
 clear k0 k4 GN HZ hne hzv
 go_cut [] (fun wx=>UsS w p a (qo3o v p) (qi8p v a) wx)
 case first=>
  generalize (((w.alloc (.cells (pkC p a) 35)).alloc (.cells pkZ 35)).alloc (.cells pkZ 35)).setRow (w.heap.size+1+1) D=W at *
  by_cases h5:v=5
  ·subst h5
   have S1:=Lib.hid ((HS0.out.put 21 (.int .i64 p.code) (x':={us0A p with code:=p.code}) (b':=adZ) rfl).put 24 (.slice a.ps p.props.length a.pc) (x':=qo3o 5 p) (b':=qi8p 5 a) rfl)
   have k21:W.cell? ⟨w.heap.size,21,none⟩=some (.int .i64 p.code):=HS0.out.cell 21
   have k24:W.cell? ⟨w.heap.size,24,none⟩=some (.slice a.ps p.props.length a.pc):=HS0.out.cell 24
   have n21:W.cell? ⟨w.heap.size+1+1,21,none⟩=some (.int .i64 0):=HS0.out.ncell 21
   have n24:W.cell? ⟨w.heap.size+1+1,24,none⟩=some (.slice none 0 0):=HS0.out.ncell 24
   have f21:=HS0.out.fr 21
   have f24:=HS0.out.fr 24
   clear HS0
   go_upto_region 3 with fail
   go_region
   go_wp2_with fail
   go_meet
   exact S1.out.drew
  ·have h5':(v==5)=false:=beq_eq_false_iff_ne.2 h5
   have SB:=Lib.hid (show UsS w p a (qo3o v p) (qi8p v a) W by
    unfold qo3o qi8p
    rw[if_neg h5,if_neg h5,if_neg h5,if_neg h5];exact HS0.out)
   clear HS0 h5
   go_wp2_with fail
   go_meet
   exact SB.out
 case rest=>
  have HS:=Lib.hid hcut
  clear hcut HS0
  have GB:=HS.out.new
  have GR:=Lib.hid HS.out.res
  have LO:=Lib.hid HS.out.low
  have hR1:=qwmp (qo3o v p) (qi8p v a)
  have hR2:=qmz0 (qo3o v p) (qi8p v a)
  obtain⟨R,hR⟩:∃R,pkC (qo3o v p) (qi8p v a)=R:=⟨_,rfl⟩
  rw[hR] at GB hR1 hR2
  have HR:=Lib.hid hR
  have GB:=Lib.hid GB
  have HR1:=Lib.hid hR1
  have HR2:=Lib.hid hR2
  clear hR1 hR2 HS hR
  go_wp2_with (first
   | (refine wpList_load_row rfl _ _ rfl (w.heap.size+1+1) rfl 35 R (0,0) _ GB.out Tryz.underlying35 rfl (by rw[HR1.out];exact q5nr) ?_)
   | (refine wpList_store_row rfl _ _ _ rfl (w.heap.size+1) R rfl rfl 35 _ GR.out (by rw[HR1.out];exact q5nr) (by rw[qbwp,HR1.out]) HR2.out ?_))
  exact q7wi (cs:=R) rfl rfl rfl Tryz.underlying35 rfl (by rw[HR1.out];exact q5nr) (setRow_heap _ _ _ _ _ _ GR.out) ⟨by rw[HR.out],q8xz LO.out (by omega) _⟩
theorem qm1s(b:UInt8):bits .and .u8 (b.toNat:Int) 128=if 128≤b.toNat then 128 else 0:=by
 have all:∀x:Fin 256,bits .and .u8 (x.val:Int) 128=if 128≤x.val then 128 else 0:=by decide+kernel
 exact all ⟨b.toNat,b.toNat_lt⟩
theorem qbg0(b:UInt8):bits .and .u8 (b.toNat:Int) 127=((b.toNat%128:Nat):Int):=by
 have all:∀x:Fin 256,bits .and .u8 (x.val:Int) 127=((x.val%128:Nat):Int):=by decide+kernel
 exact all ⟨b.toNat,b.toNat_lt⟩
theorem qoki(x:Nat)(h:x < 128):bits .or .u8 (x:Int) 128=((x+128:Nat):Int):=by
 have all:∀x:Fin 128,bits .or .u8 (x.val:Int) 128=((x.val+128:Nat):Int):=by decide+kernel
 exact all ⟨x,h⟩
theorem quym(x:Int)(w:World)(h0:0≤x)(h1:x≤268435455) :
 Calls Tryz.prog 133 #[.int .u64 x] w fun e w'=>e = .returned (.int .i64 (Lib.bitLen x.toNat))∧w=w':=by
 have h32:x < 4294967296:=by omega
 by_cases c1:x < 256
 ·have l:=Lib.bitLen_le8' x h0 (by omega)
  have g0:x≤255:=by omega
  go_enter Tryz.func133,Tryz.ntmps133
  go_wp2
  go_ret
  refine⟨congrArg Ending.returned (congrArg (Value.int IntKind.i64) ?_),rfl⟩
  rw[Lib.len8_of x h0 g0]
  unfold wrap64
  omega
 by_cases c2:x < 65536
 ·have l:=Lib.bitLen_le8' (x / 256) (by omega) (by omega)
  have s:=Lib.bitLen_shift8 x.toNat (by omega) (by omega)
  have g0:0≤x / 256:=by omega
  have g1:x / 256≤255:=by omega
  have e:(x / 256).toNat=x.toNat / 256:=by omega
  rw[e] at l
  have E:=Lib.hid e
  have S:=Lib.hid s
  clear e s
  go_enter Tryz.func133,Tryz.ntmps133
  go_wp2
  go_ret
  refine⟨congrArg Ending.returned (congrArg (Value.int IntKind.i64) ?_),rfl⟩
  rw[Lib.len8_of (x / 256) g0 g1,E.out,S.out]
  unfold wrap64
  omega
 by_cases c3:x < 16777216
 ·have l:=Lib.bitLen_le8' (x / 65536) (by omega) (by omega)
  have s:=Lib.bitLen_shift16 x.toNat (by omega) (by omega)
  have g0:0≤x / 65536:=by omega
  have g1:x / 65536≤255:=by omega
  have e:(x / 65536).toNat=x.toNat / 65536:=by omega
  rw[e] at l
  have E:=Lib.hid e
  have S:=Lib.hid s
  clear e s
  go_enter Tryz.func133,Tryz.ntmps133
  go_wp2
  go_ret
  refine⟨congrArg Ending.returned (congrArg (Value.int IntKind.i64) ?_),rfl⟩
  rw[Lib.len8_of (x / 65536) g0 g1,E.out,S.out]
  unfold wrap64
  omega
 ·have l:=Lib.bitLen_le8' (x / 65536 / 256) (by omega) (by omega)
  have s:=Lib.bitLen_shift24 x.toNat (by omega) (by omega)
  have g0:0≤x / 65536 / 256:=by omega
  have g1:x / 65536 / 256≤255:=by omega
  have e:(x / 65536 / 256).toNat=x.toNat / 16777216:=by omega
  rw[e] at l
  have E:=Lib.hid e
  have S:=Lib.hid s
  clear e s
  go_enter Tryz.func133,Tryz.ntmps133
  go_wp2
  go_ret
  refine⟨congrArg Ending.returned (congrArg (Value.int IntKind.i64) ?_),rfl⟩
  rw[Lib.len8_of (x / 65536 / 256) g0 g1,E.out,S.out]
  unfold wrap64
  omega
theorem q5on(x:Int)(w:World)(h0:0≤x)(h1:x≤268435455) :
 Calls Tryz.prog 108 #[.int .u64 x] w fun e w'=>e = .returned (.int .i64 (Lib.bitLen x.toNat))∧w=w':=by
 go_enter Tryz.func108,Tryz.ntmps108
 go_wp2_with (go_at_call 133;refine(quym x _ h0 h1).mono ?_;rintro e w' ⟨rfl,rfl⟩)
 go_ret
 exact⟨rfl,rfl⟩
theorem qbdl(n:Nat)(h:n≤268435455):(max 1 (Lib.bitLen n)+6) / 7=sz n:=by
 have low:∀k,k≤63→2^k≤n→k < Lib.bitLen n:=fun k hk hn=>by
  have hpos:n / 2^k≠0:=by have:=Nat.div_pos hn (Nat.two_pow_pos k);omega
  have h64:n < 2^64:=by
   have:(268435455:Nat) < 2^64:=by decide
   omega
  rw[Lib.bitLen_shift k n hn h64,Lib.bitLen_half _ hpos (Nat.lt_of_le_of_lt (Nat.div_le_self _ _) h64)]
  omega
 rcases qnl4 n h with ⟨e,h1⟩ | ⟨e,h1,h2⟩ | ⟨e,h1,h2⟩ | ⟨e,h1⟩<;>rw[e]
 ·have:=Lib.bitLen_le n 7 (by decide) h1
  omega
 ·have:=Lib.bitLen_le n 14 (by decide) h2
  have:=low 7 (by decide) h1
  omega
 ·have:=Lib.bitLen_le n 21 (by decide) h2
  have:=low 14 (by decide) h1
  omega
 ·have:=Lib.bitLen_le n 28 (by decide) (by omega)
  have:=low 21 (by decide) h1
  omega
theorem ql84(n:Nat)(h:n≤268435455):(max 1 (Lib.bitLen n:Int)+7 - 1) / 7=sz n:=by
 rw[←qbdl n h]
 generalize Lib.bitLen n=b
 rcases Nat.le_total 1 b with h | h
 ·rw[Nat.max_eq_right h,Int.max_eq_right (by omega)];omega
 ·rw[Nat.max_eq_left h,Int.max_eq_left (by omega)];omega
theorem qk0d(n:Int)(w:World) :
 Calls Tryz.prog 72 #[.int .i64 n] w fun e w'=>e = .returned (.int .i64 (sz n))∧w=w':=by
 by_cases h1:n < 0
 ·rw[qbck.2 (.inl h1)]
  go_enter Tryz.func72,Tryz.ntmps72
  go_wp2
  go_ret
  exact⟨rfl,rfl⟩
 by_cases h2:268435455 < n
 ·rw[qbck.2 (.inr h2)]
  go_enter Tryz.func72,Tryz.ntmps72
  go_wp2
  go_ret
  exact⟨rfl,rfl⟩
 ·obtain⟨k,rfl⟩:=Int.eq_ofNat_of_zero_le (show 0≤n by omega)
  have e:=ql84 k (by omega)
  have b:=Lib.bitLen_le k 28 (by decide) (by omega)
  have E:=Lib.hid e
  clear e
  go_enter Tryz.func72,Tryz.ntmps72
  go_wp2_with (go_at_call 108;refine(q5on k _ (by omega) (by omega)).mono ?_;rintro e w' ⟨rfl,rfl⟩)
  go_ret
  exact⟨congrArg Ending.returned (congrArg (Value.int IntKind.i64) E.out),rfl⟩
end Go.Proofs.YthhdhagenmcbeaaGreat
