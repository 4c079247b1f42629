/- The contracts of varint's functions on numbers and bytes alone: next, Size. No condition. -/
import Derived.Lib.BitFns
import Derived.Lib.Walk
import Derived.StillTailTactics
import Derived.IntWalk
import Derived.Laws.ResultCell
import Derived.Test.YtbecggefmbpnoaaGreatDoorK02
import Derived.Test.YtbecggefmbpnoaaGreatDoorK03
import Derived.Test.YtbecggefmbpnoaaGreatDoorK18
import Derived.Test.YtbecggefmbpnoaaGreatDoorK05
set_option maxHeartbeats 1000000
set_option maxRecDepth 100000
namespace Go.Proofs.YtbecggefmbpnoaaGreatDoor
open Go.RowKit
theorem qbg0(b:UInt8):bits .and .u8 (b.toNat:Int) 127=((b.toNat%128:Nat):Int):=by
 have all:∀x:Fin 256,bits .and .u8 (x.val:Int) 127=((x.val%128:Nat):Int):=by decide+kernel
 exact all ⟨b.toNat,b.toNat_lt⟩
theorem qoki(x:Nat)(h:x < 128):bits .or .u8 (x:Int) 128=((x+128:Nat):Int):=by
 have all:∀x:Fin 128,bits .or .u8 (x.val:Int) 128=((x.val+128:Nat):Int):=by decide+kernel
 exact all ⟨x,h⟩
theorem quym(x:Int)(w:World)(h0:0≤x)(h1:x≤268435455) :
 Calls Tryz.prog 204 #[.int .u64 x] w fun e w'=>e = .returned (.int .i64 (Lib.bitLen x.toNat))∧w=w':=by
 have h32:x < 4294967296:=by omega
 by_cases c1:x < 256
 ·have l:=Lib.bitLen_le8' x h0 (by omega)
  have g0:x≤255:=by omega
  go_enter Tryz.func204,Tryz.ntmps204
  go_wp2
  go_ret
  refine⟨congrArg Ending.returned (congrArg (Value.int IntKind.i64) ?_),rfl⟩
  rw[Lib.len8_of x h0 g0]
  unfold wrap64
  omega
 by_cases c2:x < 65536
 ·have l:=Lib.bitLen_le8' (x / 256) (by omega) (by omega)
  have s:=Lib.bitLen_shift8 x.toNat (by omega) (by omega)
  have g0:0≤x / 256:=by omega
  have g1:x / 256≤255:=by omega
  have e:(x / 256).toNat=x.toNat / 256:=by omega
  rw[e] at l
  have E:=Lib.hid e
  have S:=Lib.hid s
  clear e s
  go_enter Tryz.func204,Tryz.ntmps204
  go_wp2
  go_ret
  refine⟨congrArg Ending.returned (congrArg (Value.int IntKind.i64) ?_),rfl⟩
  rw[Lib.len8_of (x / 256) g0 g1,E.out,S.out]
  unfold wrap64
  omega
 by_cases c3:x < 16777216
 ·have l:=Lib.bitLen_le8' (x / 65536) (by omega) (by omega)
  have s:=Lib.bitLen_shift16 x.toNat (by omega) (by omega)
  have g0:0≤x / 65536:=by omega
  have g1:x / 65536≤255:=by omega
  have e:(x / 65536).toNat=x.toNat / 65536:=by omega
  rw[e] at l
  have E:=Lib.hid e
  have S:=Lib.hid s
  clear e s
  go_enter Tryz.func204,Tryz.ntmps204
  go_wp2
  go_ret
  refine⟨congrArg Ending.returned (congrArg (Value.int IntKind.i64) ?_),rfl⟩
  rw[Lib.len8_of (x / 65536) g0 g1,E.out,S.out]
  unfold wrap64
  omega
 ·have l:=Lib.bitLen_le8' (x / 65536 / 256) (by omega) (by omega)
  have s:=Lib.bitLen_shift24 x.toNat (by omega) (by omega)
  have g0:0≤x / 65536 / 256:=by omega
  have g1:x / 65536 / 256≤255:=by omega
  have e:(x / 65536 / 256).toNat=x.toNat / 16777216:=by omega
  rw[e] at l
  have E:=Lib.hid e
  have S:=Lib.hid s
  clear e s
  go_enter Tryz.func204,Tryz.ntmps204
  go_wp2
  go_ret
  refine⟨congrArg Ending.returned (congrArg (Value.int IntKind.i64) ?_),rfl⟩
  rw[Lib.len8_of (x / 65536 / 256) g0 g1,E.out,S.out]
  unfold wrap64
  omega
theorem q5on(x:Int)(w:World)(h0:0≤x)(h1:x≤268435455) :
 Calls Tryz.prog 178 #[.int .u64 x] w fun e w'=>e = .returned (.int .i64 (Lib.bitLen x.toNat))∧w=w':=by
 go_enter Tryz.func178,Tryz.ntmps178
 go_wp2_with (go_at_call 204;refine(quym x _ h0 h1).mono ?_;rintro e w' ⟨rfl,rfl⟩)
 go_ret
 exact⟨rfl,rfl⟩
theorem qbdl(n:Nat)(h:n≤268435455):(max 1 (Lib.bitLen n)+6) / 7=sz n:=by
 have low:∀k,k≤63→2^k≤n→k < Lib.bitLen n:=fun k hk hn=>by
  have hpos:n / 2^k≠0:=by have:=Nat.div_pos hn (Nat.two_pow_pos k);omega
  have h64:n < 2^64:=by
   have:(268435455:Nat) < 2^64:=by decide
   omega
  rw[Lib.bitLen_shift k n hn h64,Lib.bitLen_half _ hpos (Nat.lt_of_le_of_lt (Nat.div_le_self _ _) h64)]
  omega
 rcases qnl4 n h with ⟨e,h1⟩ | ⟨e,h1,h2⟩ | ⟨e,h1,h2⟩ | ⟨e,h1⟩<;>rw[e]
 ·have:=Lib.bitLen_le n 7 (by decide) h1
  omega
 ·have:=Lib.bitLen_le n 14 (by decide) h2
  have:=low 7 (by decide) h1
  omega
 ·have:=Lib.bitLen_le n 21 (by decide) h2
  have:=low 14 (by decide) h1
  omega
 ·have:=Lib.bitLen_le n 28 (by decide) (by omega)
  have:=low 21 (by decide) h1
  omega
theorem ql84(n:Nat)(h:n≤268435455):(max 1 (Lib.bitLen n:Int)+7 - 1) / 7=sz n:=by
 rw[←qbdl n h]
 generalize Lib.bitLen n=b
 rcases Nat.le_total 1 b with h | h
 ·rw[Nat.max_eq_right h,Int.max_eq_right (by omega)];omega
 ·rw[Nat.max_eq_left h,Int.max_eq_left (by omega)];omega
theorem qk0d(n:Int)(w:World) :
 Calls Tryz.prog 149 #[.int .i64 n] w fun e w'=>e = .returned (.int .i64 (sz n))∧w=w':=by
 by_cases h1:n < 0
 ·rw[qbck.2 (.inl h1)]
  go_enter Tryz.func149,Tryz.ntmps149
  go_wp2
  go_ret
  exact⟨rfl,rfl⟩
 by_cases h2:268435455 < n
 ·rw[qbck.2 (.inr h2)]
  go_enter Tryz.func149,Tryz.ntmps149
  go_wp2
  go_ret
  exact⟨rfl,rfl⟩
 ·obtain⟨k,rfl⟩:=Int.eq_ofNat_of_zero_le (show 0≤n by omega)
  have e:=ql84 k (by omega)
  have b:=Lib.bitLen_le k 28 (by decide) (by omega)
  have E:=Lib.hid e
  clear e
  go_enter Tryz.func149,Tryz.ntmps149
  go_wp2_with (go_at_call 178;refine(q5on k _ (by omega) (by omega)).mono ?_;rintro e w' ⟨rfl,rfl⟩)
  go_ret
  exact⟨congrArg Ending.returned (congrArg (Value.int IntKind.i64) E.out),rfl⟩
theorem qb9o(m:Nat):bits .and .u8 ((m:Int)%256) 127=((m%128:Nat):Int):=by
 have h:=qbg0 (UInt8.ofNat m)
 rw[show(UInt8.ofNat m).toNat=m%256 by simp] at h
 rw[show(m:Int)%256=((m%256:Nat):Int) by omega,h]
 omega
theorem qurq(n k:Nat):bits .and .u8 ((n:Int) / 2^(7*k)%256) 127=((n / 128^k%128:Nat):Int):=by
 rw[←qb9o (n / 128^k)]
 congr 2
 rw[show(128:Nat)=2^7 by decide,←Nat.pow_mul]
 simp
theorem q56a(n c k:Nat):u8v (byt n c k) = .int .u8 ((n / 128^k%128+if k+1 < c then 128 else 0:Nat):Int):=by
 unfold u8v;rw[qa5k]
def vbn(n c k:Nat):List UInt8:=(List.range k).map (byt n c)
theorem q47p(n c k:Nat):vbn n c (k+1)=vbn n c k++[byt n c k]:=by simp[vbn,List.range_succ]
theorem quvo(n:Nat)(w:World)(hn:n≤268435455) :
 Calls Tryz.prog 106 #[.int .i64 n] w fun e w'=>e = .returned (.tuple #[.string (bs (vb n (sz n))),.int .i64 0])∧Below w.heap.size w w':=by
 obtain⟨i0,hi,hz0,hz1,hz2⟩:=info_parts qsz0
 have hsz:1≤sz n∧sz n≤4:=by have:=qnl4 n hn;omega
 have HZ:=Lib.hid (show ∀W,Calls Tryz.prog 149 #[.int .i64 n] W fun e w'=>e = .returned (.int .i64 (sz n))∧W=w' from qk0d n)
 generalize sz n=c at hsz HZ
 obtain⟨hc0,hc4⟩:=hsz
 have hce:((c:Int)==0)=false:=by simp;omega
 go_enter Tryz.func106,Tryz.ntmps106
 go_wp2_with (go_at_call 149;refine(HZ.out _).mono ?_;rintro e w' ⟨rfl,rfl⟩)
 go_loopw [5,13] (fun v i wr=>∃k:Nat,k≤c∧i = .int .i64 k∧wr.ownsRow w.heap.size 5 1 v k ((vbn n c k).map u8v)∧Below w.heap.size w wr) (fun _ i _=>c - (intOf i).toNat)
 case atStart=>exact⟨0,Nat.zero_le _,rfl,World.ownsRow_nil _ _ _ _,Below.refl _ _⟩
 case round=>
  obtain⟨k,hk,rfl,hown,hb⟩:=hrel
  by_cases hlt:k < c
  ·have hby:=q56a n c k
   have hsn:=q47p n c k
   have hand0:=qurq n k
   generalize hm:n / 128^k=m at hand0 hby
   have HM:=Lib.hid hm;clear hm
   have HS:=Lib.hid hsn;clear hsn
   have hbs:w.heap.size≤wr.heap.size:=hb.size
   have hm128:m%128 < 128:=Nat.mod_lt _ (by decide)
   by_cases hl:k+1 < c
   ·rw[if_pos hl] at hby
    have HB:=Lib.hid hby;clear hby
    have hor:=qoki (m%128) hm128
    generalize m%128=r at hand0 hor HB hm128
    have hgo:decide ((k:Int) < (c:Int) - 1)=true:=by simp;omega
    go_wp2_with (at_builtin;refine wpList_append_own _ rfl _ _ 58 rfl w.heap.size 5 i0 (.int .u8 0) 1 1 Tryz.underlying58 hi hz0 hz1 hz2 rfl (by decide) _ _ _ rfl (hown.alloc _) ⟨wr.heap.size,0,none⟩ 1 1 [.int .u8 ((r+128:Nat):Int)] rfl rfl ?c1 ?c2 ?c3 ?c4 ?c5 ?_)
    case c1=>intro j u hj;cases j<;>simp at hj;subst hj;exact World.cell?_alloc_at _ _ _ _ rfl
    case c2=>intro u hu;simp at hu;subst hu;rfl
    case c3=>unfold maxLen;omega
    case c4=>omega
    case c5=>simp;omega
    intro v' w1 hown' hgrow _
    have hb':Below w.heap.size w w1:=(hb.alloc hbs _).grown hgrow (by simp;omega) (fun j hj=>by have:=(hown.lt j hj).1;omega)
    have hown2:w1.ownsRow w.heap.size 5 1 v' (k+1) ((vbn n c (k+1)).map u8v):=by
     rw[HS.out,List.map_append,List.map_cons,List.map_nil,HB.out];simpa using hown'
    clear hown' hgrow HS HM HB hown hb hand0
    go_wp2
    go_roundw
    case rel=>exact⟨k+1,by omega,by go_num,hown2,hb'⟩
    case measure=>simp[intOf];omega
   ·rw[if_neg hl] at hby
    have HB:=Lib.hid hby;clear hby
    generalize m%128=r at hand0 HB hm128
    have hgo:decide ((k:Int) < (c:Int) - 1)=false:=by simp;omega
    go_wp2_with (at_builtin;refine wpList_append_own _ rfl _ _ 58 rfl w.heap.size 5 i0 (.int .u8 0) 1 1 Tryz.underlying58 hi hz0 hz1 hz2 rfl (by decide) _ _ _ rfl (hown.alloc _) ⟨wr.heap.size,0,none⟩ 1 1 [.int .u8 (r:Int)] rfl rfl ?c1 ?c2 ?c3 ?c4 ?c5 ?_)
    case c1=>intro j u hj;cases j<;>simp at hj;subst hj;exact World.cell?_alloc_at _ _ _ _ rfl
    case c2=>intro u hu;simp at hu;subst hu;rfl
    case c3=>unfold maxLen;omega
    case c4=>omega
    case c5=>simp;omega
    intro v' w1 hown' hgrow _
    have hb':Below w.heap.size w w1:=(hb.alloc hbs _).grown hgrow (by simp;omega) (fun j hj=>by have:=(hown.lt j hj).1;omega)
    have hown2:w1.ownsRow w.heap.size 5 1 v' (k+1) ((vbn n c (k+1)).map u8v):=by
     rw[HS.out,List.map_append,List.map_cons,List.map_nil,HB.out];simpa using hown'
    clear hown' hgrow HS HM HB hown hb hand0
    go_wp2
    go_roundw
    case rel=>exact⟨k+1,by omega,by go_num,hown2,hb'⟩
    case measure=>simp[intOf];omega
  ·obtain rfl:k=c:=by omega
   have hcv:=q3j9 _ hown
   go_wp2
   go_ret2
   exact⟨rfl,hb⟩
def qxoj(b v n st:Nat):Array Value:=#[.pointer (some ⟨b,0,none⟩),.int .i64 v,.int .i64 n,.int .i64 st]
def Rd(w:World)(b v n st:Nat):Prop:=w.heap[b]? = some (.cells (qxoj b v n st) 195 (0,0))
section
variable{w w':World}{b v n st:Nat}
theorem Rd.lt(h:Rd w b v n st):b < w.heap.size:=lt_of_block h
theorem Rd.cell(h:Rd w b v n st)(j:Nat):w.cell? ⟨b,j,none⟩=(qxoj b v n st)[j]? := cell_of_row w b j _ _ (0,0) h
theorem Rd.c0(h:Rd w b v n st):w.cell? ⟨b,0,none⟩=some (.pointer (some ⟨b,0,none⟩)):=h.cell 0
theorem Rd.c1(h:Rd w b v n st):w.cell? ⟨b,1,none⟩=some (.int .i64 v):=h.cell 1
theorem Rd.c2(h:Rd w b v n st):w.cell? ⟨b,2,none⟩=some (.int .i64 n):=h.cell 2
theorem Rd.c3(h:Rd w b v n st):w.cell? ⟨b,3,none⟩=some (.int .i64 st):=h.cell 3
theorem Rd.fr(h:Rd w b v n st)(j:Nat):w.frozen? ⟨b,j,none⟩=false:=by unfold Rd at h;simp[World.frozen?,h]
theorem Rd.draws(h:Rd w b v n st)(k:Nat):Rd (w.drewN k) b v n st:=h
theorem Rd.drew(h:Rd w b v n st):Rd w.drew b v n st:=h
theorem Rd.of_block(h:Rd w b v n st)(hb:w'.heap[b]? = w.heap[b]?):Rd w' b v n st:=hb.trans h
theorem Rd.val(h:Rd w b v n st)(u:Nat):Rd (w.setCell ⟨b,1,none⟩ (.int .i64 u)) b u n st:=qlvy h 1 _
end
theorem q5nr:(Tryz.prog.info? 29).map (·.size)=some 25:=by kernel_rfl
def pkZ:Array Value:=#[.int .i64 0,.bool false,.bool false,.int .i64 0,.int .i64 0,.string ⟨#[]⟩,.string ⟨#[]⟩,.bool false,.int .i64 0,.string ⟨#[]⟩,.bool false,.string ⟨#[]⟩,.bool false,.string ⟨#[]⟩,.bool false,.string ⟨#[]⟩,.string ⟨#[]⟩,.int .i64 0,.bool false,.slice none 0 0,.bool false,.int .i64 0,.slice none 0 0,.slice none 0 0,.slice none 0 0]
theorem qrai(W:World):(zeroValue 29).run Tryz.prog W = .ok (.agg pkZ) W:=by kernel_rfl
theorem qbwp:pkZ.size=25:=rfl
def adZ:Ad:=⟨none,0,none,0,none,0,none,0⟩
structure UsS(w:World)(p:Pk)(a:Ad)(x:Pk)(b:Ad)(W:World):Prop where
 low:Below w.heap.size w W
 box:W.heap[w.heap.size]? = some (.cells (pkC p a) 29 (0,0))
 res:W.heap[w.heap.size+1]? = some (.cells pkZ 29 (0,0))
 new:W.heap[w.heap.size+1+1]? = some (.cells (pkC x b) 29 (0,0))
section
variable{w W W':World}{p x:Pk}{a b:Ad}
theorem UsS.cell(h:UsS w p a x b W)(j:Nat):W.cell? ⟨w.heap.size,j,none⟩=(pkC p a)[j]? := cell_of_row _ _ j _ _ _ h.box
theorem UsS.ncell(h:UsS w p a x b W)(j:Nat):W.cell? ⟨w.heap.size+1+1,j,none⟩=(pkC x b)[j]? := cell_of_row _ _ j _ _ _ h.new
theorem UsS.fr(h:UsS w p a x b W)(j:Nat):W.frozen? ⟨w.heap.size+1+1,j,none⟩=false:=frozen_of_row _ _ _ _ _ h.new
theorem UsS.put(h:UsS w p a x b W)(j:Nat)(u:Value){x':Pk}{b':Ad}(he:(pkC x b).setIfInBounds j u=pkC x' b'):UsS w p a x' b' (W.setCell ⟨w.heap.size+1+1,j,none⟩ u):=
 ⟨h.low.setCell (by show _≤w.heap.size+1+1;omega) u,(heap_setCell_other W ⟨w.heap.size+1+1,j,none⟩ _ u (by show w.heap.size≠w.heap.size+1+1;omega)).trans h.box,(heap_setCell_other W ⟨w.heap.size+1+1,j,none⟩ _ u (by show w.heap.size+1≠w.heap.size+1+1;omega)).trans h.res,
  by have:=qlvy h.new j u;rw[he] at this;exact this⟩
theorem UsS.call(h:UsS w p a x b W)(hb:Below W.heap.size W W'):UsS w p a x b W':=
 ⟨qxh2 h.low hb,(hb.block _ (lt_of_block h.box)).trans h.box,(hb.block _ (lt_of_block h.res)).trans h.res,(hb.block _ (lt_of_block h.new)).trans h.new⟩
theorem UsS.drew(h:UsS w p a x b W):UsS w p a x b W.drew:=⟨h.low.drew,h.box,h.res,h.new⟩
end
end Go.Proofs.YtbecggefmbpnoaaGreatDoor
