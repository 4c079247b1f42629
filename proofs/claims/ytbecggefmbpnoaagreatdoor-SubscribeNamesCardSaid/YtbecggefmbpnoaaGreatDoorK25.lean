/- The contracts of varint's functions on numbers and bytes alone: next, Size. No condition. -/
import Derived.Lib.BitFns
import Derived.Lib.Walk
import Derived.StillTailTactics
import Derived.IntWalk
import Derived.Laws.ResultCell
import Derived.Test.YtbecggefmbpnoaaGreatDoorK02
import Derived.Test.YtbecggefmbpnoaaGreatDoorK03
import Derived.Test.YtbecggefmbpnoaaGreatDoorK15
import Derived.Test.YtbecggefmbpnoaaGreatDoorK06
set_option maxHeartbeats 1000000
set_option maxRecDepth 100000
namespace Go.Proofs.YtbecggefmbpnoaaGreatDoor
open Go.RowKit
theorem qm1s(b:UInt8):bits .and .u8 (b.toNat:Int) 128=if 128≤b.toNat then 128 else 0:=by
 have all:∀x:Fin 256,bits .and .u8 (x.val:Int) 128=if 128≤x.val then 128 else 0:=by decide+kernel
 exact all ⟨b.toNat,b.toNat_lt⟩
theorem qbg0(b:UInt8):bits .and .u8 (b.toNat:Int) 127=((b.toNat%128:Nat):Int):=by
 have all:∀x:Fin 256,bits .and .u8 (x.val:Int) 127=((x.val%128:Nat):Int):=by decide+kernel
 exact all ⟨b.toNat,b.toNat_lt⟩
theorem qoki(x:Nat)(h:x < 128):bits .or .u8 (x:Int) 128=((x+128:Nat):Int):=by
 have all:∀x:Fin 128,bits .or .u8 (x.val:Int) 128=((x.val+128:Nat):Int):=by decide+kernel
 exact all ⟨x,h⟩
theorem quym(x:Int)(w:World)(h0:0≤x)(h1:x≤268435455) :
 Calls Tryz.prog 204 #[.int .u64 x] w fun e w'=>e = .returned (.int .i64 (Lib.bitLen x.toNat))∧w=w':=by
 have h32:x < 4294967296:=by omega
 by_cases c1:x < 256
 ·have l:=Lib.bitLen_le8' x h0 (by omega)
  have g0:x≤255:=by omega
  go_enter Tryz.func204,Tryz.ntmps204
  go_wp2
  go_ret
  refine⟨congrArg Ending.returned (congrArg (Value.int IntKind.i64) ?_),rfl⟩
  rw[Lib.len8_of x h0 g0]
  unfold wrap64
  omega
 by_cases c2:x < 65536
 ·have l:=Lib.bitLen_le8' (x / 256) (by omega) (by omega)
  have s:=Lib.bitLen_shift8 x.toNat (by omega) (by omega)
  have g0:0≤x / 256:=by omega
  have g1:x / 256≤255:=by omega
  have e:(x / 256).toNat=x.toNat / 256:=by omega
  rw[e] at l
  have E:=Lib.hid e
  have S:=Lib.hid s
  clear e s
  go_enter Tryz.func204,Tryz.ntmps204
  go_wp2
  go_ret
  refine⟨congrArg Ending.returned (congrArg (Value.int IntKind.i64) ?_),rfl⟩
  rw[Lib.len8_of (x / 256) g0 g1,E.out,S.out]
  unfold wrap64
  omega
 by_cases c3:x < 16777216
 ·have l:=Lib.bitLen_le8' (x / 65536) (by omega) (by omega)
  have s:=Lib.bitLen_shift16 x.toNat (by omega) (by omega)
  have g0:0≤x / 65536:=by omega
  have g1:x / 65536≤255:=by omega
  have e:(x / 65536).toNat=x.toNat / 65536:=by omega
  rw[e] at l
  have E:=Lib.hid e
  have S:=Lib.hid s
  clear e s
  go_enter Tryz.func204,Tryz.ntmps204
  go_wp2
  go_ret
  refine⟨congrArg Ending.returned (congrArg (Value.int IntKind.i64) ?_),rfl⟩
  rw[Lib.len8_of (x / 65536) g0 g1,E.out,S.out]
  unfold wrap64
  omega
 ·have l:=Lib.bitLen_le8' (x / 65536 / 256) (by omega) (by omega)
  have s:=Lib.bitLen_shift24 x.toNat (by omega) (by omega)
  have g0:0≤x / 65536 / 256:=by omega
  have g1:x / 65536 / 256≤255:=by omega
  have e:(x / 65536 / 256).toNat=x.toNat / 16777216:=by omega
  rw[e] at l
  have E:=Lib.hid e
  have S:=Lib.hid s
  clear e s
  go_enter Tryz.func204,Tryz.ntmps204
  go_wp2
  go_ret
  refine⟨congrArg Ending.returned (congrArg (Value.int IntKind.i64) ?_),rfl⟩
  rw[Lib.len8_of (x / 65536 / 256) g0 g1,E.out,S.out]
  unfold wrap64
  omega
theorem q5on(x:Int)(w:World)(h0:0≤x)(h1:x≤268435455) :
 Calls Tryz.prog 178 #[.int .u64 x] w fun e w'=>e = .returned (.int .i64 (Lib.bitLen x.toNat))∧w=w':=by
 go_enter Tryz.func178,Tryz.ntmps178
 go_wp2_with (go_at_call 204;refine(quym x _ h0 h1).mono ?_;rintro e w' ⟨rfl,rfl⟩)
 go_ret
 exact⟨rfl,rfl⟩
theorem qbdl(n:Nat)(h:n≤268435455):(max 1 (Lib.bitLen n)+6) / 7=sz n:=by
 have low:∀k,k≤63→2^k≤n→k < Lib.bitLen n:=fun k hk hn=>by
  have hpos:n / 2^k≠0:=by have:=Nat.div_pos hn (Nat.two_pow_pos k);omega
  have h64:n < 2^64:=by
   have:(268435455:Nat) < 2^64:=by decide
   omega
  rw[Lib.bitLen_shift k n hn h64,Lib.bitLen_half _ hpos (Nat.lt_of_le_of_lt (Nat.div_le_self _ _) h64)]
  omega
 rcases qnl4 n h with ⟨e,h1⟩ | ⟨e,h1,h2⟩ | ⟨e,h1,h2⟩ | ⟨e,h1⟩<;>rw[e]
 ·have:=Lib.bitLen_le n 7 (by decide) h1
  omega
 ·have:=Lib.bitLen_le n 14 (by decide) h2
  have:=low 7 (by decide) h1
  omega
 ·have:=Lib.bitLen_le n 21 (by decide) h2
  have:=low 14 (by decide) h1
  omega
 ·have:=Lib.bitLen_le n 28 (by decide) (by omega)
  have:=low 21 (by decide) h1
  omega
theorem ql84(n:Nat)(h:n≤268435455):(max 1 (Lib.bitLen n:Int)+7 - 1) / 7=sz n:=by
 rw[←qbdl n h]
 generalize Lib.bitLen n=b
 rcases Nat.le_total 1 b with h | h
 ·rw[Nat.max_eq_right h,Int.max_eq_right (by omega)];omega
 ·rw[Nat.max_eq_left h,Int.max_eq_left (by omega)];omega
theorem qk0d(n:Int)(w:World) :
 Calls Tryz.prog 149 #[.int .i64 n] w fun e w'=>e = .returned (.int .i64 (sz n))∧w=w':=by
 by_cases h1:n < 0
 ·rw[qbck.2 (.inl h1)]
  go_enter Tryz.func149,Tryz.ntmps149
  go_wp2
  go_ret
  exact⟨rfl,rfl⟩
 by_cases h2:268435455 < n
 ·rw[qbck.2 (.inr h2)]
  go_enter Tryz.func149,Tryz.ntmps149
  go_wp2
  go_ret
  exact⟨rfl,rfl⟩
 ·obtain⟨k,rfl⟩:=Int.eq_ofNat_of_zero_le (show 0≤n by omega)
  have e:=ql84 k (by omega)
  have b:=Lib.bitLen_le k 28 (by decide) (by omega)
  have E:=Lib.hid e
  clear e
  go_enter Tryz.func149,Tryz.ntmps149
  go_wp2_with (go_at_call 178;refine(q5on k _ (by omega) (by omega)).mono ?_;rintro e w' ⟨rfl,rfl⟩)
  go_ret
  exact⟨congrArg Ending.returned (congrArg (Value.int IntKind.i64) E.out),rfl⟩
theorem qb9o(m:Nat):bits .and .u8 ((m:Int)%256) 127=((m%128:Nat):Int):=by
 have h:=qbg0 (UInt8.ofNat m)
 rw[show(UInt8.ofNat m).toNat=m%256 by simp] at h
 rw[show(m:Int)%256=((m%256:Nat):Int) by omega,h]
 omega
theorem qurq(n k:Nat):bits .and .u8 ((n:Int) / 2^(7*k)%256) 127=((n / 128^k%128:Nat):Int):=by
 rw[←qb9o (n / 128^k)]
 congr 2
 rw[show(128:Nat)=2^7 by decide,←Nat.pow_mul]
 simp
theorem q56a(n c k:Nat):u8v (byt n c k) = .int .u8 ((n / 128^k%128+if k+1 < c then 128 else 0:Nat):Int):=by
 unfold u8v;rw[qa5k]
def vbn(n c k:Nat):List UInt8:=(List.range k).map (byt n c)
theorem q47p(n c k:Nat):vbn n c (k+1)=vbn n c k++[byt n c k]:=by simp[vbn,List.range_succ]
theorem quvo(n:Nat)(w:World)(hn:n≤268435455) :
 Calls Tryz.prog 106 #[.int .i64 n] w fun e w'=>e = .returned (.tuple #[.string (bs (vb n (sz n))),.int .i64 0])∧Below w.heap.size w w':=by
 obtain⟨i0,hi,hz0,hz1,hz2⟩:=info_parts qsz0
 have hsz:1≤sz n∧sz n≤4:=by have:=qnl4 n hn;omega
 have HZ:=Lib.hid (show ∀W,Calls Tryz.prog 149 #[.int .i64 n] W fun e w'=>e = .returned (.int .i64 (sz n))∧W=w' from qk0d n)
 generalize sz n=c at hsz HZ
 obtain⟨hc0,hc4⟩:=hsz
 have hce:((c:Int)==0)=false:=by simp;omega
 go_enter Tryz.func106,Tryz.ntmps106
 go_wp2_with (go_at_call 149;refine(HZ.out _).mono ?_;rintro e w' ⟨rfl,rfl⟩)
 go_loopw [5,13] (fun v i wr=>∃k:Nat,k≤c∧i = .int .i64 k∧wr.ownsRow w.heap.size 5 1 v k ((vbn n c k).map u8v)∧Below w.heap.size w wr) (fun _ i _=>c - (intOf i).toNat)
 case atStart=>exact⟨0,Nat.zero_le _,rfl,World.ownsRow_nil _ _ _ _,Below.refl _ _⟩
 case round=>
  obtain⟨k,hk,rfl,hown,hb⟩:=hrel
  by_cases hlt:k < c
  ·have hby:=q56a n c k
   have hsn:=q47p n c k
   have hand0:=qurq n k
   generalize hm:n / 128^k=m at hand0 hby
   have HM:=Lib.hid hm;clear hm
   have HS:=Lib.hid hsn;clear hsn
   have hbs:w.heap.size≤wr.heap.size:=hb.size
   have hm128:m%128 < 128:=Nat.mod_lt _ (by decide)
   by_cases hl:k+1 < c
   ·rw[if_pos hl] at hby
    have HB:=Lib.hid hby;clear hby
    have hor:=qoki (m%128) hm128
    generalize m%128=r at hand0 hor HB hm128
    have hgo:decide ((k:Int) < (c:Int) - 1)=true:=by simp;omega
    go_wp2_with (at_builtin;refine wpList_append_own _ rfl _ _ 58 rfl w.heap.size 5 i0 (.int .u8 0) 1 1 Tryz.underlying58 hi hz0 hz1 hz2 rfl (by decide) _ _ _ rfl (hown.alloc _) ⟨wr.heap.size,0,none⟩ 1 1 [.int .u8 ((r+128:Nat):Int)] rfl rfl ?c1 ?c2 ?c3 ?c4 ?c5 ?_)
    case c1=>intro j u hj;cases j<;>simp at hj;subst hj;exact World.cell?_alloc_at _ _ _ _ rfl
    case c2=>intro u hu;simp at hu;subst hu;rfl
    case c3=>unfold maxLen;omega
    case c4=>omega
    case c5=>simp;omega
    intro v' w1 hown' hgrow _
    have hb':Below w.heap.size w w1:=(hb.alloc hbs _).grown hgrow (by simp;omega) (fun j hj=>by have:=(hown.lt j hj).1;omega)
    have hown2:w1.ownsRow w.heap.size 5 1 v' (k+1) ((vbn n c (k+1)).map u8v):=by
     rw[HS.out,List.map_append,List.map_cons,List.map_nil,HB.out];simpa using hown'
    clear hown' hgrow HS HM HB hown hb hand0
    go_wp2
    go_roundw
    case rel=>exact⟨k+1,by omega,by go_num,hown2,hb'⟩
    case measure=>simp[intOf];omega
   ·rw[if_neg hl] at hby
    have HB:=Lib.hid hby;clear hby
    generalize m%128=r at hand0 HB hm128
    have hgo:decide ((k:Int) < (c:Int) - 1)=false:=by simp;omega
    go_wp2_with (at_builtin;refine wpList_append_own _ rfl _ _ 58 rfl w.heap.size 5 i0 (.int .u8 0) 1 1 Tryz.underlying58 hi hz0 hz1 hz2 rfl (by decide) _ _ _ rfl (hown.alloc _) ⟨wr.heap.size,0,none⟩ 1 1 [.int .u8 (r:Int)] rfl rfl ?c1 ?c2 ?c3 ?c4 ?c5 ?_)
    case c1=>intro j u hj;cases j<;>simp at hj;subst hj;exact World.cell?_alloc_at _ _ _ _ rfl
    case c2=>intro u hu;simp at hu;subst hu;rfl
    case c3=>unfold maxLen;omega
    case c4=>omega
    case c5=>simp;omega
    intro v' w1 hown' hgrow _
    have hb':Below w.heap.size w w1:=(hb.alloc hbs _).grown hgrow (by simp;omega) (fun j hj=>by have:=(hown.lt j hj).1;omega)
    have hown2:w1.ownsRow w.heap.size 5 1 v' (k+1) ((vbn n c (k+1)).map u8v):=by
     rw[HS.out,List.map_append,List.map_cons,List.map_nil,HB.out];simpa using hown'
    clear hown' hgrow HS HM HB hown hb hand0
    go_wp2
    go_roundw
    case rel=>exact⟨k+1,by omega,by go_num,hown2,hb'⟩
    case measure=>simp[intOf];omega
  ·obtain rfl:k=c:=by omega
   have hcv:=q3j9 _ hown
   go_wp2
   go_ret2
   exact⟨rfl,hb⟩
theorem qnz1(b:UInt8)(n:Nat)(w:World) :
 Calls Tryz.prog 209 #[.int .u8 b.toNat,.int .i64 n] w fun e w'=>e = .returned (.int .i64 (nxt b n))∧w=w':=by
 have hb:=b.toNat_lt
 have ha:=qm1s b
 by_cases h1:128≤b.toNat
 ·rw[if_pos h1] at ha
  by_cases h2:n=4
  ·subst h2
   have e:nxt b 4=2:=qt6b.2 (.inl ⟨h1,rfl⟩)
   rw[e];clear e
   go_enter Tryz.func209,Tryz.ntmps209
   go_wp2
   go_ret
   exact⟨rfl,rfl⟩
  ·have e:nxt b n=0:=qv8z.2 ⟨h1,h2⟩
   rw[e];clear e
   have h3:((n:Int)==4)=false:=by simp;omega
   go_enter Tryz.func209,Tryz.ntmps209
   go_wp2
   go_ret
   exact⟨rfl,rfl⟩
 ·rw[if_neg h1] at ha
  by_cases h2:b.toNat=0
  ·by_cases h3:1 < n
   ·have e:nxt b n=2:=qt6b.2 (.inr ⟨h2,h3⟩)
    rw[e];clear e
    rw[h2] at ha
    rw[h2]
    have h4:decide ((1:Int) < (n:Int))=true:=by simp;omega
    go_enter Tryz.func209,Tryz.ntmps209
    go_wp2
    go_ret
    exact⟨rfl,rfl⟩
   ·have e:nxt b n=1:=qicf.2 ⟨by omega,.inr (by omega)⟩
    rw[e];clear e
    rw[h2] at ha
    rw[h2]
    have h4:decide ((1:Int) < (n:Int))=false:=by simp;omega
    go_enter Tryz.func209,Tryz.ntmps209
    go_wp2
    go_ret
    exact⟨rfl,rfl⟩
  ·have e:nxt b n=1:=qicf.2 ⟨by omega,.inl (by omega)⟩
   rw[e];clear e
   have h4:((b.toNat:Int)==0)=false:=by simp;omega
   go_enter Tryz.func209,Tryz.ntmps209
   go_wp2
   go_ret
   exact⟨rfl,rfl⟩
def qxoj(b v n st:Nat):Array Value:=#[.pointer (some ⟨b,0,none⟩),.int .i64 v,.int .i64 n,.int .i64 st]
def Rd(w:World)(b v n st:Nat):Prop:=w.heap[b]? = some (.cells (qxoj b v n st) 195 (0,0))
section
variable{w w':World}{b v n st:Nat}
theorem Rd.lt(h:Rd w b v n st):b < w.heap.size:=lt_of_block h
theorem Rd.cell(h:Rd w b v n st)(j:Nat):w.cell? ⟨b,j,none⟩=(qxoj b v n st)[j]? := cell_of_row w b j _ _ (0,0) h
theorem Rd.c0(h:Rd w b v n st):w.cell? ⟨b,0,none⟩=some (.pointer (some ⟨b,0,none⟩)):=h.cell 0
theorem Rd.c1(h:Rd w b v n st):w.cell? ⟨b,1,none⟩=some (.int .i64 v):=h.cell 1
theorem Rd.c2(h:Rd w b v n st):w.cell? ⟨b,2,none⟩=some (.int .i64 n):=h.cell 2
theorem Rd.c3(h:Rd w b v n st):w.cell? ⟨b,3,none⟩=some (.int .i64 st):=h.cell 3
theorem Rd.fr(h:Rd w b v n st)(j:Nat):w.frozen? ⟨b,j,none⟩=false:=by unfold Rd at h;simp[World.frozen?,h]
theorem Rd.draws(h:Rd w b v n st)(k:Nat):Rd (w.drewN k) b v n st:=h
theorem Rd.drew(h:Rd w b v n st):Rd w.drew b v n st:=h
theorem Rd.of_block(h:Rd w b v n st)(hb:w'.heap[b]? = w.heap[b]?):Rd w' b v n st:=hb.trans h
theorem Rd.val(h:Rd w b v n st)(u:Nat):Rd (w.setCell ⟨b,1,none⟩ (.int .i64 u)) b u n st:=qlvy h 1 _
theorem Rd.siz(h:Rd w b v n st)(u:Nat):Rd (w.setCell ⟨b,2,none⟩ (.int .i64 u)) b v u st:=qlvy h 2 _
theorem Rd.sta(h:Rd w b v n st)(u:Nat):Rd (w.setCell ⟨b,3,none⟩ (.int .i64 u)) b v n u:=qlvy h 3 _
end
theorem qp2k:∃j,Tryz.prog.info? 195=some j:=Option.isSome_iff_exists.1 (by kernel_rfl)
theorem quhv{w:World}{b v n st:Nat}(hc:Rd w b v n st) :
 Calls Tryz.prog 208 #[.pointer (some ⟨b,0,none⟩)] w fun e w'=>e = .returned (.bool true)∧w=w':=by
 obtain⟨j,hj⟩:=qp2k
 have heq:=fun W:World=>run_eql_ptr_same (P:=Tryz.prog) W ⟨b,0,none⟩ Tryz.underlying189 hj
 have h0:=hc.c0
 clear hj
 go_enter Tryz.func208,Tryz.ntmps208
 go_wp2
 go_ret
 exact⟨rfl,rfl⟩
theorem qz5z(w:World) :
 Calls Tryz.prog 182 #[] w fun e w'=>e = .returned (.pointer (some ⟨w.heap.size,0,none⟩))∧Rd w' w.heap.size 0 0 0∧Below w.heap.size w w':=by
 go_enter Tryz.func182,Tryz.ntmps182
 go_wp2
 go_ret
 exact⟨rfl,heap_alloc_new w _,(Below.refl _ _).alloc (Nat.le_refl _) _⟩
theorem qh0o(v n:Nat)(x:UInt8)(hv:v < 128^n)(hn:n < 4):bits .or .i64 (v:Int) (IntKind.i64.wrap ((x.toNat:Int)%128*2^(7*(n:Int)).toNat))=((grow v n x:Nat):Int):=by
 have e1:(7*(n:Int)).toNat=7*n:=by omega
 have e128:(128:Nat)^n=2^(7*n):=by rw[Nat.pow_mul]
 have hp:(2:Nat)^(7*n)≤2^21:=Nat.pow_le_pow_right (by decide) (by omega)
 have hx:x.toNat%128≤127:=by omega
 have hm:x.toNat%128*2^(7*n)≤127*2^21:=Nat.mul_le_mul hx hp
 have e2:(x.toNat:Int)%128*2^(7*n)=((x.toNat%128*2^(7*n):Nat):Int):=by simp
 unfold grow
 rw[e128] at hv ⊢
 rw[e1,e2,IntWalk.i64_in _ (by omega)]
 rw[(bits_nat .i64 28 (by decide) (fun m h0 h1=>IntWalk.i64_in _ (by omega)) v (x.toNat%128*2^(7*n)) (by omega) (by omega)).2]
 congr 1
 rw[Nat.or_comm,Nat.mul_comm,←Nat.two_pow_add_eq_or_of_lt hv (x.toNat%128)]
 omega
theorem qh0d{w:World}{b v n:Nat}(x:UInt8)(hc:Rd w b v n 0)(hv:v < 128^n)(hn:n < 4)(hx:nxt x (n+1)=0) :
 Calls Tryz.prog 183 #[.pointer (some ⟨b,0,none⟩),.int .u8 x.toNat] w fun e w'=>e = .returned (.tuple #[.bool false,.int .i64 0])∧Rd w' b (grow v n x) (n+1) 0∧w.grownBy w' (some b):=by
 have h1:=hc.c1
 have h2:=hc.c2
 have h3:=hc.c3
 have f1:=hc.fr 1
 have f2:=hc.fr 2
 have f3:=hc.fr 3
 have ha:=qbg0 x
 have e1:IntKind.i64.wrap ((x.toNat:Int)%128)=(x.toNat:Int)%128:=IntWalk.i64_in _ (by omega)
 have e2:IntKind.i64.wrap (7*(n:Int))=7*(n:Int):=IntWalk.i64_in _ (by omega)
 have e3:(0:Int)≤7*(n:Int):=by omega
 have e4:=qh0o v n x hv hn
 have NX:=Lib.hid (show ∀W,Calls Tryz.prog 209 #[.int .u8 x.toNat,.int .i64 ((n:Int)+1)] W fun e w'=>e = .returned (.int .i64 0)∧W=w' from fun W=>by
  have h:=qnz1 x (n+1) W
  rw[hx] at h
  exact h)
 clear hx
 generalize grow v n x=u at e4
 go_enter Tryz.func183,Tryz.ntmps183
 go_wp2_with (go_at_call 208;refine(quhv hc).mono ?_;rintro e' w' ⟨rfl,rfl⟩)
 go_still_tail 16,(by kernel_rfl)
 change wpList _ _ _ _ _ w.drew
 have hd:Rd w.drew b v n 0:=hc.drew
 have hg:w.grownBy w.drew (some b):=⟨rfl,rfl,rfl,Nat.le_refl _,fun _ _ _=>rfl⟩
 generalize w.drew=W at hd hg
 clear h1 h2 h3 f1 f2 f3
 have h1:=hd.c1
 have h2:=hd.c2
 have h3:=hd.c3
 have f1:=hd.fr 1
 have f2:=hd.fr 2
 have f3:=hd.fr 3
 go_wp2_with (go_at_call 209;refine(NX.out _).mono ?_;rintro e' w' ⟨rfl,rfl⟩)
 go_ret2
 exact⟨rfl,((hd.val u).siz (n+1)).sta 0,qo6d hg (qo6d (qo6d (q99v _ _ _ _) (q99v _ _ _ _)) (q99v _ _ _ _))⟩
theorem qhre{w:World}{b v n:Nat}(x:UInt8)(hc:Rd w b v n 0)(hv:v < 128^n)(hn:n < 4)(hx:nxt x (n+1)=1) :
 Calls Tryz.prog 183 #[.pointer (some ⟨b,0,none⟩),.int .u8 x.toNat] w fun e w'=>e = .returned (.tuple #[.bool true,.int .i64 0])∧Rd w' b (grow v n x) (n+1) 1∧w.grownBy w' (some b):=by
 have h1:=hc.c1
 have h2:=hc.c2
 have h3:=hc.c3
 have f1:=hc.fr 1
 have f2:=hc.fr 2
 have f3:=hc.fr 3
 have ha:=qbg0 x
 have e1:IntKind.i64.wrap ((x.toNat:Int)%128)=(x.toNat:Int)%128:=IntWalk.i64_in _ (by omega)
 have e2:IntKind.i64.wrap (7*(n:Int))=7*(n:Int):=IntWalk.i64_in _ (by omega)
 have e3:(0:Int)≤7*(n:Int):=by omega
 have e4:=qh0o v n x hv hn
 have NX:=Lib.hid (show ∀W,Calls Tryz.prog 209 #[.int .u8 x.toNat,.int .i64 ((n:Int)+1)] W fun e w'=>e = .returned (.int .i64 1)∧W=w' from fun W=>by
  have h:=qnz1 x (n+1) W
  rw[hx] at h
  exact h)
 clear hx
 generalize grow v n x=u at e4
 go_enter Tryz.func183,Tryz.ntmps183
 go_wp2_with (go_at_call 208;refine(quhv hc).mono ?_;rintro e' w' ⟨rfl,rfl⟩)
 go_still_tail 16,(by kernel_rfl)
 change wpList _ _ _ _ _ w.drew
 have hd:Rd w.drew b v n 0:=hc.drew
 have hg:w.grownBy w.drew (some b):=⟨rfl,rfl,rfl,Nat.le_refl _,fun _ _ _=>rfl⟩
 generalize w.drew=W at hd hg
 clear h1 h2 h3 f1 f2 f3
 have h1:=hd.c1
 have h2:=hd.c2
 have h3:=hd.c3
 have f1:=hd.fr 1
 have f2:=hd.fr 2
 have f3:=hd.fr 3
 go_wp2_with (go_at_call 209;refine(NX.out _).mono ?_;rintro e' w' ⟨rfl,rfl⟩)
 go_ret2
 exact⟨rfl,((hd.val u).siz (n+1)).sta 1,qo6d hg (qo6d (qo6d (q99v _ _ _ _) (q99v _ _ _ _)) (q99v _ _ _ _))⟩
theorem qdxq{w:World}{b v n:Nat}(x:UInt8)(hc:Rd w b v n 0)(hv:v < 128^n)(hn:n < 4)(hx:nxt x (n+1)=2) :
 Calls Tryz.prog 183 #[.pointer (some ⟨b,0,none⟩),.int .u8 x.toNat] w fun e w'=>e = .returned (.tuple #[.bool false,.int .i64 5])∧Rd w' b (grow v n x) (n+1) 2∧w.grownBy w' (some b):=by
 have h1:=hc.c1
 have h2:=hc.c2
 have h3:=hc.c3
 have f1:=hc.fr 1
 have f2:=hc.fr 2
 have f3:=hc.fr 3
 have ha:=qbg0 x
 have e1:IntKind.i64.wrap ((x.toNat:Int)%128)=(x.toNat:Int)%128:=IntWalk.i64_in _ (by omega)
 have e2:IntKind.i64.wrap (7*(n:Int))=7*(n:Int):=IntWalk.i64_in _ (by omega)
 have e3:(0:Int)≤7*(n:Int):=by omega
 have e4:=qh0o v n x hv hn
 have NX:=Lib.hid (show ∀W,Calls Tryz.prog 209 #[.int .u8 x.toNat,.int .i64 ((n:Int)+1)] W fun e w'=>e = .returned (.int .i64 2)∧W=w' from fun W=>by
  have h:=qnz1 x (n+1) W
  rw[hx] at h
  exact h)
 clear hx
 generalize grow v n x=u at e4
 go_enter Tryz.func183,Tryz.ntmps183
 go_wp2_with (go_at_call 208;refine(quhv hc).mono ?_;rintro e' w' ⟨rfl,rfl⟩)
 go_still_tail 16,(by kernel_rfl)
 change wpList _ _ _ _ _ w.drew
 have hd:Rd w.drew b v n 0:=hc.drew
 have hg:w.grownBy w.drew (some b):=⟨rfl,rfl,rfl,Nat.le_refl _,fun _ _ _=>rfl⟩
 generalize w.drew=W at hd hg
 clear h1 h2 h3 f1 f2 f3
 have h1:=hd.c1
 have h2:=hd.c2
 have h3:=hd.c3
 have f1:=hd.fr 1
 have f2:=hd.fr 2
 have f3:=hd.fr 3
 go_wp2_with (go_at_call 209;refine(NX.out _).mono ?_;rintro e' w' ⟨rfl,rfl⟩)
 go_ret2
 exact⟨rfl,((hd.val u).siz (n+1)).sta 2,qo6d hg (qo6d (qo6d (q99v _ _ _ _) (q99v _ _ _ _)) (q99v _ _ _ _))⟩
theorem qe0g(s:ByteArray)(k:Nat)(h:k < s.size):s.data.toList.drop k=s[k]::s.data.toList.drop (k+1):=by
 rw[List.drop_eq_getElem_cons (by simpa using h)];rfl
theorem qhwc(s:ByteArray):s.data.toList.drop s.size=[]:=List.drop_of_length_le (by simp)
def q51h(l:List UInt8):Ending := .returned (.tuple #[.int .i64 (rdV l),.int .i64 (rdN l),.int .i64 (rdE l)])
theorem qxud{l:List UInt8}{v n st:Nat}{a b c:Int}(h:run 0 0 l=(v,n,st))(ha:((if st=1 then v else 0:Nat):Int)=a)(hb:((if st=1 then n else 0:Nat):Int)=b)
 (hc:((if st=0 then 3 else if st=1 then 0 else 5:Nat):Int)=c):Ending.returned (.tuple #[.int .i64 a,.int .i64 b,.int .i64 c])=q51h l:=by
 obtain⟨h1,h2,h3⟩:=qa1w h
 rw[←ha,←hb,←hc,←h1,←h2,←h3];rfl
def qxfh(l:List UInt8)(w:World)(e:Ending)(w':World):Prop:=e=q51h l∧Below w.heap.size w w'
def q905(w:World)(l:List UInt8)(k:Nat)(wr:World):Prop:=∃v,k < 4∧v < 128^k∧Rd wr w.heap.size v k 0∧Below w.heap.size w wr∧run 0 0 l=run v k (l.drop k)
theorem q58y{w wr w1:World}(hb:Below w.heap.size w wr)(hg:wr.grownBy w1 (some w.heap.size)):Below w.heap.size w w1:=
 hb.grown hg hb.size (fun k hk=>by cases hk;exact Nat.le_refl _)
theorem q6w6(s:ByteArray)(w:World)(_hm:s.size≤9223372036854775807) :
 Calls Tryz.prog 155 #[.string s] w (qxfh s.data.toList w):=by
 go_enter Tryz.func155,Tryz.ntmps155
 go_wp2_with fail
 refine(qz5z _).mono ?_
 rintro e w1 ⟨rfl,hr,hb⟩
 have H:=Lib.hid (show q905 w s.data.toList 0 w1 from⟨0,by decide,by decide,hr,hb,rfl⟩)
 clear hr hb
 go_wp2_with fail
 go_loopw [12] (fun i wr=>∃k:Nat,k≤s.size∧i = .int .i64 k∧q905 w s.data.toList k wr) (fun i _=>s.size - (intOf i).toNat)
 case atStart=>exact⟨0,Nat.zero_le _,rfl,H.out⟩
 case round=>
  obtain⟨k,hk,rfl,v,hk4,hv,hr,hb,hrun⟩:=hrel
  clear H
  by_cases hlt:k < s.size
  ·have hd:=qe0g s k hlt
   have RUN:=Lib.hid hrun
   have D:=Lib.hid hd
   clear hrun hd
   rcases qlf0 s[k] (k+1) with hx | hx | hx
   ·have NX:=Lib.hid hx
    clear hx
    go_wp2_with fail
    refine(qh0d s[k] hr hv hk4 NX.out).mono ?_
    rintro e w2 ⟨rfl,hr2,hg⟩
    have hb2:=q58y hb hg
    go_wp2_with fail
    go_roundw
    case rel=>
     have h4:=(qv8z.1 NX.out).2
     refine⟨k+1,by omega,by go_num,_,by omega,qpfr _ hv,hr2,hb2,?_⟩
     rw[RUN.out,D.out,qomx _ NX.out]
    case measure=>simp[intOf];omega
   ·have NX:=Lib.hid hx
    clear hx
    go_wp2_with fail
    refine(qhre s[k] hr hv hk4 NX.out).mono ?_
    rintro e w2 ⟨rfl,hr2,hg⟩
    have hb2:=q58y hb hg
    have RR:=Lib.hid (qxud (l:=s.data.toList) (v:=grow v k s[k]) (n:=k+1) (st:=1) (by rw[RUN.out,D.out,q408 _ (by rw[NX.out];decide),NX.out]) rfl rfl rfl)
    have h1:=hr2.c1
    have h2:=hr2.c2
    go_wp2_with fail
    go_quiet (fail)
    go_wp2
    go_ret3
    exact⟨RR.out,qnpu hb2 _⟩
   ·have NX:=Lib.hid hx
    clear hx
    go_wp2_with fail
    refine(qdxq s[k] hr hv hk4 NX.out).mono ?_
    rintro e w2 ⟨rfl,hr2,hg⟩
    have hb2:=q58y hb hg
    have RR:=Lib.hid (qxud (l:=s.data.toList) (v:=grow v k s[k]) (n:=k+1) (st:=2) (by rw[RUN.out,D.out,q408 _ (by rw[NX.out];decide),NX.out]) rfl rfl rfl)
    go_wp2_with fail
    go_ret3
    exact⟨RR.out,hb2⟩
  ·obtain rfl:k=s.size:=by omega
   have RR:=Lib.hid (qxud (l:=s.data.toList) (v:=v) (n:=s.size) (st:=0) (by rw[hrun,qhwc];rfl) rfl rfl rfl)
   clear hrun
   go_wp2
   go_ret3
   exact⟨RR.out,hb⟩
theorem q5nr:(Tryz.prog.info? 29).map (·.size)=some 25:=by kernel_rfl
def pkZ:Array Value:=#[.int .i64 0,.bool false,.bool false,.int .i64 0,.int .i64 0,.string ⟨#[]⟩,.string ⟨#[]⟩,.bool false,.int .i64 0,.string ⟨#[]⟩,.bool false,.string ⟨#[]⟩,.bool false,.string ⟨#[]⟩,.bool false,.string ⟨#[]⟩,.string ⟨#[]⟩,.int .i64 0,.bool false,.slice none 0 0,.bool false,.int .i64 0,.slice none 0 0,.slice none 0 0,.slice none 0 0]
theorem qrai(W:World):(zeroValue 29).run Tryz.prog W = .ok (.agg pkZ) W:=by kernel_rfl
theorem qbwp:pkZ.size=25:=rfl
def adZ:Ad:=⟨none,0,none,0,none,0,none,0⟩
structure UsS(w:World)(p:Pk)(a:Ad)(x:Pk)(b:Ad)(W:World):Prop where
 low:Below w.heap.size w W
 box:W.heap[w.heap.size]? = some (.cells (pkC p a) 29 (0,0))
 res:W.heap[w.heap.size+1]? = some (.cells pkZ 29 (0,0))
 new:W.heap[w.heap.size+1+1]? = some (.cells (pkC x b) 29 (0,0))
section
variable{w W W':World}{p x:Pk}{a b:Ad}
theorem UsS.cell(h:UsS w p a x b W)(j:Nat):W.cell? ⟨w.heap.size,j,none⟩=(pkC p a)[j]? := cell_of_row _ _ j _ _ _ h.box
theorem UsS.ncell(h:UsS w p a x b W)(j:Nat):W.cell? ⟨w.heap.size+1+1,j,none⟩=(pkC x b)[j]? := cell_of_row _ _ j _ _ _ h.new
theorem UsS.fr(h:UsS w p a x b W)(j:Nat):W.frozen? ⟨w.heap.size+1+1,j,none⟩=false:=frozen_of_row _ _ _ _ _ h.new
theorem UsS.put(h:UsS w p a x b W)(j:Nat)(u:Value){x':Pk}{b':Ad}(he:(pkC x b).setIfInBounds j u=pkC x' b'):UsS w p a x' b' (W.setCell ⟨w.heap.size+1+1,j,none⟩ u):=
 ⟨h.low.setCell (by show _≤w.heap.size+1+1;omega) u,(heap_setCell_other W ⟨w.heap.size+1+1,j,none⟩ _ u (by show w.heap.size≠w.heap.size+1+1;omega)).trans h.box,(heap_setCell_other W ⟨w.heap.size+1+1,j,none⟩ _ u (by show w.heap.size+1≠w.heap.size+1+1;omega)).trans h.res,
  by have:=qlvy h.new j u;rw[he] at this;exact this⟩
theorem UsS.call(h:UsS w p a x b W)(hb:Below W.heap.size W W'):UsS w p a x b W':=
 ⟨qxh2 h.low hb,(hb.block _ (lt_of_block h.box)).trans h.box,(hb.block _ (lt_of_block h.res)).trans h.res,(hb.block _ (lt_of_block h.new)).trans h.new⟩
theorem UsS.drew(h:UsS w p a x b W):UsS w p a x b W.drew:=⟨h.low.drew,h.box,h.res,h.new⟩
end
end Go.Proofs.YtbecggefmbpnoaaGreatDoor
