/- The contracts of varint's functions on numbers and bytes alone: next, Size. No condition. -/
import Derived.Lib.BitFns
import Derived.Lib.Walk
import Derived.Test.YtbklidpadffpgaaK02
import Derived.Test.YtbklidpadffpgaaK08
set_option maxHeartbeats 1000000
set_option maxRecDepth 100000
namespace Go.Proofs.Ytbklidpadffpgaa
open Go.RowKit
theorem qbg0(b:UInt8):bits .and .u8 (b.toNat:Int) 127=((b.toNat%128:Nat):Int):=by
 have all:∀x:Fin 256,bits .and .u8 (x.val:Int) 127=((x.val%128:Nat):Int):=by decide+kernel
 exact all ⟨b.toNat,b.toNat_lt⟩
theorem qoki(x:Nat)(h:x < 128):bits .or .u8 (x:Int) 128=((x+128:Nat):Int):=by
 have all:∀x:Fin 128,bits .or .u8 (x.val:Int) 128=((x.val+128:Nat):Int):=by decide+kernel
 exact all ⟨x,h⟩
theorem quym(x:Int)(w:World)(h0:0≤x)(h1:x≤268435455) :
 Calls Try.prog 74 #[.int .u64 x] w fun e w'=>e = .returned (.int .i64 (Lib.bitLen x.toNat))∧w=w':=by
 have h32:x < 4294967296:=by omega
 by_cases c1:x < 256
 ·have l:=Lib.bitLen_le8' x h0 (by omega)
  have g0:x≤255:=by omega
  go_enter Try.func74,Try.ntmps74
  go_wp2
  go_ret
  refine⟨congrArg Ending.returned (congrArg (Value.int IntKind.i64) ?_),rfl⟩
  rw[Lib.len8_of x h0 g0]
  unfold wrap64
  omega
 by_cases c2:x < 65536
 ·have l:=Lib.bitLen_le8' (x / 256) (by omega) (by omega)
  have s:=Lib.bitLen_shift8 x.toNat (by omega) (by omega)
  have g0:0≤x / 256:=by omega
  have g1:x / 256≤255:=by omega
  have e:(x / 256).toNat=x.toNat / 256:=by omega
  rw[e] at l
  have E:=Lib.hid e
  have S:=Lib.hid s
  clear e s
  go_enter Try.func74,Try.ntmps74
  go_wp2
  go_ret
  refine⟨congrArg Ending.returned (congrArg (Value.int IntKind.i64) ?_),rfl⟩
  rw[Lib.len8_of (x / 256) g0 g1,E.out,S.out]
  unfold wrap64
  omega
 by_cases c3:x < 16777216
 ·have l:=Lib.bitLen_le8' (x / 65536) (by omega) (by omega)
  have s:=Lib.bitLen_shift16 x.toNat (by omega) (by omega)
  have g0:0≤x / 65536:=by omega
  have g1:x / 65536≤255:=by omega
  have e:(x / 65536).toNat=x.toNat / 65536:=by omega
  rw[e] at l
  have E:=Lib.hid e
  have S:=Lib.hid s
  clear e s
  go_enter Try.func74,Try.ntmps74
  go_wp2
  go_ret
  refine⟨congrArg Ending.returned (congrArg (Value.int IntKind.i64) ?_),rfl⟩
  rw[Lib.len8_of (x / 65536) g0 g1,E.out,S.out]
  unfold wrap64
  omega
 ·have l:=Lib.bitLen_le8' (x / 65536 / 256) (by omega) (by omega)
  have s:=Lib.bitLen_shift24 x.toNat (by omega) (by omega)
  have g0:0≤x / 65536 / 256:=by omega
  have g1:x / 65536 / 256≤255:=by omega
  have e:(x / 65536 / 256).toNat=x.toNat / 16777216:=by omega
  rw[e] at l
  have E:=Lib.hid e
  have S:=Lib.hid s
  clear e s
  go_enter Try.func74,Try.ntmps74
  go_wp2
  go_ret
  refine⟨congrArg Ending.returned (congrArg (Value.int IntKind.i64) ?_),rfl⟩
  rw[Lib.len8_of (x / 65536 / 256) g0 g1,E.out,S.out]
  unfold wrap64
  omega
theorem q5on(x:Int)(w:World)(h0:0≤x)(h1:x≤268435455) :
 Calls Try.prog 62 #[.int .u64 x] w fun e w'=>e = .returned (.int .i64 (Lib.bitLen x.toNat))∧w=w':=by
 go_enter Try.func62,Try.ntmps62
 go_wp2_with (go_at_call 74;refine(quym x _ h0 h1).mono ?_;rintro e w' ⟨rfl,rfl⟩)
 go_ret
 exact⟨rfl,rfl⟩
theorem qbdl(n:Nat)(h:n≤268435455):(max 1 (Lib.bitLen n)+6) / 7=sz n:=by
 have low:∀k,k≤63→2^k≤n→k < Lib.bitLen n:=fun k hk hn=>by
  have hpos:n / 2^k≠0:=by have:=Nat.div_pos hn (Nat.two_pow_pos k);omega
  have h64:n < 2^64:=by
   have:(268435455:Nat) < 2^64:=by decide
   omega
  rw[Lib.bitLen_shift k n hn h64,Lib.bitLen_half _ hpos (Nat.lt_of_le_of_lt (Nat.div_le_self _ _) h64)]
  omega
 rcases qnl4 n h with ⟨e,h1⟩ | ⟨e,h1,h2⟩ | ⟨e,h1,h2⟩ | ⟨e,h1⟩<;>rw[e]
 ·have:=Lib.bitLen_le n 7 (by decide) h1
  omega
 ·have:=Lib.bitLen_le n 14 (by decide) h2
  have:=low 7 (by decide) h1
  omega
 ·have:=Lib.bitLen_le n 21 (by decide) h2
  have:=low 14 (by decide) h1
  omega
 ·have:=Lib.bitLen_le n 28 (by decide) (by omega)
  have:=low 21 (by decide) h1
  omega
theorem ql84(n:Nat)(h:n≤268435455):(max 1 (Lib.bitLen n:Int)+7 - 1) / 7=sz n:=by
 rw[←qbdl n h]
 generalize Lib.bitLen n=b
 rcases Nat.le_total 1 b with h | h
 ·rw[Nat.max_eq_right h,Int.max_eq_right (by omega)];omega
 ·rw[Nat.max_eq_left h,Int.max_eq_left (by omega)];omega
theorem qk0d(n:Int)(w:World) :
 Calls Try.prog 39 #[.int .i64 n] w fun e w'=>e = .returned (.int .i64 (sz n))∧w=w':=by
 by_cases h1:n < 0
 ·rw[qbck.2 (.inl h1)]
  go_enter Try.func39,Try.ntmps39
  go_wp2
  go_ret
  exact⟨rfl,rfl⟩
 by_cases h2:268435455 < n
 ·rw[qbck.2 (.inr h2)]
  go_enter Try.func39,Try.ntmps39
  go_wp2
  go_ret
  exact⟨rfl,rfl⟩
 ·obtain⟨k,rfl⟩:=Int.eq_ofNat_of_zero_le (show 0≤n by omega)
  have e:=ql84 k (by omega)
  have b:=Lib.bitLen_le k 28 (by decide) (by omega)
  have E:=Lib.hid e
  clear e
  go_enter Try.func39,Try.ntmps39
  go_wp2_with (go_at_call 62;refine(q5on k _ (by omega) (by omega)).mono ?_;rintro e w' ⟨rfl,rfl⟩)
  go_ret
  exact⟨congrArg Ending.returned (congrArg (Value.int IntKind.i64) E.out),rfl⟩
end Go.Proofs.Ytbklidpadffpgaa
