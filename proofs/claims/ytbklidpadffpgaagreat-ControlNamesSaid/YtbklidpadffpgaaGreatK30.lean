/- Whether a kind may have a code: (set).has, May. Condition: none. -/
import Derived.Test.YtbklidpadffpgaaGreatK29
set_option maxRecDepth 100000
namespace Go.Proofs.YtbklidpadffpgaaGreat
open Go.RowKit
theorem q0jg(x m:Nat)(hx:x < 18446744073709551616):(bits .and .u64 ((x:Int) / 2^m) 1 != 0)=(x / 2^m%2==1):=by
 have e:(x:Int) / 2^m=((x / 2^m:Nat):Int):=by simp
 have h:x / 2^m < 18446744073709551616:=Nat.lt_of_le_of_lt (Nat.div_le_self _ _) hx
 rw[e]
 generalize x / 2^m=y at *
 have h1:=bits_and_u64_nat y 1 h (by decide)
 rw[show((1:Nat):Int)=1 from rfl] at h1
 rw[h1,Nat.and_one_is_mod]
 have:=Nat.mod_two_eq_zero_or_one y
 rcases this with h | h<;>rw[h]<;>rfl
theorem qg8y(s:W4)(code:Int)(w:World)(h:code < 0∨256≤code) :
 Calls Tryz.prog 91 #[V4 s,.int .i64 code] w fun e w'=>e = .returned (.bool false)∧Below w.heap.size w w':=by
 have L0:=Lib.hid (show Below w.heap.size w (w.alloc (.cells #[.int .u64 s.a,.int .u64 s.b,.int .u64 s.c,.int .u64 s.d] 129)) from(Below.refl _ _).alloc (Nat.le_refl _) _)
 unfold V4
 rcases h with h | h
 ·go_enter Tryz.func91,Tryz.ntmps91
  go_wp2_with fail
  go_ret
  exact⟨rfl,L0.out⟩
 ·have h0:0≤code:=by omega
  have h1:¬code < 256:=by omega
  go_enter Tryz.func91,Tryz.ntmps91
  go_wp2_with fail
  go_ret
  exact⟨rfl,L0.out⟩
theorem q5ro(s:W4)(c:Nat)(w:World)(hs:OkW s)(hc:c < 256) :
 Calls Tryz.prog 91 #[V4 s,.int .i64 (c:Int)] w fun e w'=>e = .returned (.bool (hasW s c))∧Below w.heap.size w w':=by
 have L0:=Lib.hid (show Below w.heap.size w (w.alloc (.cells #[.int .u64 s.a,.int .u64 s.b,.int .u64 s.c,.int .u64 s.d] 129)) from(Below.refl _ _).alloc (Nat.le_refl _) _)
 have H0:=heap_alloc_new w (.cells #[.int .u64 s.a,.int .u64 s.b,.int .u64 s.c,.int .u64 s.d] 129)
 have c0:=cell_of_row _ w.heap.size 0 _ _ _ H0
 have c1:=cell_of_row _ w.heap.size 1 _ _ _ H0
 have c2:=cell_of_row _ w.heap.size 2 _ _ _ H0
 have c3:=cell_of_row _ w.heap.size 3 _ _ _ H0
 have h0:(0:Int)≤(c:Int):=by omega
 have h1:(c:Int) < 256:=by omega
 obtain⟨m,hmm⟩:∃m,c%64=m:=⟨_,rfl⟩
 have hm:m < 64:=by omega
 have e2:(c:Int)%64=(m:Int):=by omega
 clear H0
 unfold V4
 by_cases q0:c < 64
 ·skip
  have e1:(c:Int) / 64=0:=by omega
  have HV:=Lib.hid (show(bits .and .u64 ((s.a:Int) / 2^m) 1 != 0)=hasW s c from by
   rw[q0jg _ _ hs.a]
   unfold hasW word
   simp[hc,hmm,q0])
  clear hmm hs hc
  go_enter Tryz.func91,Tryz.ntmps91
  go_wp2_with fail
  go_ret
  exact⟨by rw[HV.out];rfl,L0.out⟩
 by_cases q1:c < 128
 ·skip
  have e1:(c:Int) / 64=1:=by omega
  have HV:=Lib.hid (show(bits .and .u64 ((s.b:Int) / 2^m) 1 != 0)=hasW s c from by
   rw[q0jg _ _ hs.b]
   unfold hasW word
   simp[hc,hmm,q0,q1])
  clear hmm hs hc
  go_enter Tryz.func91,Tryz.ntmps91
  go_wp2_with fail
  go_ret
  exact⟨by rw[HV.out];rfl,L0.out⟩
 by_cases q2:c < 192
 ·skip
  have e1:(c:Int) / 64=2:=by omega
  have HV:=Lib.hid (show(bits .and .u64 ((s.c:Int) / 2^m) 1 != 0)=hasW s c from by
   rw[q0jg _ _ hs.c]
   unfold hasW word
   simp[hc,hmm,q0,q1,q2])
  clear hmm hs hc
  go_enter Tryz.func91,Tryz.ntmps91
  go_wp2_with fail
  go_ret
  exact⟨by rw[HV.out];rfl,L0.out⟩
 ·skip
  have e1:(c:Int) / 64=3:=by omega
  have HV:=Lib.hid (show(bits .and .u64 ((s.d:Int) / 2^m) 1 != 0)=hasW s c from by
   rw[q0jg _ _ hs.d]
   unfold hasW word
   simp[hc,hmm,q0,q1,q2])
  clear hmm hs hc
  go_enter Tryz.func91,Tryz.ntmps91
  go_wp2_with fail
  go_ret
  exact⟨by rw[HV.out];rfl,L0.out⟩
theorem qfh4(s:W4)(code:Int)(w:World)(hs:OkW s) :
 Calls Tryz.prog 91 #[V4 s,.int .i64 code] w fun e w'=>e = .returned (.bool (decide (0≤code)&&hasW s code.toNat))∧Below w.heap.size w w':=by
 by_cases h:code < 0∨256≤code
 ·have e:(decide (0≤code)&&hasW s code.toNat)=false:=by
   rcases h with h | h
   ·simp[show ¬0≤code by omega]
   ·unfold hasW;simp[show ¬code.toNat < 256 by omega]
  rw[e]
  exact qg8y s code w h
 ·obtain⟨c,rfl⟩:∃c:Nat,code=(c:Int):=⟨code.toNat,by omega⟩
  have e:(decide (0≤(c:Int))&&hasW s (c:Int).toNat)=hasW s c:=by simp
  rw[e]
  exact q5ro s c w hs (by omega)
theorem qeiz(kind code:Int)(w:World) :
 Calls Tryz.prog 52 #[.int .i64 kind,.int .i64 code] w fun e w'=>e = .returned (.bool (mayR kind code))∧Below w.heap.size w w':=by
 have e:(decide (0≤code)&&hasW (q71c (grp kind)) code.toNat)=mayR kind code:=by rw[qi9u];rfl
 have HA:=Lib.hid (fun W=>qfh4 (q71c (grp kind)) code W (qjuf _))
 rw[e] at HA
 clear e
 go_enter Tryz.func52,Tryz.ntmps52
 go_wp2_with fail
 refine(qyq4 kind _).mono ?_
 rintro e w1 ⟨rfl,hb⟩
 have L1:=Lib.hid hb
 clear hb
 go_wp2_with fail
 refine(HA.out _).mono ?_
 rintro e w2 ⟨rfl,hb⟩
 have L2:=Lib.hid (L1.out.trans (hb.mono L1.out.size))
 clear hb
 go_wp2_with fail
 go_ret
 exact⟨rfl,L2.out⟩
end Go.Proofs.YtbklidpadffpgaaGreat
