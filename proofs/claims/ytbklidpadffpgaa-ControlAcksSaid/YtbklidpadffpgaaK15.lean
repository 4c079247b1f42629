/- Plain facts on lists of properties: which are as they should be, whatever their order; what a half, a list with one less, and a list with one more is. No condition. -/
import Derived.Lib.Hide
import Derived.WalkKit
import Derived.Lib.Walk
import Derived.Lib.Tables
import Derived.Lib.BitFns
import Derived.Test.YtbklidpadffpgaaK09
import Derived.Test.YtbklidpadffpgaaK10
import Derived.Test.YtbklidpadffpgaaK02
import Derived.Test.YtbklidpadffpgaaK03
import Derived.Test.YtbklidpadffpgaaK06
import Derived.Test.YtbklidpadffpgaaK08
set_option maxHeartbeats 1000000
set_option maxRecDepth 100000
namespace Go.Proofs.Ytbklidpadffpgaa
def qcsi(l:List Pr)(id:Int):Nat:=(l.filter fun p=>p.id==id).length
theorem qrb9(id:Int):qcsi [] id=0:=rfl
theorem qpwp(p:Pr)(l:List Pr)(id:Int):qcsi (p::l) id=qcsi l id+if p.id=id then 1 else 0:=by
 unfold qcsi
 rw[List.filter_cons]
 by_cases h:p.id=id
 ·simp[h]
 ·simp[h]
theorem q8m3(a b:List Pr)(id:Int):qcsi (a++b) id=qcsi a id+qcsi b id:=by simp[qcsi]
theorem qam1(l:List Pr)(id:Int):hasP l id=decide (0 < qcsi l id):=by
 induction l with
 | nil=>rfl
 | cons p l ih=>
  rw[qpwp]
  unfold hasP at ih ⊢
  rw[List.any_cons,ih]
  by_cases h:p.id=id
  ·simp[h]
  ·simp[h]
def qjrw(kind:Int)(l:List Pr):Prop:=(∀p∈l,qr4y kind p=0)∧∀id,quux kind id=false→qcsi l id≤1
theorem q0uh(kind:Int):∀(l pre:List Pr),(∀id,quux kind id=false→qcsi pre id≤1)→(q09m kind pre l=0↔(∀p∈l,qr4y kind p=0)∧∀id,quux kind id=false→qcsi (pre++l) id≤1)
 | [],pre,hp=>by simp[q09m];exact hp
 | p::l,pre,hp=>by
  rw[q09m]
  by_cases hc:qr4y kind p=0
  ·rw[if_neg (by simp[hc])]
   by_cases ht:qxv1 kind pre p.id=true
   ·rw[if_pos ht]
    constructor
    ·intro h;cases h
    ·rintro⟨_,h2⟩
     exfalso
     unfold qxv1 at ht
     rw[qam1] at ht
     simp only[Bool.and_eq_true,decide_eq_true_eq,Bool.not_eq_true'] at ht
     have:=h2 p.id ht.2
     rw[q8m3,qpwp,if_pos rfl] at this
     omega
   ·rw[if_neg ht]
    have ht:hasP pre p.id=false∨quux kind p.id=true:=by
     unfold qxv1 at ht
     cases h1:hasP pre p.id<;>cases h2:quux kind p.id<;>simp_all
    have hp':∀id,quux kind id=false→qcsi (pre++[p]) id≤1:=fun id hid=>by
     rw[q8m3,qpwp,qrb9]
     by_cases e:p.id=id
     ·subst e
      rcases ht with h | h
      ·rw[qam1,decide_eq_false_iff_not] at h
       rw[if_pos rfl];omega
      ·rw[hid] at h;cases h
     ·rw[if_neg e];have:=hp id hid;omega
    rw[q0uh kind l (pre++[p]) hp',List.append_assoc,List.singleton_append]
    constructor
    ·rintro⟨h1,h2⟩
     exact⟨fun q hq=>by
      rcases List.mem_cons.1 hq with rfl | hq
      ·exact hc
      ·exact h1 q hq,h2⟩
    ·rintro⟨h1,h2⟩
     exact⟨fun q hq=>h1 q (List.mem_cons_of_mem _ hq),h2⟩
  ·rw[if_pos hc]
   constructor
   ·intro h;exact absurd h hc
   ·rintro⟨h1,_⟩;exact absurd (h1 p (List.mem_cons_self ..)) hc
theorem qrcn(kind:Int)(l:List Pr):q09m kind [] l=0↔qjrw kind l:=by
 rw[q0uh kind l [] (fun id _=>by rw[qrb9];omega),List.nil_append];exact Iff.rfl
end Go.Proofs.Ytbklidpadffpgaa
namespace Go.Proofs.Ytbklidpadffpgaa
open Go.RowKit
theorem qp2i{v kind:Int}{l:List Pr}(h:qfk9 v kind l=0):(qasq v kind l).length≤300000000:=by
 unfold qasq
 unfold qfk9 at h
 split
 ·rename_i h5
  rw[if_pos h5] at h
  obtain⟨_,_,_,h4⟩:=qpfx h
  unfold q5aq
  rw[if_neg (by simpa using h),List.length_append,q8sw]
  have:=qnl4 (q636 l).length h4
  omega
 ·exact Nat.zero_le _
theorem q2a5{P:Program}{ops:Array Oper}{rest:List Oper}{o:Oper}{a:Act}{w:World}{Q:Exit→Act→World→Prop}(hw:Region.wanted o (yielded ops a.tmps)=true)(ty:TypeId)(x:Operand)(ho:o.op = .load ty x)
 (g:Nat) (hx:a.eval x = .pointer (some ⟨g,0,none⟩)) (t:TypeId) (cs:Array Value) (fr:Nat×Nat) (d:TypeDesc) (hg:w.heap[g]? = some (.cells cs t fr))
 (hu:P.underlying ty=some d) (hd:(match d with | .struct _ | .array _ _=>true | _=>false)=true) (hi:(P.info? ty).map (·.size)=some cs.size)
 (h:wpList P ops Q rest (a.put o.dst (.agg cs)) w):wpList P ops Q (o::rest) a w:=by
 unfold wpList
 rw[if_pos hw]
 exact .inl (wp_load_row ty x ho g hx t cs fr d hg hu hd hi h)
theorem q5nr:(Try.prog.info? 30).map (·.size)=some 25:=by kernel_rfl
def pkZ:Array Value:=#[.int .i64 0,.bool false,.bool false,.int .i64 0,.int .i64 0,.string ⟨#[]⟩,.string ⟨#[]⟩,.bool false,.int .i64 0,.string ⟨#[]⟩,.bool false,.string ⟨#[]⟩,.bool false,.string ⟨#[]⟩,.bool false,.string ⟨#[]⟩,.string ⟨#[]⟩,.int .i64 0,.bool false,.slice none 0 0,.bool false,.int .i64 0,.slice none 0 0,.slice none 0 0,.slice none 0 0]
theorem qrai(W:World):(zeroValue 30).run Try.prog W = .ok (.agg pkZ) W:=by kernel_rfl
theorem qbwp:pkZ.size=25:=rfl
def adZ:Ad:=⟨none,0,none,0,none,0,none,0⟩
theorem qbg0(b:UInt8):bits .and .u8 (b.toNat:Int) 127=((b.toNat%128:Nat):Int):=by
 have all:∀x:Fin 256,bits .and .u8 (x.val:Int) 127=((x.val%128:Nat):Int):=by decide+kernel
 exact all ⟨b.toNat,b.toNat_lt⟩
theorem qoki(x:Nat)(h:x < 128):bits .or .u8 (x:Int) 128=((x+128:Nat):Int):=by
 have all:∀x:Fin 128,bits .or .u8 (x.val:Int) 128=((x.val+128:Nat):Int):=by decide+kernel
 exact all ⟨x,h⟩
theorem quym(x:Int)(w:World)(h0:0≤x)(h1:x≤268435455) :
 Calls Try.prog 74 #[.int .u64 x] w fun e w'=>e = .returned (.int .i64 (Lib.bitLen x.toNat))∧w=w':=by
 have h32:x < 4294967296:=by omega
 by_cases c1:x < 256
 ·have l:=Lib.bitLen_le8' x h0 (by omega)
  have g0:x≤255:=by omega
  go_enter Try.func74,Try.ntmps74
  go_wp2
  go_ret
  refine⟨congrArg Ending.returned (congrArg (Value.int IntKind.i64) ?_),rfl⟩
  rw[Lib.len8_of x h0 g0]
  unfold wrap64
  omega
 by_cases c2:x < 65536
 ·have l:=Lib.bitLen_le8' (x / 256) (by omega) (by omega)
  have s:=Lib.bitLen_shift8 x.toNat (by omega) (by omega)
  have g0:0≤x / 256:=by omega
  have g1:x / 256≤255:=by omega
  have e:(x / 256).toNat=x.toNat / 256:=by omega
  rw[e] at l
  have E:=Lib.hid e
  have S:=Lib.hid s
  clear e s
  go_enter Try.func74,Try.ntmps74
  go_wp2
  go_ret
  refine⟨congrArg Ending.returned (congrArg (Value.int IntKind.i64) ?_),rfl⟩
  rw[Lib.len8_of (x / 256) g0 g1,E.out,S.out]
  unfold wrap64
  omega
 by_cases c3:x < 16777216
 ·have l:=Lib.bitLen_le8' (x / 65536) (by omega) (by omega)
  have s:=Lib.bitLen_shift16 x.toNat (by omega) (by omega)
  have g0:0≤x / 65536:=by omega
  have g1:x / 65536≤255:=by omega
  have e:(x / 65536).toNat=x.toNat / 65536:=by omega
  rw[e] at l
  have E:=Lib.hid e
  have S:=Lib.hid s
  clear e s
  go_enter Try.func74,Try.ntmps74
  go_wp2
  go_ret
  refine⟨congrArg Ending.returned (congrArg (Value.int IntKind.i64) ?_),rfl⟩
  rw[Lib.len8_of (x / 65536) g0 g1,E.out,S.out]
  unfold wrap64
  omega
 ·have l:=Lib.bitLen_le8' (x / 65536 / 256) (by omega) (by omega)
  have s:=Lib.bitLen_shift24 x.toNat (by omega) (by omega)
  have g0:0≤x / 65536 / 256:=by omega
  have g1:x / 65536 / 256≤255:=by omega
  have e:(x / 65536 / 256).toNat=x.toNat / 16777216:=by omega
  rw[e] at l
  have E:=Lib.hid e
  have S:=Lib.hid s
  clear e s
  go_enter Try.func74,Try.ntmps74
  go_wp2
  go_ret
  refine⟨congrArg Ending.returned (congrArg (Value.int IntKind.i64) ?_),rfl⟩
  rw[Lib.len8_of (x / 65536 / 256) g0 g1,E.out,S.out]
  unfold wrap64
  omega
theorem q5on(x:Int)(w:World)(h0:0≤x)(h1:x≤268435455) :
 Calls Try.prog 62 #[.int .u64 x] w fun e w'=>e = .returned (.int .i64 (Lib.bitLen x.toNat))∧w=w':=by
 go_enter Try.func62,Try.ntmps62
 go_wp2_with (go_at_call 74;refine(quym x _ h0 h1).mono ?_;rintro e w' ⟨rfl,rfl⟩)
 go_ret
 exact⟨rfl,rfl⟩
theorem qbdl(n:Nat)(h:n≤268435455):(max 1 (Lib.bitLen n)+6) / 7=sz n:=by
 have low:∀k,k≤63→2^k≤n→k < Lib.bitLen n:=fun k hk hn=>by
  have hpos:n / 2^k≠0:=by have:=Nat.div_pos hn (Nat.two_pow_pos k);omega
  have h64:n < 2^64:=by
   have:(268435455:Nat) < 2^64:=by decide
   omega
  rw[Lib.bitLen_shift k n hn h64,Lib.bitLen_half _ hpos (Nat.lt_of_le_of_lt (Nat.div_le_self _ _) h64)]
  omega
 rcases qnl4 n h with ⟨e,h1⟩ | ⟨e,h1,h2⟩ | ⟨e,h1,h2⟩ | ⟨e,h1⟩<;>rw[e]
 ·have:=Lib.bitLen_le n 7 (by decide) h1
  omega
 ·have:=Lib.bitLen_le n 14 (by decide) h2
  have:=low 7 (by decide) h1
  omega
 ·have:=Lib.bitLen_le n 21 (by decide) h2
  have:=low 14 (by decide) h1
  omega
 ·have:=Lib.bitLen_le n 28 (by decide) (by omega)
  have:=low 21 (by decide) h1
  omega
theorem ql84(n:Nat)(h:n≤268435455):(max 1 (Lib.bitLen n:Int)+7 - 1) / 7=sz n:=by
 rw[←qbdl n h]
 generalize Lib.bitLen n=b
 rcases Nat.le_total 1 b with h | h
 ·rw[Nat.max_eq_right h,Int.max_eq_right (by omega)];omega
 ·rw[Nat.max_eq_left h,Int.max_eq_left (by omega)];omega
theorem qk0d(n:Int)(w:World) :
 Calls Try.prog 39 #[.int .i64 n] w fun e w'=>e = .returned (.int .i64 (sz n))∧w=w':=by
 by_cases h1:n < 0
 ·rw[qbck.2 (.inl h1)]
  go_enter Try.func39,Try.ntmps39
  go_wp2
  go_ret
  exact⟨rfl,rfl⟩
 by_cases h2:268435455 < n
 ·rw[qbck.2 (.inr h2)]
  go_enter Try.func39,Try.ntmps39
  go_wp2
  go_ret
  exact⟨rfl,rfl⟩
 ·obtain⟨k,rfl⟩:=Int.eq_ofNat_of_zero_le (show 0≤n by omega)
  have e:=ql84 k (by omega)
  have b:=Lib.bitLen_le k 28 (by decide) (by omega)
  have E:=Lib.hid e
  clear e
  go_enter Try.func39,Try.ntmps39
  go_wp2_with (go_at_call 62;refine(q5on k _ (by omega) (by omega)).mono ?_;rintro e w' ⟨rfl,rfl⟩)
  go_ret
  exact⟨congrArg Ending.returned (congrArg (Value.int IntKind.i64) E.out),rfl⟩
end Go.Proofs.Ytbklidpadffpgaa
