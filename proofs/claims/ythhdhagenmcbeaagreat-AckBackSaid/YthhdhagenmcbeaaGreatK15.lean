/- A packet that a function holds in a box. No condition. -/
import Derived.Laws.ResultCell
import Derived.Deep.LoopGhost
import Derived.Deep.QuietTactic
import Derived.Lib.Hide
import Derived.WalkKit
import Derived.Lib.Walk
import Derived.Lib.Tables
import Derived.Lib.BitFns
import Derived.StillTailTactics
import Derived.IntWalk
import Derived.Test.YthhdhagenmcbeaaGreatK07
import Derived.Test.YthhdhagenmcbeaaGreatK03
import Derived.Test.YthhdhagenmcbeaaGreatK02
import Derived.Test.YthhdhagenmcbeaaGreatK05
import Derived.Test.YthhdhagenmcbeaaGreatK11
import Derived.Test.YthhdhagenmcbeaaGreatK09
set_option maxHeartbeats 1000000
set_option maxRecDepth 100000
namespace Go.Proofs.YthhdhagenmcbeaaGreat
open Go.RowKit
structure BxS(w:World)(p:Pk)(a:Ad)(W:World):Prop where
 low:Below w.heap.size w W
 box:W.heap[w.heap.size]? = some (.cells (pkC p a) 35 (0,0))
theorem BxS.made(w:World)(p:Pk)(a:Ad):BxS w p a (w.alloc (.cells (pkC p a) 35)):=⟨qybm _,heap_alloc_new _ _⟩
theorem BxS.call{w W W':World}{p:Pk}{a:Ad}(h:BxS w p a W)(hb:Below W.heap.size W W'):BxS w p a W':=⟨qxh2 h.low hb,(hb.block _ (lt_of_block h.box)).trans h.box⟩
theorem BxS.draw{w W:World}{p:Pk}{a:Ad}(h:BxS w p a W):BxS w p a W.drew:=⟨h.low.drew,h.box⟩
theorem BxS.cell{w W:World}{p:Pk}{a:Ad}(h:BxS w p a W)(j:Nat):W.cell? ⟨w.heap.size,j,none⟩=(pkC p a)[j]? := cell_of_row _ _ j _ _ _ h.box
theorem qgiq(w:World)(x y:Nat):(w.drewN x).drewN y=w.drewN (x+y):=by simp[World.drewN,Nat.add_assoc]
theorem qs8g{T:Type}{l m:List T}{n:Nat}(hl:l.length=n)(hm:m.length=n)(h:∀j p q,j < n→l[j]? = some p→m[j]? = some q→p=q):l=m:=by
 apply List.ext_getElem?
 intro j
 by_cases hj:j < n
 ·rw[List.getElem?_eq_getElem (by omega),List.getElem?_eq_getElem (by omega)]
  exact congrArg some (h j _ _ hj (List.getElem?_eq_getElem (by omega)) (List.getElem?_eq_getElem (by omega)))
 ·rw[List.getElem?_eq_none (by omega),List.getElem?_eq_none (by omega)]
theorem qzlf(p q:Pr):p=q∨(p.id==q.id)=false∨(p.id=q.id∧(((p.n:Nat):Int)==((q.n:Nat):Int))=false)∨(p.id=q.id∧p.n=q.n∧((bs p.text).toList==(bs q.text).toList)=false)∨(p.id=q.id∧p.n=q.n∧p.text=q.text∧((bs p.value).toList==(bs q.value).toList)=false):=by
 obtain⟨a,b,c,d⟩:=p
 obtain⟨a',b',c',d'⟩:=q
 simp only[q0c6]
 by_cases h1:a=a'
 ·by_cases h2:b=b'
  ·by_cases h3:c=c'
   ·by_cases h4:d=d'
    ·subst h1 h2 h3 h4;exact .inl rfl
    ·exact .inr (.inr (.inr (.inr ⟨h1,h2,h3,by rw[beq_eq_false_iff_ne];exact h4⟩)))
   ·exact .inr (.inr (.inr (.inl ⟨h1,h2,by rw[beq_eq_false_iff_ne];exact h3⟩)))
  ·exact .inr (.inr (.inl ⟨h1,by rw[beq_eq_false_iff_ne];omega⟩))
 ·exact .inr (.inl (by rw[beq_eq_false_iff_ne];exact h1))
def fiV(f:Fi):Value := .agg #[.string (bs f.topic),.int .i64 f.qos,.bool f.noLocal,.bool f.asPub,.int .i64 f.handling]
theorem qpuj(p q:Fi):p=q∨((bs p.topic).toList==(bs q.topic).toList)=false∨(p.topic=q.topic∧(p.qos==q.qos)=false)∨(p.topic=q.topic∧p.qos=q.qos∧(p.noLocal==q.noLocal)=false)∨(p.topic=q.topic∧p.qos=q.qos∧p.noLocal=q.noLocal∧(p.asPub==q.asPub)=false)∨(p.topic=q.topic∧p.qos=q.qos∧p.noLocal=q.noLocal∧p.asPub=q.asPub∧(p.handling==q.handling)=false):=by
 obtain⟨a,b,c,d,e⟩:=p
 obtain⟨a',b',c',d',e'⟩:=q
 simp only[q0c6]
 by_cases h1:a=a'
 ·by_cases h2:b=b'
  ·by_cases h3:c=c'
   ·by_cases h4:d=d'
    ·by_cases h5:e=e'
     ·subst h1 h2 h3 h4 h5;exact .inl rfl
     ·exact .inr (.inr (.inr (.inr (.inr ⟨h1,h2,h3,h4,by rw[beq_eq_false_iff_ne];exact h5⟩))))
    ·exact .inr (.inr (.inr (.inr (.inl ⟨h1,h2,h3,by rw[beq_eq_false_iff_ne];exact h4⟩))))
   ·exact .inr (.inr (.inr (.inl ⟨h1,h2,by rw[beq_eq_false_iff_ne];exact h3⟩)))
  ·exact .inr (.inr (.inl ⟨h1,by rw[beq_eq_false_iff_ne];exact h2⟩))
 ·exact .inr (.inl (by rw[beq_eq_false_iff_ne];exact h1))
theorem qd1x(p q:Int):p=q∨(p==q)=false:=by
 by_cases h:p=q
 ·exact .inl h
 ·exact .inr (by rw[beq_eq_false_iff_ne];exact h)
theorem q2a5{P:Program}{ops:Array Oper}{rest:List Oper}{o:Oper}{a:Act}{w:World}{Q:Exit→Act→World→Prop}(hw:Region.wanted o (yielded ops a.tmps)=true)(ty:TypeId)(x:Operand)(ho:o.op = .load ty x)
 (g:Nat) (hx:a.eval x = .pointer (some ⟨g,0,none⟩)) (t:TypeId) (cs:Array Value) (fr:Nat×Nat) (d:TypeDesc) (hg:w.heap[g]? = some (.cells cs t fr))
 (hu:P.underlying ty=some d) (hd:(match d with | .struct _ | .array _ _=>true | _=>false)=true) (hi:(P.info? ty).map (·.size)=some cs.size)
 (h:wpList P ops Q rest (a.put o.dst (.agg cs)) w):wpList P ops Q (o::rest) a w:=by
 unfold wpList
 rw[if_pos hw]
 exact .inl (wp_load_row ty x ho g hx t cs fr d hg hu hd hi h)
theorem qp2i{v kind:Int}{l:List Pr}(h:qfk9 v kind l=0):(qasq v kind l).length≤300000000:=by
 unfold qasq
 unfold qfk9 at h
 split
 ·rename_i h5
  rw[if_pos h5] at h
  obtain⟨_,_,_,h4⟩:=qpfx h
  unfold q5aq
  rw[if_neg (by simpa using h),List.length_append,q8sw]
  have:=qnl4 (q636 l).length h4
  omega
 ·exact Nat.zero_le _
theorem q5nr:(Tryz.prog.info? 35).map (·.size)=some 25:=by kernel_rfl
def pkZ:Array Value:=#[.int .i64 0,.bool false,.bool false,.int .i64 0,.int .i64 0,.string ⟨#[]⟩,.string ⟨#[]⟩,.bool false,.int .i64 0,.string ⟨#[]⟩,.bool false,.string ⟨#[]⟩,.bool false,.string ⟨#[]⟩,.bool false,.string ⟨#[]⟩,.string ⟨#[]⟩,.int .i64 0,.bool false,.slice none 0 0,.bool false,.int .i64 0,.slice none 0 0,.slice none 0 0,.slice none 0 0]
theorem qrai(W:World):(zeroValue 35).run Tryz.prog W = .ok (.agg pkZ) W:=by kernel_rfl
theorem qbwp:pkZ.size=25:=rfl
def adZ:Ad:=⟨none,0,none,0,none,0,none,0⟩
theorem qgcz:pkC Pk.zero adZ=pkZ:=rfl
theorem qm1s(b:UInt8):bits .and .u8 (b.toNat:Int) 128=if 128≤b.toNat then 128 else 0:=by
 have all:∀x:Fin 256,bits .and .u8 (x.val:Int) 128=if 128≤x.val then 128 else 0:=by decide+kernel
 exact all ⟨b.toNat,b.toNat_lt⟩
theorem qbg0(b:UInt8):bits .and .u8 (b.toNat:Int) 127=((b.toNat%128:Nat):Int):=by
 have all:∀x:Fin 256,bits .and .u8 (x.val:Int) 127=((x.val%128:Nat):Int):=by decide+kernel
 exact all ⟨b.toNat,b.toNat_lt⟩
theorem qoki(x:Nat)(h:x < 128):bits .or .u8 (x:Int) 128=((x+128:Nat):Int):=by
 have all:∀x:Fin 128,bits .or .u8 (x.val:Int) 128=((x.val+128:Nat):Int):=by decide+kernel
 exact all ⟨x,h⟩
theorem quym(x:Int)(w:World)(h0:0≤x)(h1:x≤268435455) :
 Calls Tryz.prog 133 #[.int .u64 x] w fun e w'=>e = .returned (.int .i64 (Lib.bitLen x.toNat))∧w=w':=by
 have h32:x < 4294967296:=by omega
 by_cases c1:x < 256
 ·have l:=Lib.bitLen_le8' x h0 (by omega)
  have g0:x≤255:=by omega
  go_enter Tryz.func133,Tryz.ntmps133
  go_wp2
  go_ret
  refine⟨congrArg Ending.returned (congrArg (Value.int IntKind.i64) ?_),rfl⟩
  rw[Lib.len8_of x h0 g0]
  unfold wrap64
  omega
 by_cases c2:x < 65536
 ·have l:=Lib.bitLen_le8' (x / 256) (by omega) (by omega)
  have s:=Lib.bitLen_shift8 x.toNat (by omega) (by omega)
  have g0:0≤x / 256:=by omega
  have g1:x / 256≤255:=by omega
  have e:(x / 256).toNat=x.toNat / 256:=by omega
  rw[e] at l
  have E:=Lib.hid e
  have S:=Lib.hid s
  clear e s
  go_enter Tryz.func133,Tryz.ntmps133
  go_wp2
  go_ret
  refine⟨congrArg Ending.returned (congrArg (Value.int IntKind.i64) ?_),rfl⟩
  rw[Lib.len8_of (x / 256) g0 g1,E.out,S.out]
  unfold wrap64
  omega
 by_cases c3:x < 16777216
 ·have l:=Lib.bitLen_le8' (x / 65536) (by omega) (by omega)
  have s:=Lib.bitLen_shift16 x.toNat (by omega) (by omega)
  have g0:0≤x / 65536:=by omega
  have g1:x / 65536≤255:=by omega
  have e:(x / 65536).toNat=x.toNat / 65536:=by omega
  rw[e] at l
  have E:=Lib.hid e
  have S:=Lib.hid s
  clear e s
  go_enter Tryz.func133,Tryz.ntmps133
  go_wp2
  go_ret
  refine⟨congrArg Ending.returned (congrArg (Value.int IntKind.i64) ?_),rfl⟩
  rw[Lib.len8_of (x / 65536) g0 g1,E.out,S.out]
  unfold wrap64
  omega
 ·have l:=Lib.bitLen_le8' (x / 65536 / 256) (by omega) (by omega)
  have s:=Lib.bitLen_shift24 x.toNat (by omega) (by omega)
  have g0:0≤x / 65536 / 256:=by omega
  have g1:x / 65536 / 256≤255:=by omega
  have e:(x / 65536 / 256).toNat=x.toNat / 16777216:=by omega
  rw[e] at l
  have E:=Lib.hid e
  have S:=Lib.hid s
  clear e s
  go_enter Tryz.func133,Tryz.ntmps133
  go_wp2
  go_ret
  refine⟨congrArg Ending.returned (congrArg (Value.int IntKind.i64) ?_),rfl⟩
  rw[Lib.len8_of (x / 65536 / 256) g0 g1,E.out,S.out]
  unfold wrap64
  omega
theorem q5on(x:Int)(w:World)(h0:0≤x)(h1:x≤268435455) :
 Calls Tryz.prog 108 #[.int .u64 x] w fun e w'=>e = .returned (.int .i64 (Lib.bitLen x.toNat))∧w=w':=by
 go_enter Tryz.func108,Tryz.ntmps108
 go_wp2_with (go_at_call 133;refine(quym x _ h0 h1).mono ?_;rintro e w' ⟨rfl,rfl⟩)
 go_ret
 exact⟨rfl,rfl⟩
theorem qbdl(n:Nat)(h:n≤268435455):(max 1 (Lib.bitLen n)+6) / 7=sz n:=by
 have low:∀k,k≤63→2^k≤n→k < Lib.bitLen n:=fun k hk hn=>by
  have hpos:n / 2^k≠0:=by have:=Nat.div_pos hn (Nat.two_pow_pos k);omega
  have h64:n < 2^64:=by
   have:(268435455:Nat) < 2^64:=by decide
   omega
  rw[Lib.bitLen_shift k n hn h64,Lib.bitLen_half _ hpos (Nat.lt_of_le_of_lt (Nat.div_le_self _ _) h64)]
  omega
 rcases qnl4 n h with ⟨e,h1⟩ | ⟨e,h1,h2⟩ | ⟨e,h1,h2⟩ | ⟨e,h1⟩<;>rw[e]
 ·have:=Lib.bitLen_le n 7 (by decide) h1
  omega
 ·have:=Lib.bitLen_le n 14 (by decide) h2
  have:=low 7 (by decide) h1
  omega
 ·have:=Lib.bitLen_le n 21 (by decide) h2
  have:=low 14 (by decide) h1
  omega
 ·have:=Lib.bitLen_le n 28 (by decide) (by omega)
  have:=low 21 (by decide) h1
  omega
theorem ql84(n:Nat)(h:n≤268435455):(max 1 (Lib.bitLen n:Int)+7 - 1) / 7=sz n:=by
 rw[←qbdl n h]
 generalize Lib.bitLen n=b
 rcases Nat.le_total 1 b with h | h
 ·rw[Nat.max_eq_right h,Int.max_eq_right (by omega)];omega
 ·rw[Nat.max_eq_left h,Int.max_eq_left (by omega)];omega
theorem qk0d(n:Int)(w:World) :
 Calls Tryz.prog 72 #[.int .i64 n] w fun e w'=>e = .returned (.int .i64 (sz n))∧w=w':=by
 by_cases h1:n < 0
 ·rw[qbck.2 (.inl h1)]
  go_enter Tryz.func72,Tryz.ntmps72
  go_wp2
  go_ret
  exact⟨rfl,rfl⟩
 by_cases h2:268435455 < n
 ·rw[qbck.2 (.inr h2)]
  go_enter Tryz.func72,Tryz.ntmps72
  go_wp2
  go_ret
  exact⟨rfl,rfl⟩
 ·obtain⟨k,rfl⟩:=Int.eq_ofNat_of_zero_le (show 0≤n by omega)
  have e:=ql84 k (by omega)
  have b:=Lib.bitLen_le k 28 (by decide) (by omega)
  have E:=Lib.hid e
  clear e
  go_enter Tryz.func72,Tryz.ntmps72
  go_wp2_with (go_at_call 108;refine(q5on k _ (by omega) (by omega)).mono ?_;rintro e w' ⟨rfl,rfl⟩)
  go_ret
  exact⟨congrArg Ending.returned (congrArg (Value.int IntKind.i64) E.out),rfl⟩
theorem qnz1(b:UInt8)(n:Nat)(w:World) :
 Calls Tryz.prog 152 #[.int .u8 b.toNat,.int .i64 n] w fun e w'=>e = .returned (.int .i64 (nxt b n))∧w=w':=by
 have hb:=b.toNat_lt
 have ha:=qm1s b
 by_cases h1:128≤b.toNat
 ·rw[if_pos h1] at ha
  by_cases h2:n=4
  ·subst h2
   have e:nxt b 4=2:=qt6b.2 (.inl ⟨h1,rfl⟩)
   rw[e];clear e
   go_enter Tryz.func152,Tryz.ntmps152
   go_wp2
   go_ret
   exact⟨rfl,rfl⟩
  ·have e:nxt b n=0:=qv8z.2 ⟨h1,h2⟩
   rw[e];clear e
   have h3:((n:Int)==4)=false:=by simp;omega
   go_enter Tryz.func152,Tryz.ntmps152
   go_wp2
   go_ret
   exact⟨rfl,rfl⟩
 ·rw[if_neg h1] at ha
  by_cases h2:b.toNat=0
  ·by_cases h3:1 < n
   ·have e:nxt b n=2:=qt6b.2 (.inr ⟨h2,h3⟩)
    rw[e];clear e
    rw[h2] at ha
    rw[h2]
    have h4:decide ((1:Int) < (n:Int))=true:=by simp;omega
    go_enter Tryz.func152,Tryz.ntmps152
    go_wp2
    go_ret
    exact⟨rfl,rfl⟩
   ·have e:nxt b n=1:=qicf.2 ⟨by omega,.inr (by omega)⟩
    rw[e];clear e
    rw[h2] at ha
    rw[h2]
    have h4:decide ((1:Int) < (n:Int))=false:=by simp;omega
    go_enter Tryz.func152,Tryz.ntmps152
    go_wp2
    go_ret
    exact⟨rfl,rfl⟩
  ·have e:nxt b n=1:=qicf.2 ⟨by omega,.inl (by omega)⟩
   rw[e];clear e
   have h4:((b.toNat:Int)==0)=false:=by simp;omega
   go_enter Tryz.func152,Tryz.ntmps152
   go_wp2
   go_ret
   exact⟨rfl,rfl⟩
def qxoj(b v n st:Nat):Array Value:=#[.pointer (some ⟨b,0,none⟩),.int .i64 v,.int .i64 n,.int .i64 st]
def Rd(w:World)(b v n st:Nat):Prop:=w.heap[b]? = some (.cells (qxoj b v n st) 172 (0,0))
section
variable{w w':World}{b v n st:Nat}
theorem Rd.lt(h:Rd w b v n st):b < w.heap.size:=lt_of_block h
theorem Rd.cell(h:Rd w b v n st)(j:Nat):w.cell? ⟨b,j,none⟩=(qxoj b v n st)[j]? := cell_of_row w b j _ _ (0,0) h
theorem Rd.c0(h:Rd w b v n st):w.cell? ⟨b,0,none⟩=some (.pointer (some ⟨b,0,none⟩)):=h.cell 0
theorem Rd.c1(h:Rd w b v n st):w.cell? ⟨b,1,none⟩=some (.int .i64 v):=h.cell 1
theorem Rd.c2(h:Rd w b v n st):w.cell? ⟨b,2,none⟩=some (.int .i64 n):=h.cell 2
theorem Rd.c3(h:Rd w b v n st):w.cell? ⟨b,3,none⟩=some (.int .i64 st):=h.cell 3
theorem Rd.fr(h:Rd w b v n st)(j:Nat):w.frozen? ⟨b,j,none⟩=false:=by unfold Rd at h;simp[World.frozen?,h]
theorem Rd.draws(h:Rd w b v n st)(k:Nat):Rd (w.drewN k) b v n st:=h
theorem Rd.drew(h:Rd w b v n st):Rd w.drew b v n st:=h
theorem Rd.of_block(h:Rd w b v n st)(hb:w'.heap[b]? = w.heap[b]?):Rd w' b v n st:=hb.trans h
theorem Rd.val(h:Rd w b v n st)(u:Nat):Rd (w.setCell ⟨b,1,none⟩ (.int .i64 u)) b u n st:=qlvy h 1 _
theorem Rd.siz(h:Rd w b v n st)(u:Nat):Rd (w.setCell ⟨b,2,none⟩ (.int .i64 u)) b v u st:=qlvy h 2 _
theorem Rd.sta(h:Rd w b v n st)(u:Nat):Rd (w.setCell ⟨b,3,none⟩ (.int .i64 u)) b v n u:=qlvy h 3 _
end
theorem qp2k:∃j,Tryz.prog.info? 172=some j:=Option.isSome_iff_exists.1 (by kernel_rfl)
theorem quhv{w:World}{b v n st:Nat}(hc:Rd w b v n st) :
 Calls Tryz.prog 151 #[.pointer (some ⟨b,0,none⟩)] w fun e w'=>e = .returned (.bool true)∧w=w':=by
 obtain⟨j,hj⟩:=qp2k
 have heq:=fun W:World=>run_eql_ptr_same (P:=Tryz.prog) W ⟨b,0,none⟩ Tryz.underlying166 hj
 have h0:=hc.c0
 clear hj
 go_enter Tryz.func151,Tryz.ntmps151
 go_wp2
 go_ret
 exact⟨rfl,rfl⟩
theorem qz5z(w:World) :
 Calls Tryz.prog 136 #[] w fun e w'=>e = .returned (.pointer (some ⟨w.heap.size,0,none⟩))∧Rd w' w.heap.size 0 0 0∧Below w.heap.size w w':=by
 go_enter Tryz.func136,Tryz.ntmps136
 go_wp2
 go_ret
 exact⟨rfl,heap_alloc_new w _,(Below.refl _ _).alloc (Nat.le_refl _) _⟩
theorem qh0o(v n:Nat)(x:UInt8)(hv:v < 128^n)(hn:n < 4):bits .or .i64 (v:Int) (IntKind.i64.wrap ((x.toNat:Int)%128*2^(7*(n:Int)).toNat))=((grow v n x:Nat):Int):=by
 have e1:(7*(n:Int)).toNat=7*n:=by omega
 have e128:(128:Nat)^n=2^(7*n):=by rw[Nat.pow_mul]
 have hp:(2:Nat)^(7*n)≤2^21:=Nat.pow_le_pow_right (by decide) (by omega)
 have hx:x.toNat%128≤127:=by omega
 have hm:x.toNat%128*2^(7*n)≤127*2^21:=Nat.mul_le_mul hx hp
 have e2:(x.toNat:Int)%128*2^(7*n)=((x.toNat%128*2^(7*n):Nat):Int):=by simp
 unfold grow
 rw[e128] at hv ⊢
 rw[e1,e2,IntWalk.i64_in _ (by omega)]
 rw[(bits_nat .i64 28 (by decide) (fun m h0 h1=>IntWalk.i64_in _ (by omega)) v (x.toNat%128*2^(7*n)) (by omega) (by omega)).2]
 congr 1
 rw[Nat.or_comm,Nat.mul_comm,←Nat.two_pow_add_eq_or_of_lt hv (x.toNat%128)]
 omega
theorem qh0d{w:World}{b v n:Nat}(x:UInt8)(hc:Rd w b v n 0)(hv:v < 128^n)(hn:n < 4)(hx:nxt x (n+1)=0) :
 Calls Tryz.prog 137 #[.pointer (some ⟨b,0,none⟩),.int .u8 x.toNat] w fun e w'=>e = .returned (.tuple #[.bool false,.int .i64 0])∧Rd w' b (grow v n x) (n+1) 0∧w.grownBy w' (some b):=by
 have h1:=hc.c1
 have h2:=hc.c2
 have h3:=hc.c3
 have f1:=hc.fr 1
 have f2:=hc.fr 2
 have f3:=hc.fr 3
 have ha:=qbg0 x
 have e1:IntKind.i64.wrap ((x.toNat:Int)%128)=(x.toNat:Int)%128:=IntWalk.i64_in _ (by omega)
 have e2:IntKind.i64.wrap (7*(n:Int))=7*(n:Int):=IntWalk.i64_in _ (by omega)
 have e3:(0:Int)≤7*(n:Int):=by omega
 have e4:=qh0o v n x hv hn
 have NX:=Lib.hid (show ∀W,Calls Tryz.prog 152 #[.int .u8 x.toNat,.int .i64 ((n:Int)+1)] W fun e w'=>e = .returned (.int .i64 0)∧W=w' from fun W=>by
  have h:=qnz1 x (n+1) W
  rw[hx] at h
  exact h)
 clear hx
 generalize grow v n x=u at e4
 go_enter Tryz.func137,Tryz.ntmps137
 go_wp2_with (go_at_call 151;refine(quhv hc).mono ?_;rintro e' w' ⟨rfl,rfl⟩)
 go_still_tail 16,(by kernel_rfl)
 change wpList _ _ _ _ _ w.drew
 have hd:Rd w.drew b v n 0:=hc.drew
 have hg:w.grownBy w.drew (some b):=⟨rfl,rfl,rfl,Nat.le_refl _,fun _ _ _=>rfl⟩
 generalize w.drew=W at hd hg
 clear h1 h2 h3 f1 f2 f3
 have h1:=hd.c1
 have h2:=hd.c2
 have h3:=hd.c3
 have f1:=hd.fr 1
 have f2:=hd.fr 2
 have f3:=hd.fr 3
 go_wp2_with (go_at_call 152;refine(NX.out _).mono ?_;rintro e' w' ⟨rfl,rfl⟩)
 go_ret2
 exact⟨rfl,((hd.val u).siz (n+1)).sta 0,qo6d hg (qo6d (qo6d (q99v _ _ _ _) (q99v _ _ _ _)) (q99v _ _ _ _))⟩
theorem qhre{w:World}{b v n:Nat}(x:UInt8)(hc:Rd w b v n 0)(hv:v < 128^n)(hn:n < 4)(hx:nxt x (n+1)=1) :
 Calls Tryz.prog 137 #[.pointer (some ⟨b,0,none⟩),.int .u8 x.toNat] w fun e w'=>e = .returned (.tuple #[.bool true,.int .i64 0])∧Rd w' b (grow v n x) (n+1) 1∧w.grownBy w' (some b):=by
 have h1:=hc.c1
 have h2:=hc.c2
 have h3:=hc.c3
 have f1:=hc.fr 1
 have f2:=hc.fr 2
 have f3:=hc.fr 3
 have ha:=qbg0 x
 have e1:IntKind.i64.wrap ((x.toNat:Int)%128)=(x.toNat:Int)%128:=IntWalk.i64_in _ (by omega)
 have e2:IntKind.i64.wrap (7*(n:Int))=7*(n:Int):=IntWalk.i64_in _ (by omega)
 have e3:(0:Int)≤7*(n:Int):=by omega
 have e4:=qh0o v n x hv hn
 have NX:=Lib.hid (show ∀W,Calls Tryz.prog 152 #[.int .u8 x.toNat,.int .i64 ((n:Int)+1)] W fun e w'=>e = .returned (.int .i64 1)∧W=w' from fun W=>by
  have h:=qnz1 x (n+1) W
  rw[hx] at h
  exact h)
 clear hx
 generalize grow v n x=u at e4
 go_enter Tryz.func137,Tryz.ntmps137
 go_wp2_with (go_at_call 151;refine(quhv hc).mono ?_;rintro e' w' ⟨rfl,rfl⟩)
 go_still_tail 16,(by kernel_rfl)
 change wpList _ _ _ _ _ w.drew
 have hd:Rd w.drew b v n 0:=hc.drew
 have hg:w.grownBy w.drew (some b):=⟨rfl,rfl,rfl,Nat.le_refl _,fun _ _ _=>rfl⟩
 generalize w.drew=W at hd hg
 clear h1 h2 h3 f1 f2 f3
 have h1:=hd.c1
 have h2:=hd.c2
 have h3:=hd.c3
 have f1:=hd.fr 1
 have f2:=hd.fr 2
 have f3:=hd.fr 3
 go_wp2_with (go_at_call 152;refine(NX.out _).mono ?_;rintro e' w' ⟨rfl,rfl⟩)
 go_ret2
 exact⟨rfl,((hd.val u).siz (n+1)).sta 1,qo6d hg (qo6d (qo6d (q99v _ _ _ _) (q99v _ _ _ _)) (q99v _ _ _ _))⟩
theorem qdxq{w:World}{b v n:Nat}(x:UInt8)(hc:Rd w b v n 0)(hv:v < 128^n)(hn:n < 4)(hx:nxt x (n+1)=2) :
 Calls Tryz.prog 137 #[.pointer (some ⟨b,0,none⟩),.int .u8 x.toNat] w fun e w'=>e = .returned (.tuple #[.bool false,.int .i64 5])∧Rd w' b (grow v n x) (n+1) 2∧w.grownBy w' (some b):=by
 have h1:=hc.c1
 have h2:=hc.c2
 have h3:=hc.c3
 have f1:=hc.fr 1
 have f2:=hc.fr 2
 have f3:=hc.fr 3
 have ha:=qbg0 x
 have e1:IntKind.i64.wrap ((x.toNat:Int)%128)=(x.toNat:Int)%128:=IntWalk.i64_in _ (by omega)
 have e2:IntKind.i64.wrap (7*(n:Int))=7*(n:Int):=IntWalk.i64_in _ (by omega)
 have e3:(0:Int)≤7*(n:Int):=by omega
 have e4:=qh0o v n x hv hn
 have NX:=Lib.hid (show ∀W,Calls Tryz.prog 152 #[.int .u8 x.toNat,.int .i64 ((n:Int)+1)] W fun e w'=>e = .returned (.int .i64 2)∧W=w' from fun W=>by
  have h:=qnz1 x (n+1) W
  rw[hx] at h
  exact h)
 clear hx
 generalize grow v n x=u at e4
 go_enter Tryz.func137,Tryz.ntmps137
 go_wp2_with (go_at_call 151;refine(quhv hc).mono ?_;rintro e' w' ⟨rfl,rfl⟩)
 go_still_tail 16,(by kernel_rfl)
 change wpList _ _ _ _ _ w.drew
 have hd:Rd w.drew b v n 0:=hc.drew
 have hg:w.grownBy w.drew (some b):=⟨rfl,rfl,rfl,Nat.le_refl _,fun _ _ _=>rfl⟩
 generalize w.drew=W at hd hg
 clear h1 h2 h3 f1 f2 f3
 have h1:=hd.c1
 have h2:=hd.c2
 have h3:=hd.c3
 have f1:=hd.fr 1
 have f2:=hd.fr 2
 have f3:=hd.fr 3
 go_wp2_with (go_at_call 152;refine(NX.out _).mono ?_;rintro e' w' ⟨rfl,rfl⟩)
 go_ret2
 exact⟨rfl,((hd.val u).siz (n+1)).sta 2,qo6d hg (qo6d (qo6d (q99v _ _ _ _) (q99v _ _ _ _)) (q99v _ _ _ _))⟩
end Go.Proofs.YthhdhagenmcbeaaGreat
