/- The contracts of varint's functions on numbers and bytes alone: next, Size. No condition. -/
import Derived.Lib.BitFns
import Derived.Great.BuildSlice
import Derived.StillTailTactics
import Derived.Deep.DeepCutAuto
import Derived.Great.Frames
import Derived.Test.YtefmhbioggcfaaaGreatDoorK11
import Derived.Test.YtefmhbioggcfaaaGreatDoorK15
set_option maxHeartbeats 4000000
set_option maxRecDepth 100000
namespace Go.Proofs.YtefmhbioggcfaaaGreatDoor
open Lib(hid)
open Proofs.Tryz
open Go.RowKit
theorem qm1s(b:UInt8):bits .and .u8 (b.toNat:Int) 128=if 128<=b.toNat then 128 else 0:=by
 have all:∀x:Fin 256,bits .and .u8 (x.val:Int) 128=if 128<=x.val then 128 else 0:=by decide+kernel
 exact all ⟨b.toNat,b.toNat_lt⟩
theorem qbg0(b:UInt8):bits .and .u8 (b.toNat:Int) 127=((b.toNat%128:Nat):Int):=by
 have all:∀x:Fin 256,bits .and .u8 (x.val:Int) 127=((x.val%128:Nat):Int):=by decide+kernel
 exact all ⟨b.toNat,b.toNat_lt⟩
theorem qoki(x:Nat)(h:x<128):bits .or .u8 (x:Int) 128=((x+128:Nat):Int):=by
 have all:∀x:Fin 128,bits .or .u8 (x.val:Int) 128=((x.val+128:Nat):Int):=by decide+kernel
 exact all ⟨x,h⟩
theorem quym(x:Int)(w:World)(h0:0<=x)(h1:x<=268435455) :
 Calls prog 83 #[.int .u64 x] w fun e w'=>e=.returned (.int .i64 (Lib.bitLen x.toNat))/\w=w':=by
 have h32:x<4294967296:=by omega
 by_cases c1:x<256
 ·have l:=Lib.bitLen_le8' x h0 (by omega);have g0:x<=255:=by omega
  go_in;go_wp2;go_ret;refine⟨congrArg Ending.returned (congrArg (Value.int IntKind.i64) ?_),rfl⟩;rw[Lib.len8_of x h0 g0];unfold wrap64;omega
 by_cases c2:x<65536
 ·have l:=Lib.bitLen_le8' (x / 256) (by omega) (by omega);have s:=Lib.bitLen_shift8 x.toNat (by omega) (by omega);have g0:0<=x / 256:=by omega
  have g1:x / 256<=255:=by omega
  have e:(x / 256).toNat=x.toNat / 256:=by omega
  rw[e] at l;have E:=hid e;have S:=hid s;clear e s;go_in;go_wp2;go_ret;refine⟨congrArg Ending.returned (congrArg (Value.int IntKind.i64) ?_),rfl⟩;rw[Lib.len8_of (x / 256) g0 g1,E.out,S.out];unfold wrap64;omega
 by_cases c3:x<16777216
 ·have l:=Lib.bitLen_le8' (x / 65536) (by omega) (by omega);have s:=Lib.bitLen_shift16 x.toNat (by omega) (by omega);have g0:0<=x / 65536:=by omega
  have g1:x / 65536<=255:=by omega
  have e:(x / 65536).toNat=x.toNat / 65536:=by omega
  rw[e] at l;have E:=hid e;have S:=hid s;clear e s;go_in;go_wp2;go_ret;refine⟨congrArg Ending.returned (congrArg (Value.int IntKind.i64) ?_),rfl⟩;rw[Lib.len8_of (x / 65536) g0 g1,E.out,S.out];unfold wrap64;omega
 ·have l:=Lib.bitLen_le8' (x / 65536 / 256) (by omega) (by omega);have s:=Lib.bitLen_shift24 x.toNat (by omega) (by omega);have g0:0<=x / 65536 / 256:=by omega
  have g1:x / 65536 / 256<=255:=by omega
  have e:(x / 65536 / 256).toNat=x.toNat / 16777216:=by omega
  rw[e] at l;have E:=hid e;have S:=hid s;clear e s;go_in;go_wp2;go_ret;refine⟨congrArg Ending.returned (congrArg (Value.int IntKind.i64) ?_),rfl⟩;rw[Lib.len8_of (x / 65536 / 256) g0 g1,E.out,S.out];unfold wrap64;omega
theorem q5on(x:Int)(w:World)(h0:0<=x)(h1:x<=268435455) :
 Calls prog 50 #[.int .u64 x] w fun e w'=>e=.returned (.int .i64 (Lib.bitLen x.toNat))/\w=w':=by
 go_in;go_wp2_with (go_at_call 83;refine(quym x _ h0 h1).mono ?_;rintro e w' ⟨rfl,rfl⟩);go_ret;exact⟨rfl,rfl⟩
theorem qbdl(n:Nat)(h:n<=268435455):(max 1 (Lib.bitLen n)+6) / 7=sz n:=by
 have low:∀k,k<=63->2^k<=n->k<Lib.bitLen n:=fun k hk hn=>by
  have hpos:n / 2^k≠0:=by have:=Nat.div_pos hn (Nat.two_pow_pos k);omega
  have h64:n<2^64:=by
   have:(268435455:Nat)<2^64:=by decide
   omega
  rw[Lib.bitLen_shift k n hn h64,Lib.bitLen_half _ hpos (Nat.lt_of_le_of_lt (Nat.div_le_self _ _) h64)];omega
 rcases qnl4 n h with ⟨e,h1⟩|⟨e,h1,h2⟩|⟨e,h1,h2⟩|⟨e,h1⟩<;>rw[e]
 ·have:=Lib.bitLen_le n 7 (by decide) h1
  omega
 ·have:=Lib.bitLen_le n 14 (by decide) h2
  have:=low 7 (by decide) h1
  omega
 ·have:=Lib.bitLen_le n 21 (by decide) h2
  have:=low 14 (by decide) h1
  omega
 ·have:=Lib.bitLen_le n 28 (by decide) (by omega)
  have:=low 21 (by decide) h1
  omega
theorem ql84(n:Nat)(h:n<=268435455):(max 1 (Lib.bitLen n:Int)+7-1) / 7=sz n:=by
 rw[<-qbdl n h];generalize Lib.bitLen n=b;rcases Nat.le_total 1 b with h|h
 ·rw[Nat.max_eq_right h,Int.max_eq_right (by omega)];omega
 ·rw[Nat.max_eq_left h,Int.max_eq_left (by omega)];omega
theorem qk0d(n:Int)(w:World) :
 Calls prog 57 #[.int .i64 n] w fun e w'=>e=.returned (.int .i64 (sz n))/\w=w':=by
 by_cases h1:n<0
 ·rw[qbck.2 (.inl h1)];go_in;go_wp2;go_ret;exact⟨rfl,rfl⟩
 by_cases h2:268435455<n
 ·rw[qbck.2 (.inr h2)];go_in;go_wp2;go_ret;exact⟨rfl,rfl⟩
 ·obtain⟨k,rfl⟩:=Int.eq_ofNat_of_zero_le (show 0<=n by omega);have e:=ql84 k (by omega);have b:=Lib.bitLen_le k 28 (by decide) (by omega);have E:=hid e;clear e;go_in;go_wp2_with (go_at_call 50;refine(q5on k _ (by omega) (by omega)).mono ?_;rintro e w' ⟨rfl,rfl⟩);go_ret;exact⟨congrArg Ending.returned (congrArg (Value.int IntKind.i64) E.out),rfl⟩
theorem q5nr:(prog.info? 38).map (·.size)=some 25:=by kernel_rfl
def pkZ:Array Value:=#[.int .i64 0,.bool false,.bool false,.int .i64 0,.int .i64 0,.string ⟨#[]⟩,.string ⟨#[]⟩,.bool false,.int .i64 0,.string ⟨#[]⟩,.bool false,.string ⟨#[]⟩,.bool false,.string ⟨#[]⟩,.bool false,.string ⟨#[]⟩,.string ⟨#[]⟩,.int .i64 0,.bool false,.slice none 0 0,.bool false,.int .i64 0,.slice none 0 0,.slice none 0 0,.slice none 0 0]
theorem qrai(W:World):(zeroValue 38).run prog W=.ok (.agg pkZ) W:=by kernel_rfl
theorem qbwp:pkZ.size=25:=rfl
def pkD(k:Int)(d r:Bool)(q:Int):Array Value:=#[.int .i64 k,.bool d,.bool r,.int .i64 q,.int .i64 0,.string ⟨#[]⟩,.string ⟨#[]⟩,.bool false,.int .i64 0,.string ⟨#[]⟩,.bool false,.string ⟨#[]⟩,.bool false,.string ⟨#[]⟩,.bool false,.string ⟨#[]⟩,.string ⟨#[]⟩,.int .i64 0,.bool false,.slice none 0 0,.bool false,.int .i64 0,.slice none 0 0,.slice none 0 0,.slice none 0 0]
theorem qqq1(k:Int)(d r:Bool)(q:Int):(pkD k d r q).all (·.oneCell')=true:=by simp[pkD,Value.oneCell']
def qojd(v:Int):Int:=if v=4 then 14 else if v=5 then 15 else 0
theorem qtq4(v:Int)(w:World):Calls prog 51 #[.int .i64 v] w fun e w'=>e=.returned (.int .i64 (qojd v))/\w=w':=by
 unfold qojd;by_cases h4:v=4
 ·subst h4;go_in;go_wp2;go_ret;exact⟨rfl,rfl⟩
 by_cases h5:v=5
 ·subst h5;go_in;go_wp2;go_ret;exact⟨rfl,rfl⟩
 rw[if_neg h4,if_neg h5];have e4:(v==4)=false:=by rw[beq_eq_false_iff_ne];exact h4
 have e5:(v==5)=false:=by rw[beq_eq_false_iff_ne];exact h5
 clear h4 h5;go_in;go_wp2;go_ret;exact⟨rfl,rfl⟩
theorem q53g{v:Int}(h:verH v=true):v=4\/v=5:=by unfold verH at h;simpa only[Bool.or_eq_true,beq_iff_eq] using h
theorem q25y{v:Int}(h:verH v=false):v≠4/\v≠5:=by unfold verH at h;simpa only[Bool.or_eq_false_iff,beq_eq_false_iff_ne] using h
def verE(v:Int):Int:=if verH v=false then 2 else 0
theorem qzcr(v:Int)(w:World):Calls prog 39 #[.int .i64 v] w fun e w'=>e=.returned (.int .i64 (verE v))/\w=w':=by
 have L:=hid (qtq4 v);cases h:verH v
 ·have hv:=q25y h;have hl:qojd v=0:=by unfold qojd;rw[if_neg hv.1,if_neg hv.2]
  have he:verE v=2:=by unfold verE;rw[h];rfl
  rw[he];rw[hl] at L;clear hl he hv h;go_in;go_wp2_with fail;refine(L.out _).mono ?_;rintro e w' ⟨rfl,rfl⟩;go_wp2;go_ret;exact⟨rfl,rfl⟩
 ·have he:verE v=0:=by unfold verE;rw[h];rfl
  rw[he];rcases q53g h with rfl|rfl
  all_goals clear he h;go_in;go_wp2_with fail;refine(L.out _).mono ?_;rintro e w' ⟨rfl,rfl⟩;go_wp2;go_ret;exact⟨rfl,rfl⟩
def q2fo(v k:Int):Int:=if verH v=false then 2 else if qbe2 v k=false then 8 else 0
theorem qk5h(v k:Int)(w:World):Calls prog 55 #[.int .i64 v,.int .i64 k] w fun e w'=>e=.returned (.int .i64 (q2fo v k))/\w=w':=by
 have V:=hid (qzcr v);have L:=hid (qtq4 v);cases h:verH v
 ·have he:q2fo v k=2:=by unfold q2fo;rw[h];rfl
  have h2:verE v=2:=by unfold verE;rw[h];rfl
  rw[he];rw[h2] at V;clear he h2 h;go_in;go_wp2_with fail;refine(V.out _).mono ?_;rintro e w' ⟨rfl,rfl⟩;go_wp2;go_ret;exact⟨rfl,rfl⟩
 have h2:verE v=0:=by unfold verE;rw[h];rfl
 rw[h2] at V;clear h2;by_cases h1:k<1
 ·have he:q2fo v k=8:=by unfold q2fo qbe2;rw[h,if_neg (by simp),decide_eq_false (show ¬1<=k by omega)];rfl
  rw[he];have hd:decide (k<1)=true:=decide_eq_true h1;clear he h h1;go_in;go_wp2_with fail;refine(V.out _).mono ?_;rintro e w' ⟨rfl,rfl⟩;go_wp2;go_ret;exact⟨rfl,rfl⟩
 have hd:decide (k<1)=false:=decide_eq_false h1;by_cases h3:qojd v<k
 ·have he:q2fo v k=8:=by
   have hk:qbe2 v k=false:=by
    unfold qbe2;rcases q53g h with rfl|rfl
    ·have h3':14<k:=h3;rw[decide_eq_false (show ¬k<15 by omega)];simp
    ·have h3':15<k:=h3;rw[decide_eq_false (show ¬k<15 by omega),show(k==15)=false by rw[beq_eq_false_iff_ne];omega];simp
   unfold q2fo;rw[h,hk];rfl
  rw[he];have hg:decide (qojd v<k)=true:=decide_eq_true h3;generalize qojd v=z at *;clear he h h1 h3;go_in;go_wp2_with fail;refine(V.out _).mono ?_;rintro e w' ⟨rfl,rfl⟩;go_wp2_with fail;refine(L.out _).mono ?_;rintro e w' ⟨rfl,rfl⟩;go_wp2;go_ret;exact⟨rfl,rfl⟩
 ·have he:q2fo v k=0:=by
   have hk:qbe2 v k=true:=by
    unfold qbe2;rw[decide_eq_true (show 1<=k by omega)];rcases q53g h with rfl|rfl
    ·have h3':¬14<k:=h3;rw[decide_eq_true (show k<15 by omega)];rfl
    ·have h3':¬15<k:=h3;by_cases h15:k=15
     ·subst h15;rfl
     ·rw[decide_eq_true (show k<15 by omega)];rfl
   unfold q2fo;rw[h,hk];rfl
  rw[he];have hg:decide (qojd v<k)=false:=decide_eq_false h3;generalize qojd v=z at *;clear he h h1 h3;go_in;go_wp2_with fail;refine(V.out _).mono ?_;rintro e w' ⟨rfl,rfl⟩;go_wp2_with fail;refine(L.out _).mono ?_;rintro e w' ⟨rfl,rfl⟩;go_wp2;go_ret;exact⟨rfl,rfl⟩
def qnmj(k:Int)(d r:Bool)(q:Int):Int×Nat:=
 if k=6\/k=8\/k=10 then(2,0) else if k=3 then(if q0xk d q then(qgl0 d r q,0) else(0,7)) else(0,0)
theorem q4eo(v k:Int)(d r:Bool)(q:Int):qjyu v k d r q=if q2fo v k=0 then qnmj k d r q else(0,(q2fo v k).toNat):=by
 unfold qjyu q2fo qnmj;cases verH v
 ·rfl
 ·cases qbe2 v k
  ·rfl
  ·rfl
def qu2r(x:Int×Nat)(w:World)(e:Ending)(w':World):Prop:=e=.returned (.tuple #[.int .i64 x.1,.int .i64 (x.2:Nat)])/\Below w.heap.size w w'
theorem qa1w{q:Int}{d r:Bool}{c:Array Value}(w:World)(h1:c[1]?=some (.bool d))(h2:c[2]?=some (.bool r))(h3:c[3]?=some (.int .i64 q)):Calls prog 99 #[.agg c] w (qu2r (if q0xk d q then(qgl0 d r q,0) else(0,7)) w):=by
 have hb:∀o,Below w.heap.size w (w.alloc o):=fun o=>(Below.refl _ _).alloc (Nat.le_refl _) _;have HB:=hid hb;clear hb;by_cases hq0:q<0
 ·have e:q0xk d q=false:=by unfold q0xk;rw[decide_eq_false (show ¬0<=q by omega)];rfl
  rw[e];clear e;go_in;go_wp2
  go_ret2
  exact⟨rfl,HB.out _⟩
 by_cases hq2:2<q
 ·have e:q0xk d q=false:=by unfold q0xk;rw[decide_eq_false (show ¬q<=2 by omega)];simp
  rw[e];clear e;go_in;go_wp2
  go_ret2
  exact⟨rfl,HB.out _⟩
 obtain rfl|rfl|rfl:q=0\/q=1\/q=2:=by omega
 all_goals clear hq0 hq2;cases d<;>cases r
 all_goals
  go_in;go_wp2
  go_ret2
  exact⟨rfl,HB.out _⟩
theorem qo12{k q:Int}{d r:Bool}{c:Array Value}(w:World)(hs:c.size=25)(h0:c[0]?=some (.int .i64 k))(h1:c[1]?=some (.bool d))(h2:c[2]?=some (.bool r))(h3:c[3]?=some (.int .i64 q)):Calls prog 70 #[.agg c] w (qu2r (qnmj k d r q) w):=by
 have hb:∀o,Below w.heap.size w (w.alloc o):=fun o=>(Below.refl _ _).alloc (Nat.le_refl _) _;have HB:=hid hb;clear hb;have P:=hid (fun W=>qa1w W h1 h2 h3);unfold qnmj;have HS:=hid hs;clear h1 h2 h3 hs;by_cases hk3:k=3
 ·subst hk3;rw[if_neg (by decide),if_pos rfl];generalize (if q0xk d q then(qgl0 d r q,0) else((0,7):Int×Nat))=z at *;go_in;go_wp2_with (refine wpList_load_row rfl _ _ rfl w.heap.size rfl 38 _ (0,0) _ (heap_alloc_new w _) underlying38 rfl (by rw[HS.out];exact q5nr) ?_);go_wp2_with fail;refine(P.out _).mono ?_;rintro e w' ⟨rfl,h⟩;go_wp2
  go_ret2
  exact⟨rfl,(HB.out _).trans (h.mono (HB.out _).size)⟩
 by_cases h6:k=6
 ·subst h6;go_in;go_wp2
  go_ret2
  exact⟨rfl,HB.out _⟩
 by_cases h8:k=8
 ·subst h8;go_in;go_wp2
  go_ret2
  exact⟨rfl,HB.out _⟩
 by_cases h10:k=10
 ·subst h10;go_in;go_wp2
  go_ret2
  exact⟨rfl,HB.out _⟩
 rw[if_neg (by omega),if_neg hk3];have e3:(k==3)=false:=by rw[beq_eq_false_iff_ne];exact hk3
 have e6:(k==6)=false:=by rw[beq_eq_false_iff_ne];exact h6
 have e8:(k==8)=false:=by rw[beq_eq_false_iff_ne];exact h8
 have e10:(k==10)=false:=by rw[beq_eq_false_iff_ne];exact h10
 clear hk3 h6 h8 h10;go_in;go_wp2
 go_ret2
 exact⟨rfl,HB.out _⟩
theorem q2el(v:Int){k q:Int}{d r:Bool}{c:Array Value}(w:World)(hs:c.size=25)(h0:c[0]?=some (.int .i64 k))(h1:c[1]?=some (.bool d))(h2:c[2]?=some (.bool r))(h3:c[3]?=some (.int .i64 q)):Calls prog 47 #[.int .i64 v,.agg c] w (qu2r (qjyu v k d r q) w):=by
 have hb:∀o,Below w.heap.size w (w.alloc o):=fun o=>(Below.refl _ _).alloc (Nat.le_refl _) _;have HB:=hid hb;clear hb;rw[q4eo];have K:=hid (qk5h v k);have F:=hid (fun W=>qo12 W hs h0 h1 h2 h3);have HS:=hid hs;clear h1 h2 h3 hs;by_cases h:q2fo v k=0
 ·rw[if_pos h];rw[h] at K;clear h;generalize qnmj k d r q=z at *;go_in;go_wp2_with fail;refine(K.out _).mono ?_;rintro e w' ⟨rfl,rfl⟩;go_wp2_with (refine wpList_load_row rfl _ _ rfl w.heap.size rfl 38 _ (0,0) _ (heap_alloc_new w _) underlying38 rfl (by rw[HS.out];exact q5nr) ?_);go_wp2_with fail;refine(F.out _).mono ?_;rintro e w' ⟨rfl,h⟩;go_wp2
  go_ret2
  exact⟨rfl,(HB.out _).trans (h.mono (HB.out _).size)⟩
 ·rw[if_neg h];have hz:((q2fo v k).toNat:Int)=q2fo v k:=by
   have:0<=q2fo v k:=by
    unfold q2fo;split
    ·decide
    ·split<;>decide
   omega
  unfold qu2r;show Calls _ _ _ _ fun e w'=>e=.returned (.tuple #[.int .i64 0,.int .i64 ((q2fo v k).toNat:Int)])/\Below w.heap.size w w';rw[hz];have hn:(q2fo v k==0)=false:=by rw[beq_eq_false_iff_ne];exact h
  clear F hz h;generalize q2fo v k=z at *;go_in;go_wp2_with fail;refine(K.out _).mono ?_;rintro e w' ⟨rfl,rfl⟩;go_wp2
  go_ret2
  exact⟨rfl,HB.out _⟩
def hdV(h:Hd):Value := .agg #[.int .i64 h.kind,.int .i64 h.flags,.int .i64 h.length]
def qrta(k:Int)(d r:Bool)(q:Int)(w:World)(e:Ending)(w':World):Prop:=
 ∃c:Array Value,e=.returned (.agg c)/\c.size=25/\c[0]?=some (.int .i64 k)/\c[1]?=some (.bool d)/\c[2]?=some (.bool r)/\c[3]?=some (.int .i64 q)/\Below w.heap.size w w'
theorem qyup(h:Hd)(w:World):Calls prog 86 #[hdV h] w (qrta h.kind (bits .and .i64 h.flags 8 != 0) (bits .and .i64 h.flags 1 != 0) (wrap64 ((bits .and .i64 h.flags 6).tdiv 2)) w):=by
 have hzv:=qrai;have HZ:=hid qbwp;have HB:=hid (fun o o'=>qxh2 (qybm (w:=w) o) (qybm o'));have HN:=hid (fun o o'=>heap_alloc2_new w o o');have hne:¬pkZ=#[]:=by intro h;have:=qbwp;rw[h] at this;cases this
 generalize pkZ=Z at hzv HZ hne;generalize hD:pkD h.kind (bits .and .i64 h.flags 8 != 0) (bits .and .i64 h.flags 1 != 0) (wrap64 ((bits .and .i64 h.flags 6).tdiv 2))=D;have HD:=hid hD;clear hD;unfold hdV;go_in;go_wp2_with (first
  |(refine wpList_buildTo rfl 38 _ rfl (some 17) rfl D (by rw[<-HD.out];kernel_rfl) ?_)
  |(refine wpList_store_row rfl _ _ _ rfl (w.heap.size+1) D rfl rfl 38 _ (HN.out _ _) ?c1 ?c2 ?c3 ?_))
 case c1=>rw[<-HD.out];exact q5nr
 case c2=>rw[HZ.out,<-HD.out];rfl
 case c3=>rw[<-HD.out];exact qqq1 _ _ _ _
 refine q7wi (cs:=D) rfl rfl rfl underlying38 rfl (by rw[<-HD.out];exact q5nr) (setRow_heap _ _ _ _ _ _ (HN.out _ _)) ?_;rw[<-HD.out];exact⟨_,rfl,rfl,rfl,rfl,rfl,rfl,q8xz (HB.out _ _) (by omega) _⟩
def fitH(k f:Int):Bool:=(qnmj k (bits .and .i64 f 8 != 0) (bits .and .i64 f 1 != 0) (wrap64 ((bits .and .i64 f 6).tdiv 2))).2==0&&(qnmj k (bits .and .i64 f 8 != 0) (bits .and .i64 f 1 != 0) (wrap64 ((bits .and .i64 f 6).tdiv 2))).1==f
theorem q6ae(k:Int)(d r:Bool)(q:Int):0<=(qnmj k d r q).1/\(qnmj k d r q).1<=15:=by
 unfold qnmj;split
 ·exact⟨by decide,by decide⟩
 split
 ·cases h:q0xk d q
  ·exact⟨Int.le_refl 0,show(0:Int)<=15 by decide⟩
  ·rw[if_pos rfl];unfold q0xk at h;simp only[Bool.and_eq_true,decide_eq_true_eq,Bool.not_eq_true'] at h;obtain⟨⟨q0,q2⟩,_⟩:=h;unfold qgl0;cases d<;>cases r<;>simp<;>omega
 ·exact⟨by decide,by decide⟩
theorem qd45(k f:Int):fitH k f=qg3k k f:=by
 by_cases hf:0<=f/\f<=15
 ·have:f=0\/f=1\/f=2\/f=3\/f=4\/f=5\/f=6\/f=7\/f=8\/f=9\/f=10\/f=11\/f=12\/f=13\/f=14\/f=15:=by omega
  by_cases h3:k=3
  ·subst h3;rcases this with rfl|rfl|rfl|rfl|rfl|rfl|rfl|rfl|rfl|rfl|rfl|rfl|rfl|rfl|rfl|rfl<;>decide+kernel
  by_cases h6:k=6\/k=8\/k=10
  ·unfold fitH qnmj qg3k;rw[if_pos h6,if_neg h3,if_pos h6,beq_self_eq_true,Bool.true_and,Bool.eq_iff_iff,beq_iff_eq,beq_iff_eq];exact eq_comm
  ·unfold fitH qnmj qg3k;rw[if_neg h6,if_neg h3,if_neg h3,if_neg h6,beq_self_eq_true,Bool.true_and,Bool.eq_iff_iff,beq_iff_eq,beq_iff_eq];exact eq_comm
 ·have h1:fitH k f=false:=by
   unfold fitH
   have:=q6ae k (bits .and .i64 f 8 != 0) (bits .and .i64 f 1 != 0) (wrap64 ((bits .and .i64 f 6).tdiv 2))
   generalize qnmj k (bits .and .i64 f 8 != 0) (bits .and .i64 f 1 != 0) (wrap64 ((bits .and .i64 f 6).tdiv 2))=z at *;rw[Bool.and_eq_false_iff]
   right
   rw[beq_eq_false_iff_ne];omega
  rw[h1];cases h:qg3k k f
  ·rfl
  ·exact absurd (qo5i h) hf
theorem qfxa(h:Hd)(w:World):Calls prog 56 #[hdV h] w fun e w'=>e=.returned (.bool (qg3k h.kind h.flags))/\Below w.heap.size w w':=by
 rw[<-qd45];unfold fitH;have D:=hid (qyup h);generalize (bits .and .i64 h.flags 8 != 0)=d at *;generalize (bits .and .i64 h.flags 1 != 0)=r at *;generalize (wrap64 ((bits .and .i64 h.flags 6).tdiv 2))=q at *;have HB:=hid (fun o=>qybm (w:=w) o);have F:=hid (fun(c:Array Value) (W:World) (hs:c.size=25) (h0:c[0]?=some (.int .i64 h.kind)) (h1:c[1]?=some (.bool d)) (h2:c[2]?=some (.bool r)) (h3:c[3]?=some (.int .i64 q))=>qo12 W hs h0 h1 h2 h3);generalize qnmj h.kind d r q=z at *;obtain⟨k,f,l⟩:=h;obtain⟨B,hB⟩:∃B,(z.2==0&&z.1==(⟨k,f,l⟩:Hd).flags)=B:=⟨_,rfl⟩
 rw[hB];have EB:=hid hB;clear hB;unfold hdV at *;go_in;go_wp2_with fail;refine(D.out _).mono ?_;rintro e w' ⟨c,rfl,hs,h0,h1,h2,h3,hb⟩;have FF:=hid (F.out c w' hs h0 h1 h2 h3);have B2:=hid (qxh2 (HB.out _) hb);clear hs h0 h1 h2 h3;obtain⟨x,y⟩:=z;have hc:=hb.cell (p:=⟨w.heap.size,1,none⟩) (by simp);rw[World.cell?_alloc_at _ _ _ _ rfl] at hc;have HS:=hid (show w.heap.size<w'.heap.size by have:=hb.size;rw[World.size_alloc] at this;omega);clear hb;go_wp2_with fail;refine(FF.out).mono ?_;rintro e w2 ⟨rfl,hb⟩;have B3:=hid (qxh2 B2.out hb);have hc2:=(hb.cell (p:=⟨w.heap.size,1,none⟩) HS.out).trans hc;clear hc hb;by_cases hy:y=0
 ·subst hy;have hx:(x==f)=B:=EB.out;have HX:=hid hx;clear hx;go_wp2;go_ret;exact⟨congrArg (fun b=>Ending.returned (Value.bool b)) HX.out,B3.out⟩
 ·have hy2:((y:Int)==0)=false:=by simp;omega
  have hy3:false=B:=by rw[<-EB.out];show false=((y==0)&&(x==f));simp[hy]
  have HX:=hid hy3;clear hy3 hy;go_wp2;go_ret;exact⟨congrArg (fun b=>Ending.returned (Value.bool b)) HX.out,B3.out⟩
theorem q5sb(v:Int)(h:Hd)(w:World):Calls prog 43 #[.int .i64 v,hdV h] w fun e w'=>e=.returned (.int .i64 (q9d8 v h:Nat))/\Below w.heap.size w w':=by
 have K:=hid (qk5h v h.kind);have F:=hid (qfxa h);have S:=hid (qk0d h.length);have HB:=hid (fun o=>qybm (w:=w) o);by_cases hk:q2fo v h.kind=0
 ·rw[hk] at K;cases hf:qg3k h.kind h.flags
  ·have e:q9d8 v h=7:=by
    unfold q2fo at hk;unfold q9d8;cases hv:verH v
    ·rw[hv] at hk;cases hk
    ·cases hv2:qbe2 v h.kind
     ·rw[hv,hv2] at hk;cases hk
     ·rw[hf];rfl
   rw[e];rw[hf] at F;clear e hf hk;obtain⟨k,f,l⟩:=h;unfold hdV at *;go_in;go_wp2_with fail;refine(K.out _).mono ?_;rintro e w' ⟨rfl,rfl⟩;go_wp2_with fail;refine(F.out _).mono ?_;rintro e w' ⟨rfl,hb⟩;have B2:=hid (qxh2 (HB.out _) hb);clear hb;go_wp2;go_ret;exact⟨rfl,B2.out⟩
  ·rw[hf] at F;have e:q9d8 v h=if sz h.length=0 then 2 else 0:=by
    unfold q2fo at hk;unfold q9d8;cases hv:verH v
    ·rw[hv] at hk;cases hk
    ·cases hv2:qbe2 v h.kind
     ·rw[hv,hv2] at hk;cases hk
     ·rw[hf];simp only[Bool.true_eq_false,if_false];by_cases hl:h.length<0\/268435455<h.length
      ·rw[if_pos hl,if_pos (qbck.2 hl)]
      ·rw[if_neg hl,if_neg (fun h0=>hl (qbck.1 h0))]
   rw[e];clear e hf hk;obtain⟨k,f,l⟩:=h;unfold hdV at *;by_cases h0:sz l=0
   ·rw[if_pos h0];rw[show sz (⟨k,f,l⟩:Hd).length=sz l from rfl,h0] at S;clear h0;go_in;go_wp2_with fail;refine(K.out _).mono ?_;rintro e w' ⟨rfl,rfl⟩;go_wp2_with fail;refine(F.out _).mono ?_;rintro e w' ⟨rfl,hb⟩;have B2:=hid (qxh2 (HB.out _) hb);have hc:=hb.cell (p:=⟨w.heap.size,2,none⟩) (by simp);rw[World.cell?_alloc_at _ _ _ _ rfl] at hc;clear hb;go_wp2_with fail;refine(S.out _).mono ?_;rintro e w' ⟨rfl,rfl⟩;go_wp2;go_ret;exact⟨rfl,B2.out⟩
   ·rw[if_neg h0];have hn:((sz l:Int)==0)=false:=by simp;omega
    clear h0;go_in;go_wp2_with fail;refine(K.out _).mono ?_;rintro e w' ⟨rfl,rfl⟩;go_wp2_with fail;refine(F.out _).mono ?_;rintro e w' ⟨rfl,hb⟩;have B2:=hid (qxh2 (HB.out _) hb);have hc:=hb.cell (p:=⟨w.heap.size,2,none⟩) (by simp);rw[World.cell?_alloc_at _ _ _ _ rfl] at hc;clear hb;go_wp2_with fail;refine(S.out _).mono ?_;rintro e w' ⟨rfl,rfl⟩;go_wp2;go_ret;exact⟨rfl,B2.out⟩
 ·have e:((q9d8 v h:Nat):Int)=q2fo v h.kind:=by
   unfold q2fo at hk ⊢;unfold q9d8;cases hv:verH v
   ·rfl
   ·cases hv2:qbe2 v h.kind
    ·rfl
    ·rw[hv,hv2] at hk;exact absurd rfl hk
  rw[e];have hn:(q2fo v h.kind==0)=false:=by rw[beq_eq_false_iff_ne];exact hk
  clear e hk F S;obtain⟨k,f,l⟩:=h;unfold hdV at *;generalize q2fo v k=z at *;go_in;go_wp2_with fail;refine(K.out _).mono ?_;rintro e w' ⟨rfl,rfl⟩;go_wp2;go_ret;exact⟨rfl,HB.out _⟩
theorem qnz1(b:UInt8)(n:Nat)(w:World) :
 Calls prog 88 #[.int .u8 b.toNat,.int .i64 n] w fun e w'=>e=.returned (.int .i64 (nxt b n))/\w=w':=by
 have hb:=b.toNat_lt;have ha:=qm1s b;by_cases h1:128<=b.toNat
 ·rw[if_pos h1] at ha;by_cases h2:n=4
  ·subst h2;have e:nxt b 4=2:=qt6b.2 (.inl ⟨h1,rfl⟩);rw[e];clear e;go_in;go_wp2;go_ret;exact⟨rfl,rfl⟩
  ·have e:nxt b n=0:=qv8z.2 ⟨h1,h2⟩;rw[e];clear e;have h3:((n:Int)==4)=false:=by simp;omega
   go_in;go_wp2;go_ret;exact⟨rfl,rfl⟩
 ·rw[if_neg h1] at ha;by_cases h2:b.toNat=0
  ·by_cases h3:1<n
   ·have e:nxt b n=2:=qt6b.2 (.inr ⟨h2,h3⟩);rw[e];clear e;rw[h2] at ha;rw[h2];have h4:decide ((1:Int)<(n:Int))=true:=by simp;omega
    go_in;go_wp2;go_ret;exact⟨rfl,rfl⟩
   ·have e:nxt b n=1:=qicf.2 ⟨by omega,.inr (by omega)⟩;rw[e];clear e;rw[h2] at ha;rw[h2];have h4:decide ((1:Int)<(n:Int))=false:=by simp;omega
    go_in;go_wp2;go_ret;exact⟨rfl,rfl⟩
  ·have e:nxt b n=1:=qicf.2 ⟨by omega,.inl (by omega)⟩;rw[e];clear e;have h4:((b.toNat:Int)==0)=false:=by simp;omega
   go_in;go_wp2;go_ret;exact⟨rfl,rfl⟩
def qxoj(b v n st:Nat):Array Value:=#[.pointer (some ⟨b,0,none⟩),.int .i64 v,.int .i64 n,.int .i64 st]
def Rd(w:World)(b v n st:Nat):Prop:=w.heap[b]?=some (.cells (qxoj b v n st) 120 (0,0))
section
variable{w w':World}{b v n st:Nat}
theorem Rd.lt(h:Rd w b v n st):b<w.heap.size:=lt_of_block h
theorem Rd.cell(h:Rd w b v n st)(j:Nat):w.cell? ⟨b,j,none⟩=(qxoj b v n st)[j]? := cell_of_row w b j _ _ (0,0) h
theorem Rd.c0(h:Rd w b v n st):w.cell? ⟨b,0,none⟩=some (.pointer (some ⟨b,0,none⟩)):=h.cell 0
theorem Rd.c1(h:Rd w b v n st):w.cell? ⟨b,1,none⟩=some (.int .i64 v):=h.cell 1
theorem Rd.c2(h:Rd w b v n st):w.cell? ⟨b,2,none⟩=some (.int .i64 n):=h.cell 2
theorem Rd.c3(h:Rd w b v n st):w.cell? ⟨b,3,none⟩=some (.int .i64 st):=h.cell 3
theorem Rd.fr(h:Rd w b v n st)(j:Nat):w.frozen? ⟨b,j,none⟩=false:=by unfold Rd at h;simp[World.frozen?,h]
theorem Rd.draws(h:Rd w b v n st)(k:Nat):Rd (w.drewN k) b v n st:=h
theorem Rd.drew(h:Rd w b v n st):Rd w.drew b v n st:=h
theorem Rd.of_block(h:Rd w b v n st)(hb:w'.heap[b]?=w.heap[b]?):Rd w' b v n st:=hb.trans h
theorem Rd.val(h:Rd w b v n st)(u:Nat):Rd (w.setCell ⟨b,1,none⟩ (.int .i64 u)) b u n st:=qlvy h 1 _
theorem Rd.siz(h:Rd w b v n st)(u:Nat):Rd (w.setCell ⟨b,2,none⟩ (.int .i64 u)) b v u st:=qlvy h 2 _
theorem Rd.sta(h:Rd w b v n st)(u:Nat):Rd (w.setCell ⟨b,3,none⟩ (.int .i64 u)) b v n u:=qlvy h 3 _
end
theorem qp2k:∃j,prog.info? 120=some j:=Option.isSome_iff_exists.1 (by kernel_rfl)
theorem quhv{w:World}{b v n st:Nat}(hc:Rd w b v n st) :
 Calls prog 87 #[.pointer (some ⟨b,0,none⟩)] w fun e w'=>e=.returned (.bool true)/\w=w':=by
 obtain⟨j,hj⟩:=qp2k;have heq:=fun W:World=>run_eql_ptr_same (P:=prog) W ⟨b,0,none⟩ underlying114 hj;have h0:=hc.c0;clear hj;go_in;go_wp2;go_ret;exact⟨rfl,rfl⟩
theorem qz5z(w:World) :
 Calls prog 58 #[] w fun e w'=>e=.returned (.pointer (some ⟨w.heap.size,0,none⟩))/\Rd w' w.heap.size 0 0 0/\Below w.heap.size w w':=by
 go_in;go_wp2;go_ret;exact⟨rfl,heap_alloc_new w _,(Below.refl _ _).alloc (Nat.le_refl _) _⟩
theorem qh0o(v n:Nat)(x:UInt8)(hv:v<128^n)(hn:n<4):bits .or .i64 (v:Int) (IntKind.i64.wrap ((x.toNat:Int)%128*2^(7*(n:Int)).toNat))=((grow v n x:Nat):Int):=by
 have e1:(7*(n:Int)).toNat=7*n:=by omega
 have e128:(128:Nat)^n=2^(7*n):=by rw[Nat.pow_mul]
 have hp:(2:Nat)^(7*n)<=2^21:=Nat.pow_le_pow_right (by decide) (by omega);have hx:x.toNat%128<=127:=by omega
 have hm:x.toNat%128*2^(7*n)<=127*2^21:=Nat.mul_le_mul hx hp;have e2:(x.toNat:Int)%128*2^(7*n)=((x.toNat%128*2^(7*n):Nat):Int):=by simp
 unfold grow;rw[e128] at hv ⊢;rw[e1,e2,IntWalk.i64_in _ (by omega)];rw[(bits_nat .i64 28 (by decide) (fun m h0 h1=>IntWalk.i64_in _ (by omega)) v (x.toNat%128*2^(7*n)) (by omega) (by omega)).2]
 congr 1
 rw[Nat.or_comm,Nat.mul_comm,<-Nat.two_pow_add_eq_or_of_lt hv (x.toNat%128)];omega
theorem qh0d{w:World}{b v n:Nat}(x:UInt8)(hc:Rd w b v n 0)(hv:v<128^n)(hn:n<4)(hx:nxt x (n+1)=0) :
 Calls prog 59 #[.pointer (some ⟨b,0,none⟩),.int .u8 x.toNat] w fun e w'=>e=.returned (.tuple #[.bool false,.int .i64 0])/\Rd w' b (grow v n x) (n+1) 0/\w.grownBy w' (some b):=by
 have h1:=hc.c1;have h2:=hc.c2;have h3:=hc.c3;have f1:=hc.fr 1;have f2:=hc.fr 2;have f3:=hc.fr 3;have ha:=qbg0 x;have e1:IntKind.i64.wrap ((x.toNat:Int)%128)=(x.toNat:Int)%128:=IntWalk.i64_in _ (by omega);have e2:IntKind.i64.wrap (7*(n:Int))=7*(n:Int):=IntWalk.i64_in _ (by omega);have e3:(0:Int)<=7*(n:Int):=by omega
 have e4:=qh0o v n x hv hn;have NX:=hid (show ∀W,Calls prog 88 #[.int .u8 x.toNat,.int .i64 ((n:Int)+1)] W fun e w'=>e=.returned (.int .i64 0)/\W=w' from fun W=>by have h:=qnz1 x (n+1) W;rw[hx] at h;exact h)
 clear hx;generalize grow v n x=u at e4;go_in;go_wp2_with (go_at_call 87;refine(quhv hc).mono ?_;rintro e' w' ⟨rfl,rfl⟩)
 go_still_tail 16,(by kernel_rfl)
 change wpList _ _ _ _ _ w.drew;have hd:Rd w.drew b v n 0:=hc.drew;have hg:w.grownBy w.drew (some b):=⟨rfl,rfl,rfl,Nat.le_refl _,fun _ _ _=>rfl⟩
 generalize w.drew=W at hd hg;clear h1 h2 h3 f1 f2 f3;have h1:=hd.c1;have h2:=hd.c2;have h3:=hd.c3;have f1:=hd.fr 1;have f2:=hd.fr 2;have f3:=hd.fr 3;go_wp2_with (go_at_call 88;refine(NX.out _).mono ?_;rintro e' w' ⟨rfl,rfl⟩)
 go_ret2
 exact⟨rfl,((hd.val u).siz (n+1)).sta 0,qo6d hg (qo6d (qo6d (q99v _ _ _ _) (q99v _ _ _ _)) (q99v _ _ _ _))⟩
theorem qhre{w:World}{b v n:Nat}(x:UInt8)(hc:Rd w b v n 0)(hv:v<128^n)(hn:n<4)(hx:nxt x (n+1)=1) :
 Calls prog 59 #[.pointer (some ⟨b,0,none⟩),.int .u8 x.toNat] w fun e w'=>e=.returned (.tuple #[.bool true,.int .i64 0])/\Rd w' b (grow v n x) (n+1) 1/\w.grownBy w' (some b):=by
 have h1:=hc.c1;have h2:=hc.c2;have h3:=hc.c3;have f1:=hc.fr 1;have f2:=hc.fr 2;have f3:=hc.fr 3;have ha:=qbg0 x;have e1:IntKind.i64.wrap ((x.toNat:Int)%128)=(x.toNat:Int)%128:=IntWalk.i64_in _ (by omega);have e2:IntKind.i64.wrap (7*(n:Int))=7*(n:Int):=IntWalk.i64_in _ (by omega);have e3:(0:Int)<=7*(n:Int):=by omega
 have e4:=qh0o v n x hv hn;have NX:=hid (show ∀W,Calls prog 88 #[.int .u8 x.toNat,.int .i64 ((n:Int)+1)] W fun e w'=>e=.returned (.int .i64 1)/\W=w' from fun W=>by have h:=qnz1 x (n+1) W;rw[hx] at h;exact h)
 clear hx;generalize grow v n x=u at e4;go_in;go_wp2_with (go_at_call 87;refine(quhv hc).mono ?_;rintro e' w' ⟨rfl,rfl⟩)
 go_still_tail 16,(by kernel_rfl)
 change wpList _ _ _ _ _ w.drew;have hd:Rd w.drew b v n 0:=hc.drew;have hg:w.grownBy w.drew (some b):=⟨rfl,rfl,rfl,Nat.le_refl _,fun _ _ _=>rfl⟩
 generalize w.drew=W at hd hg;clear h1 h2 h3 f1 f2 f3;have h1:=hd.c1;have h2:=hd.c2;have h3:=hd.c3;have f1:=hd.fr 1;have f2:=hd.fr 2;have f3:=hd.fr 3;go_wp2_with (go_at_call 88;refine(NX.out _).mono ?_;rintro e' w' ⟨rfl,rfl⟩)
 go_ret2
 exact⟨rfl,((hd.val u).siz (n+1)).sta 1,qo6d hg (qo6d (qo6d (q99v _ _ _ _) (q99v _ _ _ _)) (q99v _ _ _ _))⟩
theorem qdxq{w:World}{b v n:Nat}(x:UInt8)(hc:Rd w b v n 0)(hv:v<128^n)(hn:n<4)(hx:nxt x (n+1)=2) :
 Calls prog 59 #[.pointer (some ⟨b,0,none⟩),.int .u8 x.toNat] w fun e w'=>e=.returned (.tuple #[.bool false,.int .i64 5])/\Rd w' b (grow v n x) (n+1) 2/\w.grownBy w' (some b):=by
 have h1:=hc.c1;have h2:=hc.c2;have h3:=hc.c3;have f1:=hc.fr 1;have f2:=hc.fr 2;have f3:=hc.fr 3;have ha:=qbg0 x;have e1:IntKind.i64.wrap ((x.toNat:Int)%128)=(x.toNat:Int)%128:=IntWalk.i64_in _ (by omega);have e2:IntKind.i64.wrap (7*(n:Int))=7*(n:Int):=IntWalk.i64_in _ (by omega);have e3:(0:Int)<=7*(n:Int):=by omega
 have e4:=qh0o v n x hv hn;have NX:=hid (show ∀W,Calls prog 88 #[.int .u8 x.toNat,.int .i64 ((n:Int)+1)] W fun e w'=>e=.returned (.int .i64 2)/\W=w' from fun W=>by have h:=qnz1 x (n+1) W;rw[hx] at h;exact h)
 clear hx;generalize grow v n x=u at e4;go_in;go_wp2_with (go_at_call 87;refine(quhv hc).mono ?_;rintro e' w' ⟨rfl,rfl⟩)
 go_still_tail 16,(by kernel_rfl)
 change wpList _ _ _ _ _ w.drew;have hd:Rd w.drew b v n 0:=hc.drew;have hg:w.grownBy w.drew (some b):=⟨rfl,rfl,rfl,Nat.le_refl _,fun _ _ _=>rfl⟩
 generalize w.drew=W at hd hg;clear h1 h2 h3 f1 f2 f3;have h1:=hd.c1;have h2:=hd.c2;have h3:=hd.c3;have f1:=hd.fr 1;have f2:=hd.fr 2;have f3:=hd.fr 3;go_wp2_with (go_at_call 88;refine(NX.out _).mono ?_;rintro e' w' ⟨rfl,rfl⟩)
 go_ret2
 exact⟨rfl,((hd.val u).siz (n+1)).sta 2,qo6d hg (qo6d (qo6d (q99v _ _ _ _) (q99v _ _ _ _)) (q99v _ _ _ _))⟩
theorem qe0g(s:ByteArray)(k:Nat)(h:k<s.size):s.data.toList.drop k=s[k]::s.data.toList.drop (k+1):=by rw[List.drop_eq_getElem_cons (by simpa using h)];rfl
theorem qhwc(s:ByteArray):s.data.toList.drop s.size=[]:=List.drop_of_length_le (by simp)
def q51h(l:List UInt8):Ending := .returned (.tuple #[.int .i64 (rdV l),.int .i64 (rdN l),.int .i64 (rdE l)])
theorem qxud{l:List UInt8}{v n st:Nat}{a b c:Int}(h:run 0 0 l=(v,n,st))(ha:((if st=1 then v else 0:Nat):Int)=a)(hb:((if st=1 then n else 0:Nat):Int)=b)
 (hc:((if st=0 then 3 else if st=1 then 0 else 5:Nat):Int)=c):Ending.returned (.tuple #[.int .i64 a,.int .i64 b,.int .i64 c])=q51h l:=by
 obtain⟨h1,h2,h3⟩:=rd_of h;rw[<-ha,<-hb,<-hc,<-h1,<-h2,<-h3];rfl
def qxfh(l:List UInt8)(w:World)(e:Ending)(w':World):Prop:=e=q51h l/\Below w.heap.size w w'
def q905(w:World)(l:List UInt8)(k:Nat)(wr:World):Prop:=∃v,k<4/\v<128^k/\Rd wr w.heap.size v k 0/\Below w.heap.size w wr/\run 0 0 l=run v k (l.drop k)
theorem q58y{w wr w1:World}(hb:Below w.heap.size w wr)(hg:wr.grownBy w1 (some w.heap.size)):Below w.heap.size w w1:=
 hb.grown hg hb.size (fun k hk=>by cases hk;exact Nat.le_refl _)
theorem q6w6(s:ByteArray)(w:World)(_hm:s.size<=9223372036854775807) :
 Calls prog 44 #[.string s] w (qxfh s.data.toList w):=by
 go_in;go_wp2_with fail;refine(qz5z _).mono ?_;rintro e w1 ⟨rfl,hr,hb⟩;have H:=hid (show q905 w s.data.toList 0 w1 from⟨0,by decide,by decide,hr,hb,rfl⟩);clear hr hb;go_wp2_with fail
 go_loopw [12] (fun i wr=>∃k:Nat,k<=s.size/\i=.int .i64 k/\q905 w s.data.toList k wr) (fun i _=>s.size-(intOf i).toNat)
 case atStart=>exact⟨0,Nat.zero_le _,rfl,H.out⟩
 case round=>
  obtain⟨k,hk,rfl,v,hk4,hv,hr,hb,hrun⟩:=hrel;clear H;by_cases hlt:k<s.size
  ·have hd:=qe0g s k hlt;have RUN:=hid hrun;have D:=hid hd;clear hrun hd;rcases qlf0 s[k] (k+1) with hx|hx|hx
   ·have NX:=hid hx;clear hx;go_wp2_with fail;refine(qh0d s[k] hr hv hk4 NX.out).mono ?_;rintro e w2 ⟨rfl,hr2,hg⟩;have hb2:=q58y hb hg;go_wp2_with fail
    go_roundw
    case rel=>have h4:=(qv8z.1 NX.out).2;refine⟨k+1,by omega,by go_num,_,by omega,qpfr _ hv,hr2,hb2,?_⟩;rw[RUN.out,D.out,qomx _ NX.out]
    case measure=>simp[intOf];omega
   ·have NX:=hid hx;clear hx;go_wp2_with fail;refine(qhre s[k] hr hv hk4 NX.out).mono ?_;rintro e w2 ⟨rfl,hr2,hg⟩;have hb2:=q58y hb hg;have RR:=hid (qxud (l:=s.data.toList) (v:=grow v k s[k]) (n:=k+1) (st:=1) (by rw[RUN.out,D.out,q408 _ (by rw[NX.out];decide),NX.out]) rfl rfl rfl);have h1:=hr2.c1;have h2:=hr2.c2;go_wp2_with fail;go_quiet (fail);go_wp2
    go_ret3
    exact⟨RR.out,qnpu hb2 _⟩
   ·have NX:=hid hx;clear hx;go_wp2_with fail;refine(qdxq s[k] hr hv hk4 NX.out).mono ?_;rintro e w2 ⟨rfl,hr2,hg⟩;have hb2:=q58y hb hg;have RR:=hid (qxud (l:=s.data.toList) (v:=grow v k s[k]) (n:=k+1) (st:=2) (by rw[RUN.out,D.out,q408 _ (by rw[NX.out];decide),NX.out]) rfl rfl rfl);go_wp2
    go_ret3
    exact⟨RR.out,hb2⟩
  ·obtain rfl:k=s.size:=by omega
   have RR:=hid (qxud (l:=s.data.toList) (v:=v) (n:=s.size) (st:=0) (by rw[hrun,qhwc];rfl) rfl rfl rfl);clear hrun;go_wp2
   go_ret3
   exact⟨RR.out,hb⟩
def adZ:Ad:=⟨none,0,none,0,none,0,none,0⟩
theorem qa3p(W:World):PkAt W Pk.zero adZ:=⟨fun e=>absurd rfl e,fun e=>absurd rfl e,fun e=>absurd rfl e,fun e=>absurd rfl e⟩
theorem qe1o:PkCap Pk.zero adZ:=⟨Nat.zero_le _,Nat.zero_le _,by decide⟩
theorem qx9v(p:Pk)(W:World)(h:p.wProps=[]/\p.codes=[]/\p.filters=[]/\p.props=[]):PkAt W p adZ:=
 ⟨by rw[h.1];exact fun e=>absurd rfl e,by rw[h.2.1];exact fun e=>absurd rfl e,by rw[h.2.2.1];exact fun e=>absurd rfl e,by rw[h.2.2.2];exact fun e=>absurd rfl e⟩
def FrA(w:World)(p:Pk)(a:Ad):Prop:=
 ∀g i,(p.wProps≠[]/\a.w=some ⟨g,i,none⟩\/p.codes≠[]/\a.cs=some ⟨g,i,none⟩\/p.filters≠[]/\a.fs=some ⟨g,i,none⟩\/a.ps=some ⟨g,i,none⟩)->w.heap.size<=g
theorem FrA.mono{w W:World}{p:Pk}{a:Ad}(h:FrA W p a)(hw:w.heap.size<=W.heap.size):FrA w p a:=fun g i e=>Nat.le_trans hw (h g i e)
theorem q16x(w:World):FrA w Pk.zero adZ:=by
 rintro g i (⟨h,-⟩|⟨h,-⟩|⟨h,-⟩|h)
 ·exact absurd rfl h
 ·exact absurd rfl h
 ·exact absurd rfl h
 ·cases h
theorem qq13{w:World}{p:Pk}{a:Ad}(h1:p.wProps=[])(h2:p.codes=[])(h3:p.filters=[])(h:∀g i,a.ps=some ⟨g,i,none⟩->w.heap.size<=g):FrA w p a:=by
 rintro g i (⟨e,-⟩|⟨e,-⟩|⟨e,-⟩|e)
 ·exact absurd h1 e
 ·exact absurd h2 e
 ·exact absurd h3 e
 ·exact h g i e
theorem FrA.row{w W:World}{p:Pk}{a:Ad}(h:FrA w p a){b:Nat}(hb:b<w.heap.size)(hp:PkAt W p a)(D:Array Value):PkAt (W.setRow b D) p a:=by
 have o:∀g,w.heap.size<=g->(W.setRow b D).heap[g]?=W.heap[g]? := fun g hg=>setRow_other W b g D (by omega);have z:W.heap.size<=(W.setRow b D).heap.size:=by simp[World.setRow]
 refine⟨fun hn=>hp.w.kept z (fun g i e _=>o g (h g i (.inl ⟨hn,e⟩))) hn,fun hn=>hp.cs.kept z (fun g i e _=>o g (h g i (.inr (.inl ⟨?_,e⟩)))) hn,fun hn=>hp.fs.kept z (fun g i e _=>o g (h g i (.inr (.inr (.inl ⟨?_,e⟩))))) hn,hp.ps.kept z (fun g i e _=>o g (h g i (.inr (.inr (.inr e)))))⟩
 ·intro e;rw[e] at hn;exact hn rfl
 ·intro e;rw[e] at hn;exact hn rfl
def FitA(p:Pk):Prop:=PkOk p/\q21o p
theorem q0yw{kind:Int}{i c:Nat}{l:List Pr}(hk:-9223372036854775808<=kind/\kind<=9223372036854775807)(hl:(∀p∈l,PrOk p/\p.text.length<=65535/\p.value.length<=65535)/\l.length<=1000):FitA (pkB kind i c l):=by
 refine⟨⟨hk,by show _<=(0:Int)/\(0:Int)<=_;decide,fun t ht=>?_,fun x hx=>(nomatch hx),fun x hx=>?_,fun x hx=>(nomatch hx)⟩,Nat.zero_le _,Nat.zero_le _,Nat.le_trans hl.2 (by decide),Nat.zero_le _⟩
 ·have:t=[]:=by simpa [Pk.texts,Pk.zero,pkB] using ht
  rw[this];decide
 ·obtain⟨h1,h2,h3⟩:=hl.1 x hx;exact⟨h1,by omega,by omega⟩
theorem qkys:FitA Pk.zero:=by
 have:=q0yw (kind:=0) (i:=0) (c:=0) (l:=[]) (by decide) ⟨fun p hp=>(nomatch hp),Nat.zero_le _⟩
 exact this
def q2da(w:World)(R:Pk×Nat)(e:Ending)(W:World):Prop:=
 ∃a:Ad,e=.returned (.tuple #[.agg (pkC R.1 a),.int .i64 (R.2:Nat)])/\PkAt W R.1 a/\R.1.props.length<=a.pc/\FitA R.1/\Below w.heap.size w W/\(R.2≠0->a=adZ)/\FrA w R.1 a
structure UsS(w:World)(p:Pk)(a:Ad)(x:Pk)(b:Ad)(W:World):Prop where
 low:Below w.heap.size w W
 box:W.heap[w.heap.size]?=some (.cells (pkC p a) 38 (0,0))
 res:W.heap[w.heap.size+1]?=some (.cells pkZ 38 (0,0))
 new:W.heap[w.heap.size+1+1]?=some (.cells (pkC x b) 38 (0,0))
section
variable{w W W':World}{p x:Pk}{a b:Ad}
theorem UsS.cell(h:UsS w p a x b W)(j:Nat):W.cell? ⟨w.heap.size,j,none⟩=(pkC p a)[j]? := cell_of_row _ _ j _ _ _ h.box
theorem UsS.ncell(h:UsS w p a x b W)(j:Nat):W.cell? ⟨w.heap.size+1+1,j,none⟩=(pkC x b)[j]? := cell_of_row _ _ j _ _ _ h.new
theorem UsS.fr(h:UsS w p a x b W)(j:Nat):W.frozen? ⟨w.heap.size+1+1,j,none⟩=false:=frozen_of_row _ _ _ _ _ h.new
theorem UsS.put(h:UsS w p a x b W)(j:Nat)(u:Value){x':Pk}{b':Ad}(he:(pkC x b).setIfInBounds j u=pkC x' b'):UsS w p a x' b' (W.setCell ⟨w.heap.size+1+1,j,none⟩ u):=
 ⟨h.low.setCell (by show _<=w.heap.size+1+1;omega) u,(heap_setCell_other W ⟨w.heap.size+1+1,j,none⟩ _ u (by show w.heap.size≠w.heap.size+1+1;omega)).trans h.box,(heap_setCell_other W ⟨w.heap.size+1+1,j,none⟩ _ u (by show w.heap.size+1≠w.heap.size+1+1;omega)).trans h.res,
  by have:=qlvy h.new j u;rw[he] at this;exact this⟩
theorem UsS.call(h:UsS w p a x b W)(hb:Below W.heap.size W W'):UsS w p a x b W':=
 ⟨qxh2 h.low hb,(hb.block _ (lt_of_block h.box)).trans h.box,(hb.block _ (lt_of_block h.res)).trans h.res,(hb.block _ (lt_of_block h.new)).trans h.new⟩
theorem UsS.drew(h:UsS w p a x b W):UsS w p a x b W.drew:=⟨h.low.drew,h.box,h.res,h.new⟩
end
theorem qnzz(v k:Int)(w:World):Calls prog 134 #[.int .i64 v,.int .i64 k] w fun e w'=>e=.returned (.bool (versC v&&qvya k))/\w=w':=by
 unfold versC qvya;have hv:v=4\/v=5\/((v==4)=false/\(v==5)=false):=by
  by_cases h4:v=4
  ·exact .inl h4
  by_cases h5:v=5
  ·exact .inr (.inl h5)
  exact .inr (.inr ⟨beq_eq_false_iff_ne.2 h4,beq_eq_false_iff_ne.2 h5⟩)
 have hk:decide (4<=k)=true\/decide (4<=k)=false:=by cases decide (4<=k)<;>simp
 rcases hv with rfl|rfl|⟨h4,h5⟩
 ·rcases hk with k1|k1
  all_goals rw[k1];go_in;go_wp2;go_ret;exact⟨by first|rfl|simp,rfl⟩
 ·rcases hk with k1|k1
  all_goals rw[k1];go_in;go_wp2;go_ret;exact⟨by first|rfl|simp,rfl⟩
 ·rw[h4,h5];go_in;go_wp2;go_ret;exact⟨by first|rfl|simp,rfl⟩
theorem q6c0(p:Pk)(a:Ad)(w:World):Calls prog 132 #[.agg (pkC p a)] w fun e w'=>e=.returned (.int .i64 (necA p:Nat))/\Below w.heap.size w w':=by
 have S0:=hid (BxS.made w p a);have c24:(w.alloc (.cells (pkC p a) 38)).cell? ⟨w.heap.size,24,none⟩=some (.slice a.ps p.props.length a.pc):=S0.out.cell 24;have c21:(w.alloc (.cells (pkC p a) 38)).cell? ⟨w.heap.size,21,none⟩=some (.int .i64 p.code):=S0.out.cell 21;unfold necA;by_cases hl:p.props=[]
 ·have hz:p.props.length=0:=by rw[hl];rfl
  rw[if_neg (by simpa using hl)];rw[hz] at c24;by_cases hc:p.code=0
  ·rw[if_neg (by simpa using hc)];rw[hc] at c21;clear hl hc hz;go_in;go_wp2;go_ret;exact⟨rfl,S0.out.low⟩
  ·rw[if_pos hc];have e1:(p.code==0)=false:=by simpa using hc
   have e2:(p.code != 0)=true:=by simpa using hc
   clear hl hc hz;generalize p.code=c at *;go_in;go_wp2;go_ret;exact⟨rfl,S0.out.low⟩
 ·rw[if_pos hl];have hz:0<p.props.length:=List.length_pos_iff.2 hl;clear hl;generalize p.props.length=n at *;go_in;go_wp2;go_ret;exact⟨rfl,S0.out.low⟩
def qo3o(v:Int)(p:Pk):Pk:={Pk.zero with kind:=p.kind,id:=p.id,code:=if v=5 then p.code else 0,props:=if v=5 then p.props else []}
def qi8p(v:Int)(a:Ad):Ad:={adZ with ps:=if v=5 then a.ps else none,pc:=if v=5 then a.pc else 0}
theorem qvqb{w:World}{p:Pk}{a:Ad}(v:Int)(h:PkAt w p a):PkAt w (qo3o v p) (qi8p v a):=by
 refine⟨fun e=>absurd rfl e,fun e=>absurd rfl e,fun e=>absurd rfl e,?_⟩;unfold qo3o qi8p;by_cases h5:v=5
 ·simp only[if_pos h5];exact h.ps
 ·simp only[if_neg h5];exact fun e=>absurd rfl e
theorem q9mw{p:Pk}(v:Int)(h:q21o p):q21o (qo3o v p):=by
 refine⟨Nat.zero_le _,Nat.zero_le _,?_,Nat.zero_le _⟩;unfold qo3o;by_cases h5:v=5
 ·simp only[if_pos h5];exact h.2.2.1
 ·simp only[if_neg h5];exact Nat.zero_le _
def us0A(p:Pk):Pk:={Pk.zero with kind:=p.kind,id:=p.id}
theorem qbym(v:Int)(p:Pk)(a:Ad)(w:World):Calls prog 210 #[.int .i64 v,.agg (pkC p a)] w fun e w'=>e=.returned (.agg (pkC (qo3o v p) (qi8p v a)))/\Below w.heap.size w w':=by
 have Z0:((w.alloc (.cells (pkC p a) 38)).alloc (.cells pkZ 38)).heap.size=w.heap.size+1+1:=by simp
 have GN:(((w.alloc (.cells (pkC p a) 38)).alloc (.cells pkZ 38)).alloc (.cells pkZ 38)).heap[w.heap.size+1+1]?=some (.cells pkZ 38 (0,0)):=by
  have:=heap_alloc_new ((w.alloc (.cells (pkC p a) 38)).alloc (.cells pkZ 38)) (.cells pkZ 38)
  rw[Z0] at this;exact this
 have S0:UsS w p a (us0A p) adZ ((((w.alloc (.cells (pkC p a) 38)).alloc (.cells pkZ 38)).alloc (.cells pkZ 38)).setRow (w.heap.size+1+1) (pkC (us0A p) adZ)):=by
  refine⟨q8xz (qxh2 (qxh2 (qybm _) (qybm _)) (qybm _)) (by omega) _,?_,?_,setRow_heap _ _ _ _ _ _ GN⟩
  ·exact(setRow_other _ _ _ _ (by omega)).trans ((heap_alloc_old _ _ (by rw[Z0];omega)).trans (heap_alloc2_old _ _ _))
  ·exact(setRow_other _ _ _ _ (by omega)).trans ((heap_alloc_old _ _ (by rw[Z0];omega)).trans (heap_alloc2_new _ _ _))
 have hzv:=qrai;have hne:¬pkZ=#[]:=by intro h;have:=qbwp;rw[h] at this;cases this
 have HZ:=hid qbwp;have GN:=hid GN;have hD1:=qwmp (us0A p) adZ;have hD2:=qmz0 (us0A p) adZ;obtain⟨D,hD⟩:∃D,pkC (us0A p) adZ=D:=⟨_,rfl⟩
 rw[hD] at hD1 hD2 S0;have HD:=hid hD;have HD1:=hid hD1;have HD2:=hid hD2;have HS0:=hid S0;have k0:((w.alloc (.cells (pkC p a) 38)).alloc (.cells pkZ 38)).cell? ⟨w.heap.size,0,none⟩=some (.int .i64 p.kind):=cell_of_row _ _ 0 _ _ _ (heap_alloc2_old _ _ _);have k4:((w.alloc (.cells (pkC p a) 38)).alloc (.cells pkZ 38)).cell? ⟨w.heap.size,4,none⟩=some (.int .i64 p.id):=cell_of_row _ _ 4 _ _ _ (heap_alloc2_old _ _ _);clear S0 hD hD1 hD2 Z0;go_in
 go_upto_if 12 with (first
  |(refine wpList_buildTo rfl 38 _ rfl (some _) rfl D (by rw[<-HD.out];kernel_rfl) ?_)
  |(refine wpList_store_row rfl _ _ _ rfl (w.heap.size+1+1) D rfl rfl 38 _ GN.out (by rw[HD1.out];exact q5nr) (by rw[HZ.out,HD1.out]) HD2.out ?_))
 clear k0 k4 GN HZ hne hzv;go_cut [] (fun wx=>UsS w p a (qo3o v p) (qi8p v a) wx)
 case first=>
  generalize (((w.alloc (.cells (pkC p a) 38)).alloc (.cells pkZ 38)).alloc (.cells pkZ 38)).setRow (w.heap.size+1+1) D=W at *;by_cases h5:v=5
  ·subst h5;have S1:=hid ((HS0.out.put 21 (.int .i64 p.code) (x':={us0A p with code:=p.code}) (b':=adZ) rfl).put 24 (.slice a.ps p.props.length a.pc) (x':=qo3o 5 p) (b':=qi8p 5 a) rfl);have k21:W.cell? ⟨w.heap.size,21,none⟩=some (.int .i64 p.code):=HS0.out.cell 21;have k24:W.cell? ⟨w.heap.size,24,none⟩=some (.slice a.ps p.props.length a.pc):=HS0.out.cell 24;have n21:W.cell? ⟨w.heap.size+1+1,21,none⟩=some (.int .i64 0):=HS0.out.ncell 21;have n24:W.cell? ⟨w.heap.size+1+1,24,none⟩=some (.slice none 0 0):=HS0.out.ncell 24;have f21:=HS0.out.fr 21;have f24:=HS0.out.fr 24;clear HS0
   go_upto_region 3 with fail
   go_region
   go_wp2_with fail
   go_meet
   exact S1.out.drew
  ·have h5':(v==5)=false:=beq_eq_false_iff_ne.2 h5;have SB:=hid (show UsS w p a (qo3o v p) (qi8p v a) W by unfold qo3o qi8p;rw[if_neg h5,if_neg h5,if_neg h5,if_neg h5];exact HS0.out)
   clear HS0 h5;go_wp2_with fail
   go_meet
   exact SB.out
 case rest=>
  have HS:=hid hcut;clear hcut HS0;have GB:=HS.out.new;have GR:=hid HS.out.res;have LO:=hid HS.out.low;have hR1:=qwmp (qo3o v p) (qi8p v a);have hR2:=qmz0 (qo3o v p) (qi8p v a);obtain⟨R,hR⟩:∃R,pkC (qo3o v p) (qi8p v a)=R:=⟨_,rfl⟩
  rw[hR] at GB hR1 hR2;have HR:=hid hR;have GB:=hid GB;have HR1:=hid hR1;have HR2:=hid hR2;clear hR1 hR2 HS hR;go_wp2_with (first
   |(refine wpList_load_row rfl _ _ rfl (w.heap.size+1+1) rfl 38 R (0,0) _ GB.out underlying38 rfl (by rw[HR1.out];exact q5nr) ?_)
   |(refine wpList_store_row rfl _ _ _ rfl (w.heap.size+1) R rfl rfl 38 _ GR.out (by rw[HR1.out];exact q5nr) (by rw[qbwp,HR1.out]) HR2.out ?_))
  exact q7wi (cs:=R) rfl rfl rfl underlying38 rfl (by rw[HR1.out];exact q5nr) (setRow_heap _ _ _ _ _ _ GR.out) ⟨by rw[HR.out],q8xz LO.out (by omega) _⟩
def q3zb(p:Pk):Array Value:=#[.int .i64 p.kind,.int .i64 p.qos,.int .i64 p.id,.int .i64 p.keep,.int .i64 p.code,.int .i64 p.wQos]
theorem q93c:(prog.info? 222).map (·.size)=some 6:=by kernel_rfl
theorem q8oq(p:Pk):(q3zb p).all (·.oneCell')=true:=by simp[q3zb,Value.oneCell']
theorem qi7b(p:Pk)(a:Ad)(w:World):Calls prog 197 #[pkV p a] w fun e w'=>e=.returned (.agg (q3zb p))/\Below w.heap.size w w':=by
 have HB:=hid (fun o o'=>qxh2 (qybm (w:=w) o) (qybm o'));have HN:=hid (fun o o'=>heap_alloc2_new w o o');have c0:(pkC p a)[0]?=some (.int .i64 p.kind):=rfl;have c3:(pkC p a)[3]?=some (.int .i64 p.qos):=rfl;have c4:(pkC p a)[4]?=some (.int .i64 p.id):=rfl;have c8:(pkC p a)[8]?=some (.int .i64 p.keep):=rfl;have c21:(pkC p a)[21]?=some (.int .i64 p.code):=rfl;have c17:(pkC p a)[17]?=some (.int .i64 p.wQos):=rfl;have hone:=q8oq p;have hsz:(q3zb p).size=6:=rfl;have hdef:q3zb p=#[.int .i64 p.kind,.int .i64 p.qos,.int .i64 p.id,.int .i64 p.keep,.int .i64 p.code,.int .i64 p.wQos]:=rfl;unfold pkV;generalize pkC p a=C at *;generalize q3zb p=D at *;generalize p.kind=v0 at *;generalize p.qos=v3 at *;generalize p.id=v4 at *;generalize p.keep=v8 at *;generalize p.code=v21 at *;generalize p.wQos=v17 at *;have H1:=hid hone;have H2:=hid hsz;have H3:=hid hdef;clear hone hsz hdef;go_in;go_wp2_with (first
  |(refine wpList_buildTo rfl 222 _ rfl (some 16) rfl D (by rw[H3.out];kernel_rfl) ?_)
  |(refine wpList_store_row rfl _ _ _ rfl (w.heap.size+1) D rfl rfl 222 _ (HN.out _ _) ?b1 ?b2 ?b3 ?_))
 case b1=>rw[H2.out];exact q93c
 case b2=>rw[H2.out];rfl
 case b3=>exact H1.out
 refine q7wi (cs:=D) rfl rfl rfl underlying222 rfl (by rw[H2.out];exact q93c) (setRow_heap _ _ _ _ _ _ (HN.out _ _)) ?_;exact⟨rfl,q8xz (HB.out _ _) (by omega) _⟩
theorem qnle(x0 y0 x1 y1 x2 y2 x3 y3 x4 y4 x5 y5:Int)(w:World):(Op.equalIn 10000 222 (.agg #[.int .i64 x0,.int .i64 x1,.int .i64 x2,.int .i64 x3,.int .i64 x4,.int .i64 x5]) (.agg #[.int .i64 y0,.int .i64 y1,.int .i64 y2,.int .i64 y3,.int .i64 y4,.int .i64 y5])).run prog w=.ok ((x0==y0)&&(x1==y1)&&(x2==y2)&&(x3==y3)&&(x4==y4)&&(x5==y5)) w:=by have u3:=underlying3;have a3:=Tryz.isAgg3;have z3:=Tryz.sizeOf3;rw[show(10000:Nat)=9999+1 from rfl,Op.equalIn];simp only[Sem.run_bind,run_underlying underlying222,Result.andThen_ok];simp only[Std.Legacy.Range.forIn_eq_forIn_range',Std.Legacy.Range.size,Nat.sub_zero,Nat.add_sub_cancel,Nat.div_one,List.range'_succ,List.range'_zero,List.forIn_cons,List.forIn_nil];go_simp;by_cases h0:x0=y0<;>by_cases h1:x1=y1<;>by_cases h2:x2=y2<;>by_cases h3:x3=y3<;>by_cases h4:x4=y4<;>by_cases h5:x5=y5<;>simp[h0,h1,h2,h3,h4,h5]
theorem qh1o(p q:Pk)(w:World):(binOp .eql 222 (.agg (q3zb p)) (.agg (q3zb q))).run prog w=.ok (.bool (decide (p.nums=q.nums))) w:=by
 rw[run_eql_struct];unfold q3zb;rw[qnle];show Result.ok (Value.bool _) w=_
 congr 2
 rw[Bool.eq_iff_iff];simp[Pk.nums,and_assoc]
def qjjk(p:Pk):Array Value:=#[.bool p.dup,.bool p.retain,.bool p.clean,.bool p.hasUser,.bool p.hasPass,.bool p.hasWill,.bool p.session,.bool p.wRetain]
theorem qa72:(prog.info? 224).map (·.size)=some 8:=by kernel_rfl
theorem qai1(p:Pk):(qjjk p).all (·.oneCell')=true:=by simp[qjjk,Value.oneCell']
theorem qu0d(p:Pk)(a:Ad)(w:World):Calls prog 198 #[pkV p a] w fun e w'=>e=.returned (.agg (qjjk p))/\Below w.heap.size w w':=by
 have HB:=hid (fun o o'=>qxh2 (qybm (w:=w) o) (qybm o'));have HN:=hid (fun o o'=>heap_alloc2_new w o o');have c1:(pkC p a)[1]?=some (.bool p.dup):=rfl;have c2:(pkC p a)[2]?=some (.bool p.retain):=rfl;have c7:(pkC p a)[7]?=some (.bool p.clean):=rfl;have c10:(pkC p a)[10]?=some (.bool p.hasUser):=rfl;have c12:(pkC p a)[12]?=some (.bool p.hasPass):=rfl;have c14:(pkC p a)[14]?=some (.bool p.hasWill):=rfl;have c20:(pkC p a)[20]?=some (.bool p.session):=rfl;have c18:(pkC p a)[18]?=some (.bool p.wRetain):=rfl;have hone:=qai1 p;have hsz:(qjjk p).size=8:=rfl;have hdef:qjjk p=#[.bool p.dup,.bool p.retain,.bool p.clean,.bool p.hasUser,.bool p.hasPass,.bool p.hasWill,.bool p.session,.bool p.wRetain]:=rfl;unfold pkV;generalize pkC p a=C at *;generalize qjjk p=D at *;generalize p.dup=v1 at *;generalize p.retain=v2 at *;generalize p.clean=v7 at *;generalize p.hasUser=v10 at *;generalize p.hasPass=v12 at *;generalize p.hasWill=v14 at *;generalize p.session=v20 at *;generalize p.wRetain=v18 at *;have H1:=hid hone;have H2:=hid hsz;have H3:=hid hdef;clear hone hsz hdef;go_in;go_wp2_with (first
  |(refine wpList_buildTo rfl 224 _ rfl (some 20) rfl D (by rw[H3.out];kernel_rfl) ?_)
  |(refine wpList_store_row rfl _ _ _ rfl (w.heap.size+1) D rfl rfl 224 _ (HN.out _ _) ?b1 ?b2 ?b3 ?_))
 case b1=>rw[H2.out];exact qa72
 case b2=>rw[H2.out];rfl
 case b3=>exact H1.out
 refine q7wi (cs:=D) rfl rfl rfl underlying224 rfl (by rw[H2.out];exact qa72) (setRow_heap _ _ _ _ _ _ (HN.out _ _)) ?_;exact⟨rfl,q8xz (HB.out _ _) (by omega) _⟩
theorem qu29(x0 y0 x1 y1 x2 y2 x3 y3 x4 y4 x5 y5 x6 y6 x7 y7:Bool)(w:World):(Op.equalIn 10000 224 (.agg #[.bool x0,.bool x1,.bool x2,.bool x3,.bool x4,.bool x5,.bool x6,.bool x7]) (.agg #[.bool y0,.bool y1,.bool y2,.bool y3,.bool y4,.bool y5,.bool y6,.bool y7])).run prog w=.ok ((x0==y0)&&(x1==y1)&&(x2==y2)&&(x3==y3)&&(x4==y4)&&(x5==y5)&&(x6==y6)&&(x7==y7)) w:=by have u3:=underlying4;have a3:=Tryz.isAgg4;have z3:=Tryz.sizeOf4;rw[show(10000:Nat)=9999+1 from rfl,Op.equalIn];simp only[Sem.run_bind,run_underlying underlying224,Result.andThen_ok];simp only[Std.Legacy.Range.forIn_eq_forIn_range',Std.Legacy.Range.size,Nat.sub_zero,Nat.add_sub_cancel,Nat.div_one,List.range'_succ,List.range'_zero,List.forIn_cons,List.forIn_nil];go_simp;by_cases h0:x0=y0<;>by_cases h1:x1=y1<;>by_cases h2:x2=y2<;>by_cases h3:x3=y3<;>by_cases h4:x4=y4<;>by_cases h5:x5=y5<;>by_cases h6:x6=y6<;>by_cases h7:x7=y7<;>simp[h0,h1,h2,h3,h4,h5,h6,h7]
theorem quaf(p q:Pk)(w:World):(binOp .eql 224 (.agg (qjjk p)) (.agg (qjjk q))).run prog w=.ok (.bool (decide (p.marks=q.marks))) w:=by
 rw[run_eql_struct];unfold qjjk;rw[qu29];show Result.ok (Value.bool _) w=_
 congr 2
 rw[Bool.eq_iff_iff];simp[Pk.marks,and_assoc]
def q5cx(p:Pk):Array Value:=#[.string (bs p.topic),.string (bs p.payload),.string (bs p.client),.string (bs p.user),.string (bs p.pass),.string (bs p.wTopic),.string (bs p.wPayload)]
theorem qebr:(prog.info? 226).map (·.size)=some 7:=by kernel_rfl
theorem qzoi(p:Pk):(q5cx p).all (·.oneCell')=true:=by simp[q5cx,Value.oneCell']
theorem quge(p:Pk)(a:Ad)(w:World):Calls prog 199 #[pkV p a] w fun e w'=>e=.returned (.agg (q5cx p))/\Below w.heap.size w w':=by
 have HB:=hid (fun o o'=>qxh2 (qybm (w:=w) o) (qybm o'));have HN:=hid (fun o o'=>heap_alloc2_new w o o');have c5:(pkC p a)[5]?=some (.string (bs p.topic)):=rfl;have c6:(pkC p a)[6]?=some (.string (bs p.payload)):=rfl;have c9:(pkC p a)[9]?=some (.string (bs p.client)):=rfl;have c11:(pkC p a)[11]?=some (.string (bs p.user)):=rfl;have c13:(pkC p a)[13]?=some (.string (bs p.pass)):=rfl;have c15:(pkC p a)[15]?=some (.string (bs p.wTopic)):=rfl;have c16:(pkC p a)[16]?=some (.string (bs p.wPayload)):=rfl;have hone:=qzoi p;have hsz:(q5cx p).size=7:=rfl;have hdef:q5cx p=#[.string (bs p.topic),.string (bs p.payload),.string (bs p.client),.string (bs p.user),.string (bs p.pass),.string (bs p.wTopic),.string (bs p.wPayload)]:=rfl;unfold pkV;generalize pkC p a=C at *;generalize q5cx p=D at *;generalize bs p.topic=v5 at *;generalize bs p.payload=v6 at *;generalize bs p.client=v9 at *;generalize bs p.user=v11 at *;generalize bs p.pass=v13 at *;generalize bs p.wTopic=v15 at *;generalize bs p.wPayload=v16 at *;have H1:=hid hone;have H2:=hid hsz;have H3:=hid hdef;clear hone hsz hdef;go_in;go_wp2_with (first
  |(refine wpList_buildTo rfl 226 _ rfl (some 19) rfl D (by rw[H3.out];kernel_rfl) ?_)
  |(refine wpList_store_row rfl _ _ _ rfl (w.heap.size+1) D rfl rfl 226 _ (HN.out _ _) ?b1 ?b2 ?b3 ?_))
 case b1=>rw[H2.out];exact qebr
 case b2=>rw[H2.out];rfl
 case b3=>exact H1.out
 refine q7wi (cs:=D) rfl rfl rfl underlying226 rfl (by rw[H2.out];exact qebr) (setRow_heap _ _ _ _ _ _ (HN.out _ _)) ?_;exact⟨rfl,q8xz (HB.out _ _) (by omega) _⟩
theorem qase(x0 y0 x1 y1 x2 y2 x3 y3 x4 y4 x5 y5 x6 y6:ByteArray)(w:World):(Op.equalIn 10000 226 (.agg #[.string x0,.string x1,.string x2,.string x3,.string x4,.string x5,.string x6]) (.agg #[.string y0,.string y1,.string y2,.string y3,.string y4,.string y5,.string y6])).run prog w=.ok ((x0.toList==y0.toList)&&(x1.toList==y1.toList)&&(x2.toList==y2.toList)&&(x3.toList==y3.toList)&&(x4.toList==y4.toList)&&(x5.toList==y5.toList)&&(x6.toList==y6.toList)) w:=by have u3:=underlying9;have a3:=Tryz.isAgg9;have z3:=Tryz.sizeOf9;rw[show(10000:Nat)=9999+1 from rfl,Op.equalIn];simp only[Sem.run_bind,run_underlying underlying226,Result.andThen_ok];simp only[Std.Legacy.Range.forIn_eq_forIn_range',Std.Legacy.Range.size,Nat.sub_zero,Nat.add_sub_cancel,Nat.div_one,List.range'_succ,List.range'_zero,List.forIn_cons,List.forIn_nil];go_simp;by_cases h0:x0.toList=y0.toList<;>by_cases h1:x1.toList=y1.toList<;>by_cases h2:x2.toList=y2.toList<;>by_cases h3:x3.toList=y3.toList<;>by_cases h4:x4.toList=y4.toList<;>by_cases h5:x5.toList=y5.toList<;>by_cases h6:x6.toList=y6.toList<;>simp[h0,h1,h2,h3,h4,h5,h6]
theorem q6p1(p q:Pk)(w:World):(binOp .eql 226 (.agg (q5cx p)) (.agg (q5cx q))).run prog w=.ok (.bool (decide (p.texts=q.texts))) w:=by
 rw[run_eql_struct];unfold q5cx;rw[qase];show Result.ok (Value.bool _) w=_
 congr 2
 rw[Bool.eq_iff_iff];simp[Pk.texts,q0c6,and_assoc]
theorem qbkq(p q:Pr)(w:World) :
 Calls prog 205 #[qbhk p,qbhk q] w fun e w'=>e=.returned (.bool (decide (p=q)))/\Below w.heap.size w w':=by
 have HB:=hid (fun o o'=>qxh2 (qybm (w:=w) o) (qybm o'));unfold qbhk;obtain⟨D,hD⟩:∃D,decide (p=q)=D:=⟨_,rfl⟩
 rw[hD];have hno:p≠q->D=false:=fun h=>by rw[<-hD];exact decide_eq_false h
 have HNO:=hid hno;have HD:=hid hD;clear hno hD;rcases qzlf p q with h|h|⟨h1,h2⟩|⟨h1,h2,h3⟩|⟨h1,h2,h3,h4⟩
 ·have hD:D=true:=by rw[<-HD.out];exact decide_eq_true h
  subst h hD;clear HD HNO;generalize p.id=x0;generalize ((p.n:Nat):Int)=x1;generalize bs p.text=x2;generalize bs p.value=x3;go_in;go_wp2;go_ret;exact⟨rfl,HB.out _ _⟩
 ·have hD:=HNO.out (fun e=>by rw[e] at h;simp at h);clear HD HNO;subst hD;generalize p.id=x0 at *;generalize ((p.n:Nat):Int)=x1 at *;generalize bs p.text=x2 at *;generalize bs p.value=x3 at *;generalize q.id=y0 at *;generalize ((q.n:Nat):Int)=y1 at *;generalize bs q.text=y2 at *;generalize bs q.value=y3 at *;go_in;go_wp2;go_ret;exact⟨rfl,HB.out _ _⟩
 ·have hD:=HNO.out (fun e=>by rw[e] at h2;simp at h2);clear HD HNO;subst hD;rw[h1];clear h1;generalize p.id=x0 at *;generalize ((p.n:Nat):Int)=x1 at *;generalize bs p.text=x2 at *;generalize bs p.value=x3 at *;generalize q.id=y0 at *;generalize ((q.n:Nat):Int)=y1 at *;generalize bs q.text=y2 at *;generalize bs q.value=y3 at *;go_in;go_wp2;go_ret;exact⟨rfl,HB.out _ _⟩
 ·have hD:=HNO.out (fun e=>by rw[e] at h3;simp at h3);clear HD HNO;subst hD;rw[h1];rw[h2];clear h1 h2;generalize p.id=x0 at *;generalize ((p.n:Nat):Int)=x1 at *;generalize bs p.text=x2 at *;generalize bs p.value=x3 at *;generalize q.id=y0 at *;generalize ((q.n:Nat):Int)=y1 at *;generalize bs q.text=y2 at *;generalize bs q.value=y3 at *;go_in;go_wp2;go_ret;exact⟨rfl,HB.out _ _⟩
 ·have hD:=HNO.out (fun e=>by rw[e] at h4;simp at h4);clear HD HNO;subst hD;rw[h1];rw[h2];rw[h3];clear h1 h2 h3;generalize p.id=x0 at *;generalize ((p.n:Nat):Int)=x1 at *;generalize bs p.text=x2 at *;generalize bs p.value=x3 at *;generalize q.id=y0 at *;generalize ((q.n:Nat):Int)=y1 at *;generalize bs q.text=y2 at *;generalize bs q.value=y3 at *;go_in;go_wp2;go_ret;exact⟨rfl,HB.out _ _⟩
theorem qqwl(p q:Fi)(w:World) :
 Calls prog 203 #[fiV p,fiV q] w fun e w'=>e=.returned (.bool (decide (p=q)))/\Below w.heap.size w w':=by
 have HB:=hid (fun o o'=>qxh2 (qybm (w:=w) o) (qybm o'));unfold fiV;obtain⟨D,hD⟩:∃D,decide (p=q)=D:=⟨_,rfl⟩
 rw[hD];have hno:p≠q->D=false:=fun h=>by rw[<-hD];exact decide_eq_false h
 have HNO:=hid hno;have HD:=hid hD;clear hno hD;rcases qpuj p q with h|h|⟨h1,h2⟩|⟨h1,h2,h3⟩|⟨h1,h2,h3,h4⟩|⟨h1,h2,h3,h4,h5⟩
 ·have hD:D=true:=by rw[<-HD.out];exact decide_eq_true h
  subst h hD;clear HD HNO;generalize bs p.topic=x0;generalize p.qos=x1;generalize p.noLocal=x2;generalize p.asPub=x3;generalize p.handling=x4;go_in;go_wp2;go_ret;exact⟨rfl,HB.out _ _⟩
 ·have hD:=HNO.out (fun e=>by rw[e] at h;simp at h);clear HD HNO;subst hD;generalize bs p.topic=x0 at *;generalize p.qos=x1 at *;generalize p.noLocal=x2 at *;generalize p.asPub=x3 at *;generalize p.handling=x4 at *;generalize bs q.topic=y0 at *;generalize q.qos=y1 at *;generalize q.noLocal=y2 at *;generalize q.asPub=y3 at *;generalize q.handling=y4 at *;go_in;go_wp2;go_ret;exact⟨rfl,HB.out _ _⟩
 ·have hD:=HNO.out (fun e=>by rw[e] at h2;simp at h2);clear HD HNO;subst hD;rw[h1];clear h1;generalize bs p.topic=x0 at *;generalize p.qos=x1 at *;generalize p.noLocal=x2 at *;generalize p.asPub=x3 at *;generalize p.handling=x4 at *;generalize bs q.topic=y0 at *;generalize q.qos=y1 at *;generalize q.noLocal=y2 at *;generalize q.asPub=y3 at *;generalize q.handling=y4 at *;go_in;go_wp2;go_ret;exact⟨rfl,HB.out _ _⟩
 ·have hD:=HNO.out (fun e=>by rw[e] at h3;simp at h3);clear HD HNO;subst hD;rw[h1];rw[h2];clear h1 h2;generalize bs p.topic=x0 at *;generalize p.qos=x1 at *;generalize p.noLocal=x2 at *;generalize p.asPub=x3 at *;generalize p.handling=x4 at *;generalize bs q.topic=y0 at *;generalize q.qos=y1 at *;generalize q.noLocal=y2 at *;generalize q.asPub=y3 at *;generalize q.handling=y4 at *;go_in;go_wp2;go_ret;exact⟨rfl,HB.out _ _⟩
 ·have hD:=HNO.out (fun e=>by rw[e] at h4;simp at h4);clear HD HNO;subst hD;rw[h1];rw[h2];rw[h3];clear h1 h2 h3;generalize bs p.topic=x0 at *;generalize p.qos=x1 at *;generalize p.noLocal=x2 at *;generalize p.asPub=x3 at *;generalize p.handling=x4 at *;generalize bs q.topic=y0 at *;generalize q.qos=y1 at *;generalize q.noLocal=y2 at *;generalize q.asPub=y3 at *;generalize q.handling=y4 at *;go_in;go_wp2;go_ret;exact⟨rfl,HB.out _ _⟩
 ·have hD:=HNO.out (fun e=>by rw[e] at h5;simp at h5);clear HD HNO;subst hD;rw[h1];rw[h2];rw[h3];rw[h4];clear h1 h2 h3 h4;generalize bs p.topic=x0 at *;generalize p.qos=x1 at *;generalize p.noLocal=x2 at *;generalize p.asPub=x3 at *;generalize p.handling=x4 at *;generalize bs q.topic=y0 at *;generalize q.qos=y1 at *;generalize q.noLocal=y2 at *;generalize q.asPub=y3 at *;generalize q.handling=y4 at *;go_in;go_wp2;go_ret;exact⟨rfl,HB.out _ _⟩
theorem q588(p q:Int)(w:World) :
 Calls prog 201 #[.int .i64 p,.int .i64 q] w fun e w'=>e=.returned (.bool (decide (p=q)))/\Below w.heap.size w w':=by
 have HR:=hid (Below.refl w.heap.size w);have e:(p==q)=decide (p=q):=by rw[Bool.eq_iff_iff];simp
 rw[<-e];clear e;go_in;go_wp2;go_ret;exact⟨rfl,HR.out⟩
theorem qk57(A B:Option Addr)(na nb c d:Nat)(l m:List Pr)(w:World)(hA:PL w A l)(hB:PL w B m)(hla:l.length=na)(hlb:m.length=nb)(hN:na<=70000)(hM:nb<=70000) :
 Calls prog 204 #[.slice A na c,.slice B nb d,.func (.func 205) #[] #[]] w fun e w'=>e=.returned (.bool (decide (l=m)))/\Below w.heap.size w w':=by
 by_cases hn:na=nb
 ·subst hn;obtain⟨D,hD⟩:∃D,decide (l=m)=D:=⟨_,rfl⟩
  rw[hD];have HD:=hid hD;have HA:=hid hA;have HB:=hid hB;have HLA:=hid hla;have HLB:=hid hlb;have B0:=hid (Below.refl w.heap.size w);have q0:(na:Int)<=70000:=by omega
  clear hA hB hla hlb hN hM hD;go_in;go_wp2_with fail
  go_loopg [17] na (fun gk i wr=>∃k:Nat,k<=na/\gk=na-k/\i=.int .i64 (k:Int)/\Below w.heap.size w wr/\∀j p q,j<k->l[j]?=some p->m[j]?=some q->p=q)
  case atStart=>exact⟨0,Nat.zero_le _,rfl,rfl,B0.out,fun j p q h=>by omega⟩
  case round=>
   obtain⟨k,hk,rfl,rfl,hb,hS⟩:=hrel;have HS:=hid hS;have B1:=hid hb;by_cases hlt:k<na
   ·have hkl:k<l.length:=by rw[HLA.out];exact hlt
    have hkm:k<m.length:=by rw[HLB.out];exact hlt
    obtain⟨p,hp⟩:∃p,l[k]?=some p:=⟨_,List.getElem?_eq_getElem hkl⟩
    obtain⟨q,hq⟩:∃q,m[k]?=some q:=⟨_,List.getElem?_eq_getElem hkm⟩
    have HA2:=hid (HA.out.below hb);have HB2:=hid (HB.out.below hb);obtain⟨ga,ia,rfl,la,a0,a1,a2,a3⟩:=HA2.out.at hp;obtain⟨gb,ib,rfl,lb,b0,b1,b2,b3⟩:=HB2.out.at hq;have HP:=hid hp;have HQ:=hid hq;have HL:=hid hlt;have g1:(k:Int)<(na:Int):=by omega
    have g2:=hb.size;have hyes:p=q\/D=false:=by
     by_cases h:p=q
     ·exact .inl h
     ·refine .inr ?_;rw[<-HD.out];exact decide_eq_false fun e=>h (by subst e;exact Option.some.inj (HP.out.symm.trans HQ.out))
    have HY:=hid hyes;have SM:=hid (qbkq p q);obtain⟨E,hE⟩:∃E,decide (p=q)=E:=⟨_,rfl⟩
    rw[hE] at SM;have HE:=hid hE;clear hS hkl hkm hp hq hlt hk hyes hb hE;unfold qbhk at SM;go_wp2_with fail;refine(SM.out _).mono ?_;rintro e w3 ⟨rfl,hb⟩;have B2:=hid (qxh2 (qxh2 (qxh2 B1.out (qybm _)) (qybm _)) hb);clear hb;cases E with
    |true=>
     go_wp2_with fail
     go_roundg (na-(k+1))
     case measure=>have:=HL.out;omega
     case rel=>
      have hpq:p=q:=of_decide_eq_true HE.out;refine⟨k+1,by have:=HL.out;omega,rfl,by go_num,B2.out,fun j u v hj hu hv=>?_⟩;by_cases hjk:j=k
      ·subst hjk;exact((Option.some.inj (hu.symm.trans HP.out)).trans hpq).trans (Option.some.inj (HQ.out.symm.trans hv))
      ·exact HS.out j u v (by omega) hu hv
    |false=>have hD:D=false:=(HY.out).resolve_left (of_decide_eq_false HE.out);subst hD;go_wp2;go_ret;exact⟨rfl,B2.out⟩
   ·obtain rfl:k=na:=by omega
    have hD:D=true:=by rw[<-HD.out];exact decide_eq_true (qs8g HLA.out HLB.out hS)
    subst hD;clear hS hlt hk hb;go_wp2;go_ret;exact⟨rfl,B1.out⟩
 ·have hD:decide (l=m)=false:=decide_eq_false fun e=>hn (by rw[<-hla,<-hlb,e]);have q0:((na:Int) != (nb:Int))=true:=by rw[bne_iff_ne];omega
  have B0:=hid (Below.refl w.heap.size w);rw[hD];clear hA hB hla hlb hN hM hD hn;go_in;go_wp2;go_ret;exact⟨rfl,B0.out⟩
theorem qm9z(A B:Option Addr)(na nb c d:Nat)(l m:List Fi)(w:World)(hA:CL w A (fcs l))(hB:CL w B (fcs m))(hla:l.length=na)(hlb:m.length=nb)(hN:na<=70000)(hM:nb<=70000) :
 Calls prog 202 #[.slice A na c,.slice B nb d,.func (.func 203) #[] #[]] w fun e w'=>e=.returned (.bool (decide (l=m)))/\Below w.heap.size w w':=by
 by_cases hn:na=nb
 ·subst hn;obtain⟨D,hD⟩:∃D,decide (l=m)=D:=⟨_,rfl⟩
  rw[hD];have HD:=hid hD;have HA:=hid hA;have HB:=hid hB;have HLA:=hid hla;have HLB:=hid hlb;have B0:=hid (Below.refl w.heap.size w);have q0:(na:Int)<=70000:=by omega
  clear hA hB hla hlb hN hM hD;go_in;go_wp2_with fail
  go_loopg [17] na (fun gk i wr=>∃k:Nat,k<=na/\gk=na-k/\i=.int .i64 (k:Int)/\Below w.heap.size w wr/\∀j p q,j<k->l[j]?=some p->m[j]?=some q->p=q)
  case atStart=>exact⟨0,Nat.zero_le _,rfl,rfl,B0.out,fun j p q h=>by omega⟩
  case round=>
   obtain⟨k,hk,rfl,rfl,hb,hS⟩:=hrel;have HS:=hid hS;have B1:=hid hb;by_cases hlt:k<na
   ·have hkl:k<l.length:=by rw[HLA.out];exact hlt
    have hkm:k<m.length:=by rw[HLB.out];exact hlt
    obtain⟨p,hp⟩:∃p,l[k]?=some p:=⟨_,List.getElem?_eq_getElem hkl⟩
    obtain⟨q,hq⟩:∃q,m[k]?=some q:=⟨_,List.getElem?_eq_getElem hkm⟩
    have HA2:=hid (HA.out.below hb);have HB2:=hid (HB.out.below hb);obtain⟨ga,ia,rfl,la,a0,a1,a2,a3,a4⟩:=HA2.out.fi hp;obtain⟨gb,ib,rfl,lb,b0,b1,b2,b3,b4⟩:=HB2.out.fi hq;have HP:=hid hp;have HQ:=hid hq;have HL:=hid hlt;have g1:(k:Int)<(na:Int):=by omega
    have g2:=hb.size;have hyes:p=q\/D=false:=by
     by_cases h:p=q
     ·exact .inl h
     ·refine .inr ?_;rw[<-HD.out];exact decide_eq_false fun e=>h (by subst e;exact Option.some.inj (HP.out.symm.trans HQ.out))
    have HY:=hid hyes;have SM:=hid (qqwl p q);obtain⟨E,hE⟩:∃E,decide (p=q)=E:=⟨_,rfl⟩
    rw[hE] at SM;have HE:=hid hE;clear hS hkl hkm hp hq hlt hk hyes hb hE;unfold fiV at SM;go_wp2_with fail;refine(SM.out _).mono ?_;rintro e w3 ⟨rfl,hb⟩;have B2:=hid (qxh2 (qxh2 (qxh2 B1.out (qybm _)) (qybm _)) hb);clear hb;cases E with
    |true=>
     go_wp2_with fail
     go_roundg (na-(k+1))
     case measure=>have:=HL.out;omega
     case rel=>
      have hpq:p=q:=of_decide_eq_true HE.out;refine⟨k+1,by have:=HL.out;omega,rfl,by go_num,B2.out,fun j u v hj hu hv=>?_⟩;by_cases hjk:j=k
      ·subst hjk;exact((Option.some.inj (hu.symm.trans HP.out)).trans hpq).trans (Option.some.inj (HQ.out.symm.trans hv))
      ·exact HS.out j u v (by omega) hu hv
    |false=>have hD:D=false:=(HY.out).resolve_left (of_decide_eq_false HE.out);subst hD;go_wp2;go_ret;exact⟨rfl,B2.out⟩
   ·obtain rfl:k=na:=by omega
    have hD:D=true:=by rw[<-HD.out];exact decide_eq_true (qs8g HLA.out HLB.out hS)
    subst hD;clear hS hlt hk hb;go_wp2;go_ret;exact⟨rfl,B1.out⟩
 ·have hD:decide (l=m)=false:=decide_eq_false fun e=>hn (by rw[<-hla,<-hlb,e]);have q0:((na:Int) != (nb:Int))=true:=by rw[bne_iff_ne];omega
  have B0:=hid (Below.refl w.heap.size w);rw[hD];clear hA hB hla hlb hN hM hD hn;go_in;go_wp2;go_ret;exact⟨rfl,B0.out⟩
theorem q5se(A B:Option Addr)(na nb c d:Nat)(l m:List Int)(w:World)(hA:CL w A (ics l))(hB:CL w B (ics m))(hla:l.length=na)(hlb:m.length=nb)(hN:na<=70000)(hM:nb<=70000) :
 Calls prog 200 #[.slice A na c,.slice B nb d,.func (.func 201) #[] #[]] w fun e w'=>e=.returned (.bool (decide (l=m)))/\Below w.heap.size w w':=by
 by_cases hn:na=nb
 ·subst hn;obtain⟨D,hD⟩:∃D,decide (l=m)=D:=⟨_,rfl⟩
  rw[hD];have HD:=hid hD;have HA:=hid hA;have HB:=hid hB;have HLA:=hid hla;have HLB:=hid hlb;have B0:=hid (Below.refl w.heap.size w);have q0:(na:Int)<=70000:=by omega
  clear hA hB hla hlb hN hM hD;go_in;go_wp2_with fail
  go_loopg [17] na (fun gk i wr=>∃k:Nat,k<=na/\gk=na-k/\i=.int .i64 (k:Int)/\Below w.heap.size w wr/\∀j p q,j<k->l[j]?=some p->m[j]?=some q->p=q)
  case atStart=>exact⟨0,Nat.zero_le _,rfl,rfl,B0.out,fun j p q h=>by omega⟩
  case round=>
   obtain⟨k,hk,rfl,rfl,hb,hS⟩:=hrel;have HS:=hid hS;have B1:=hid hb;by_cases hlt:k<na
   ·have hkl:k<l.length:=by rw[HLA.out];exact hlt
    have hkm:k<m.length:=by rw[HLB.out];exact hlt
    obtain⟨p,hp⟩:∃p,l[k]?=some p:=⟨_,List.getElem?_eq_getElem hkl⟩
    obtain⟨q,hq⟩:∃q,m[k]?=some q:=⟨_,List.getElem?_eq_getElem hkm⟩
    have HA2:=hid (HA.out.below hb);have HB2:=hid (HB.out.below hb);obtain⟨ga,ia,rfl,la,a0⟩:=HA2.out.int hp;obtain⟨gb,ib,rfl,lb,b0⟩:=HB2.out.int hq;have HP:=hid hp;have HQ:=hid hq;have HL:=hid hlt;have g1:(k:Int)<(na:Int):=by omega
    have g2:=hb.size;have hyes:p=q\/D=false:=by
     by_cases h:p=q
     ·exact .inl h
     ·refine .inr ?_;rw[<-HD.out];exact decide_eq_false fun e=>h (by subst e;exact Option.some.inj (HP.out.symm.trans HQ.out))
    have HY:=hid hyes;have SM:=hid (q588 p q);obtain⟨E,hE⟩:∃E,decide (p=q)=E:=⟨_,rfl⟩
    rw[hE] at SM;have HE:=hid hE;clear hS hkl hkm hp hq hlt hk hyes hb hE;go_wp2_with fail;refine(SM.out _).mono ?_;rintro e w3 ⟨rfl,hb⟩;have B2:=hid (qxh2 B1.out hb);clear hb;cases E with
    |true=>
     go_wp2_with fail
     go_roundg (na-(k+1))
     case measure=>have:=HL.out;omega
     case rel=>
      have hpq:p=q:=of_decide_eq_true HE.out;refine⟨k+1,by have:=HL.out;omega,rfl,by go_num,B2.out,fun j u v hj hu hv=>?_⟩;by_cases hjk:j=k
      ·subst hjk;exact((Option.some.inj (hu.symm.trans HP.out)).trans hpq).trans (Option.some.inj (HQ.out.symm.trans hv))
      ·exact HS.out j u v (by omega) hu hv
    |false=>have hD:D=false:=(HY.out).resolve_left (of_decide_eq_false HE.out);subst hD;go_wp2;go_ret;exact⟨rfl,B2.out⟩
   ·obtain rfl:k=na:=by omega
    have hD:D=true:=by rw[<-HD.out];exact decide_eq_true (qs8g HLA.out HLB.out hS)
    subst hD;clear hS hlt hk hb;go_wp2;go_ret;exact⟨rfl,B1.out⟩
 ·have hD:decide (l=m)=false:=decide_eq_false fun e=>hn (by rw[<-hla,<-hlb,e]);have q0:((na:Int) != (nb:Int))=true:=by rw[bne_iff_ne];omega
  have B0:=hid (Below.refl w.heap.size w);rw[hD];clear hA hB hla hlb hN hM hD hn;go_in;go_wp2;go_ret;exact⟨rfl,B0.out⟩
def qv0k(f:Nat):Value := .func (.func f) #[.agg #[]] #[]
def qo38:List (Int×Value):=[(15,qv0k 229),(14,qv0k 228),(13,qv0k 227),(12,qv0k 227)]
def qvwa(w:World)(b:Nat):Prop:=qwau prog 3 w b .nilFunc qo38
theorem qa1p(w:World):Calls prog 184 #[] w fun e w'=>∃b,e=.returned (.map (some b))/\qvwa w' b/\Below w.heap.size w w':=by
 have hmf:∀(fn:Fn) (first cap:Array Value) (w:World),(Instr.makeFunc fn first cap).run prog w=.ok (.func fn first cap) w:=fun _ _ _ _=>rfl;have hmm:=@run_makeMap prog;have hG:qpdk prog 3 w ((w.alloc (.cells #[] 248)).alloc (.map #[] 0)) (w.heap.size+1) .nilFunc []:=by have h:=qwau.made (w.alloc (.cells #[] 248)) prog 3 .nilFunc;rw[show(w.alloc (.cells #[] 248)).heap.size=w.heap.size+1 by simp] at h;exact⟨h,((Below.refl _ _).alloc (Nat.le_refl _) _).alloc (by simp) _,Nat.le_succ _⟩
 go_in;go_wp2_with (refine q6d2 rfl _ _ _ 217 rfl 3 215 underlying3 underlying217 _ _ _ rfl hG (by simp[maxLen]) _ _ rfl rfl (by decide) ?_;clear hG;intro w1 hG);go_ret;exact⟨_,rfl,hG.1,hG.2.1⟩
theorem qena(x:Int)(w:World):Calls prog 227 #[.agg #[],.int .i64 x] w fun e w'=>e=.returned (.tuple #[.bool false,.int .i64 0])/\Below w.heap.size w w':=by
 go_in;go_wp2
 go_ret2
 exact⟨rfl,qybm _⟩
theorem qugm(x:Int)(w:World):Calls prog 228 #[.agg #[],.int .i64 x] w fun e w'=>e=.returned (.tuple #[.bool (x==5),.int .i64 0])/\Below w.heap.size w w':=by
 go_in;go_wp2
 go_ret2
 exact⟨rfl,qybm _⟩
theorem qtnb(x:Int)(w:World):Calls prog 229 #[.agg #[],.int .i64 x] w fun e w'=>e=.returned (.tuple #[.bool (x==5),.int .i64 (if x=5 then 0 else 8)])/\Below w.heap.size w w':=by
 by_cases h5:x=5
 ·subst h5;go_in;go_wp2
  go_ret2
  exact⟨rfl,qybm _⟩
 ·have h1:(x==5)=false:=beq_eq_false_iff_ne.2 h5;have h2:(x != 5)=true:=by simpa using h5
  rw[if_neg h5,h1];clear h5;go_in;go_wp2
  go_ret2
  exact⟨rfl,qybm _⟩
theorem q24b(W:World):(zeroValue 215).run prog W=.ok .nilFunc W:=by kernel_rfl
theorem qv3n{n:Int}(h0:-9223372036854775808<=n)(h1:n<=9223372036854775807):(Lit.int .i64 n).wf=true:=by simp[Lit.wf,IntKind.min,IntKind.max,IntKind.signed,IntKind.bits];omega
theorem q2qrj{k:Int}(hk0:-9223372036854775808<=k)(hk1:k<=9223372036854775807)(W:World)(b:Nat)(h:qvwa W b) :
 (Instr.lookup 217 (.map (some b)) (.int .i64 k) true).run prog W=.ok (.tuple #[q1n3 .nilFunc qo38 k,.bool (hasK qo38 k)]) W:=
 h.look underlying3 underlying217 (q24b W) (qv3n hk0 hk1)
theorem qkgbp(v k:Int)(w:World)(hk0:-9223372036854775808<=k)(hk1:k<=9223372036854775807) :
 Calls prog 145 #[.int .i64 v,.int .i64 k] w fun e w'=>e=.returned (.tuple #[.bool (qyjk v k).1,.int .i64 ((qyjk v k).2:Nat)])/\Below w.heap.size w w':=by
 have LK:=q2qrj hk0 hk1;have hv:(v=4\/v=5)\/((v==4)=false/\(v==5)=false)/\(v != 4)=true/\(v != 5)=true/\versC v=false:=by
  by_cases h4:v=4
  ·exact .inl (.inl h4)
  by_cases h5:v=5
  ·exact .inl (.inr h5)
  exact .inr ⟨⟨beq_eq_false_iff_ne.2 h4,beq_eq_false_iff_ne.2 h5⟩,by simpa using h4,by simpa using h5,by simp[versC,h4,h5]⟩
 have hk:(k=12\/k=13\/k=14\/k=15)\/q1n3 .nilFunc qo38 k=.nilFunc/\hasK qo38 k=false/\q5t0 k=false:=by
  by_cases h:k=12\/k=13\/k=14\/k=15
  ·exact .inl h
  ·refine .inr ⟨?_,?_,?_⟩
   ·simp only[qo38,q1n3];rw[if_neg (by omega),if_neg (by omega),if_neg (by omega),if_neg (by omega)]
   ·simp only[qo38,hasK];rw[if_neg (by omega),if_neg (by omega),if_neg (by omega),if_neg (by omega)]
   ·simp only[q5t0,Bool.and_eq_false_iff,decide_eq_false_iff_not];omega
 have PI:=hid qena;have DI:=hid qugm;have AU:=hid qtnb;have KD:=hid qa1p;rcases hk with hk|⟨l1,l2,l3⟩
 ·rcases hv with hv|⟨⟨v1,v2⟩,v3,v4,v5⟩
  ·rcases hk with rfl|rfl|rfl|rfl
   case' inl=>have hh:hasK qo38 12=true:=rfl;have hl:q1n3 .nilFunc qo38 12=.func (.func 227) #[.agg #[]] #[]:=rfl
   case' inr.inl=>have hh:hasK qo38 13=true:=rfl;have hl:q1n3 .nilFunc qo38 13=.func (.func 227) #[.agg #[]] #[]:=rfl
   case' inr.inr.inl=>have hh:hasK qo38 14=true:=rfl;have hl:q1n3 .nilFunc qo38 14=.func (.func 228) #[.agg #[]] #[]:=rfl
   case' inr.inr.inr=>have hh:hasK qo38 15=true:=rfl;have hl:q1n3 .nilFunc qo38 15=.func (.func 229) #[.agg #[]] #[]:=rfl
   all_goals
    rw[hh,hl] at LK;have LKH:=hid LK;clear LK hh hl hk0 hk1;rcases hv with rfl|rfl
    all_goals
     go_in;go_wp2_with fail;refine(KD.out _).mono ?_;rintro e W ⟨b,rfl,hK,hb⟩;have lk:=LKH.out W b hK;have LO:=hid hb;clear hb hK;go_wp2_with fail
     first
      |with_reducible refine(PI.out _ _).mono ?_
      |with_reducible refine(DI.out _ _).mono ?_
      |with_reducible refine(AU.out _ _).mono ?_
     rintro e W2 ⟨rfl,hb⟩;have LO2:=hid (qxh2 LO.out hb);clear hb LO;go_wp2
     go_ret2
     exact⟨rfl,LO2.out⟩
  ·have ht:qyjk v k=(false,2):=by simp[qyjk,v5]
   rw[ht];clear ht v5;obtain⟨hh,f,hl⟩:hasK qo38 k=true/\∃f,q1n3 .nilFunc qo38 k=.func (.func f) #[.agg #[]] #[]:=by
    rcases hk with rfl|rfl|rfl|rfl
    all_goals exact⟨rfl,_,rfl⟩
   rw[hh,hl] at LK;have LKH:=hid LK;clear LK hh hl hk hk0 hk1;go_in;go_wp2_with fail;refine(KD.out _).mono ?_;rintro e W ⟨b,rfl,hK,hb⟩;have lk:=LKH.out W b hK;have LO:=hid hb;clear hb hK;go_wp2
   go_ret2
   exact⟨rfl,LO.out⟩
 ·have ht:qyjk v k=(false,2):=by simp[qyjk,l3]
  rw[ht];rw[l1,l2] at LK;have LKH:=hid LK;clear LK ht l1 l2 l3 hv hk0 hk1;go_in;go_wp2_with fail;refine(KD.out _).mono ?_;rintro e W ⟨b,rfl,hK,hb⟩;have lk:=LKH.out W b hK;have LO:=hid hb;clear hb hK;go_wp2
  go_ret2
  exact⟨rfl,LO.out⟩
def FitM(p:Pk):Prop:=PkOk p/\q21o p
def CapM(p:Pk)(a:Ad):Prop:=p.props.length<=a.pc/\(p.kind<=2->PkCap p a)
abbrev fnV(f:Nat):Value := .func (.func f) #[] #[]
abbrev wayV(f g:Nat):Value := .agg #[fnV f,fnV g]
abbrev conW:Value:=wayV 60 61
abbrev pubW:Value:=wayV 62 63
abbrev ackW:Value:=wayV 64 65
abbrev subW:Value:=wayV 66 67
abbrev ctlW:Value:=wayV 68 69
def qtav:List (Int×Value):=[(15,ctlW),(14,ctlW),(13,ctlW),(12,ctlW),(11,subW),(10,subW),(9,subW),(8,subW),(7,ackW),(6,ackW),(5,ackW),(4,ackW),(3,pubW),(2,conW),(1,conW)]
abbrev noW:Value := .agg #[.nilFunc,.nilFunc]
def qvkg(w:World)(b:Nat):Prop:=qmfc prog 3 w b noW qtav
theorem qvkg.below{w w':World}{b:Nat}(h:qvkg w b)(hb:Below w.heap.size w w'):qvkg w' b:=h.of_block (hb.block _ h.lt)
theorem q2q5(W:World):(zeroValue 95).run prog W=.ok noW W:=by kernel_rfl
theorem qvkg.look{W:World}{b:Nat}(h:qvkg W b){k:Int}(hk0:1<=k)(hk1:k<=15):(Instr.lookup 96 (.map (some b)) (.int .i64 k) false).run prog W=.ok (q1n3 noW qtav k) W:=
 qmfc.look h underlying3 underlying96 (q2q5 W) (qv3n (by omega) (by omega))
theorem qter:(prog.info? 95).map (·.size)=some 2:=by kernel_rfl
structure WyF(b:Nat)(gs:List (Nat×Nat))(a:Act):Prop where
 size:a.tmps.size=28
 defers:a.defers=[]
 map:a.eval (.tmp 11)=.map (some b)
 ptr:∀q∈gs,q.1<11/\a.eval (.tmp q.1)=.pointer (some ⟨q.2,0,none⟩)
theorem WyF.put{b:Nat}{gs:List (Nat×Nat)}{a:Act}(h:WyF b gs a){d:Nat}(hd:11<d)(v u:Value):WyF b gs ((a.put (some d) v).put none u):=
 ⟨by show(a.put (some d) v).tmps.size=28;rw[Act.size_put];exact h.size,by show(a.put (some d) v).defers=[];rw[Act.defers_put'];exact h.defers,
  (Act.eval_put_ne a d 11 v (by omega)).trans h.map,fun q hq=>⟨(h.ptr q hq).1,(Act.eval_put_ne a d q.1 v (by have:=(h.ptr q hq).1;omega)).trans (h.ptr q hq).2⟩⟩
theorem qr31{ops:Array Oper}{rest:List Oper}{Q:Exit->Act->World->Prop}{a:Act}{w w0:World}{b:Nat}{gs:List (Nat×Nat)}{l:List (Int×Value)}{p p':String}{af af':Array Edge}{r:TypeId}
 (D:Array Value) {d t g:Nat} {k:Int} (hF:WyF b gs a) (hG:MapG prog 3 w0 w b noW l) (ht:(t,g)∈gs) (hd:11<d/\d<28) (hR:∀w',Below w0.heap.size w0 w'->w'.heap[g]?=some (.cells D 95 (0,0))) (hD:D.size=2) (hl:l.length<15) (hk:(Lit.int .i64 k).wf=true)
 (hK:∀a' w',WyF b gs a'->MapG prog 3 w0 w' b noW ((k,.agg D)::l)->wpList prog ops Q rest a' w') :
 wpList prog ops Q ({dst:=some d,op := .load 95 (.tmp t),type:=95,pos:=p,after:=af,guard:=none}::{dst:=none,op := .insert 96 (.tmp 11) (.const (.int .i64 k)) (.tmp d),type:=r,pos:=p',after:=af',guard:=none}::rest) a w:=by
 refine wpList_load_row rfl _ _ rfl g (hF.ptr _ ht).2 95 D (0,0) _ (hR _ hG.2.1) underlying95 rfl (by rw[hD];exact qter) ?_;exact q32q rfl _ _ _ 96 rfl 3 95 underlying3 underlying96 _ _ _ ((Act.eval_put_ne a d 11 _ (by omega)).trans hF.map) hG (by show l.length<9223372036854775807;omega) _ _ rfl (Act.eval_put_same a d _ (by rw[hF.size];omega)) hk fun w' h=>hK _ w' (hF.put hd.1 _ _) h
theorem q9tb{ops:Array Oper}{Q:Exit->Act->World->Prop}{a:Act}{w:World}{b:Nat}{gs:List (Nat×Nat)}{p p':String}{af af':Array Edge}{r r':TypeId}(hF:WyF b gs a)
 (hK:∀a',a'.defers=[]->a'.tmps.getD 0 undef=.map (some b)->Q .normal a' w) :
 wpList prog ops Q [{dst:=some 27,op := .move (.tmp 11),type:=r,pos:=p,after:=af,guard:=none},{dst:=some 0,op := .assign (.tmp 27),type:=r',pos:=p',after:=af',guard:=none}] a w:=by
 refine wpList_plain rfl fun K1 h1=>h1 _ _ (wpList_plain rfl fun K2 h2=>h2 _ _ ?_);unfold wpList;refine hK _ ((Act.defers_put' _ _ _).trans ((Act.defers_put' _ _ _).trans hF.defers)) ?_;have e1:=Act.eval_put_same a 27 (a.eval (.tmp 11)) (by rw[hF.size];decide);have e0:=Act.eval_put_same (a.put (some 27) (a.eval (.tmp 11))) 0 ((a.put (some 27) (a.eval (.tmp 11))).eval (.tmp 27)) (by rw[Act.size_put,hF.size];decide);exact e0.trans (e1.trans hF.map)
theorem qvww{ops:Array Oper}{l:List Oper}{Q:Exit->Act->World->Prop}{a:Act}{w:World}{b:Nat}{gs:List (Nat×Nat)}(hF:WyF b gs a)(h:∀a,WyF b gs a->wpList prog ops Q l a w):wpList prog ops Q l a w:=h a hF
def qpst(w:World):World:=((((w.alloc (.cells #[fnV 60,fnV 61] 95)).alloc (.cells #[fnV 62,fnV 63] 95)).alloc (.cells #[fnV 64,fnV 65] 95)).alloc (.cells #[fnV 66,fnV 67] 95)).alloc (.cells #[fnV 68,fnV 69] 95)
theorem qpoq(w:World):Below w.heap.size w (qpst w)/\(qpst w).heap.size=w.heap.size+5/\(qpst w).heap[w.heap.size]?=some (.cells #[fnV 60,fnV 61] 95 (0,0))/\(qpst w).heap[w.heap.size+1]?=some (.cells #[fnV 62,fnV 63] 95 (0,0))/\(qpst w).heap[w.heap.size+1+1]?=some (.cells #[fnV 64,fnV 65] 95 (0,0))/\(qpst w).heap[w.heap.size+1+1+1]?=some (.cells #[fnV 66,fnV 67] 95 (0,0))/\(qpst w).heap[w.heap.size+1+1+1+1]?=some (.cells #[fnV 68,fnV 69] 95 (0,0)):=by
 have o:∀{W:World} {k:Nat} {x y:Obj},W.heap[k]?=some x->(W.alloc y).heap[k]?=some x:=fun h=>(heap_alloc_old _ _ (lt_of_block h)).trans h;have n:∀{W:World} {k:Nat} {x:Obj},W.heap.size=k->(W.alloc x).heap[k]?=some x:=fun h=>h▸heap_alloc_new _ _;unfold qpst;exact⟨(((((Below.refl _ _).alloc (Nat.le_refl _) _).alloc (by simp) _).alloc (by simp;omega) _).alloc (by simp;omega) _).alloc (by simp;omega) _,by simp,
  o (o (o (o (n rfl)))),o (o (o (n (by simp)))),o (o (n (by simp))),o (n (by simp)),n (by simp)⟩
theorem qdie(w:World):Calls prog 46 #[] w fun e w'=>∃b,e=.returned (.map (some b))/\qvkg w' b/\Below w.heap.size w w':=by
 have hmm:=@run_makeMap prog;have hst:∀(w:World) (a:Addr) (f:Nat) m,(store a (.func (.func f) #[] #[]) m).run prog w=stored prog w a (.func (.func f) #[] #[]) m:=fun w a f m=>run_store _ w a _ m rfl;go_in
 go_upto_region 6 with fail
 obtain⟨B5,Z5,R1,R2,R3,R4,R5⟩:=qpoq w;change Code.wp _ _ _ _ (qpst w);generalize qpst w=W5 at *;clear Z5;generalize w.heap.size+1+1+1+1=g5 at R5 ⊢;generalize w.heap.size+1+1+1=g4 at R4 ⊢;generalize w.heap.size+1+1=g3 at R3 ⊢;generalize w.heap.size+1=g2 at R2 ⊢;have hG:MapG prog 3 W5 (W5.alloc (.map #[] 0)) W5.heap.size noW []:=⟨qmfc.made _ _ _ _,qybm _,Nat.le_refl _⟩
 have K:=fun(g:Nat) (D:Array Value) (R:W5.heap[g]?=some (.cells D 95 (0,0))) (w':World) (h:Below W5.heap.size W5 w')=>(h.block _ (lt_of_block R)).trans R;replace R1:=hid (K _ _ R1);replace R2:=hid (K _ _ R2);replace R3:=hid (K _ _ R3);replace R4:=hid (K _ _ R4);replace R5:=hid (K _ _ R5);clear hst K;go_wp2_with (
  refine qvww (b:=W5.heap.size) (gs:=[(1,w.heap.size),(2,g2),(3,g3),(4,g4),(5,g5)]) ⟨rfl,rfl,rfl,by simp only[List.forall_mem_cons];exact⟨⟨by decide,rfl⟩,⟨by decide,rfl⟩,⟨by decide,rfl⟩,⟨by decide,rfl⟩,⟨by decide,rfl⟩,fun _ h=>(nomatch h)⟩⟩ ?_;intro a hF;refine qr31 #[fnV 60,fnV 61] hF hG (by simp) (by decide) R1.out rfl (by simp) (by decide) fun a w1 hF hG=>?_;refine qr31 #[fnV 60,fnV 61] hF hG (by simp) (by decide) R1.out rfl (by simp) (by decide) fun a w1 hF hG=>?_;refine qr31 #[fnV 62,fnV 63] hF hG (by simp) (by decide) R2.out rfl (by simp) (by decide) fun a w1 hF hG=>?_;refine qr31 #[fnV 64,fnV 65] hF hG (by simp) (by decide) R3.out rfl (by simp) (by decide) fun a w1 hF hG=>?_;refine qr31 #[fnV 64,fnV 65] hF hG (by simp) (by decide) R3.out rfl (by simp) (by decide) fun a w1 hF hG=>?_;refine qr31 #[fnV 64,fnV 65] hF hG (by simp) (by decide) R3.out rfl (by simp) (by decide) fun a w1 hF hG=>?_;refine qr31 #[fnV 64,fnV 65] hF hG (by simp) (by decide) R3.out rfl (by simp) (by decide) fun a w1 hF hG=>?_;refine qr31 #[fnV 66,fnV 67] hF hG (by simp) (by decide) R4.out rfl (by simp) (by decide) fun a w1 hF hG=>?_;refine qr31 #[fnV 66,fnV 67] hF hG (by simp) (by decide) R4.out rfl (by simp) (by decide) fun a w1 hF hG=>?_;refine qr31 #[fnV 66,fnV 67] hF hG (by simp) (by decide) R4.out rfl (by simp) (by decide) fun a w1 hF hG=>?_;refine qr31 #[fnV 66,fnV 67] hF hG (by simp) (by decide) R4.out rfl (by simp) (by decide) fun a w1 hF hG=>?_;refine qr31 #[fnV 68,fnV 69] hF hG (by simp) (by decide) R5.out rfl (by simp) (by decide) fun a w1 hF hG=>?_;refine qr31 #[fnV 68,fnV 69] hF hG (by simp) (by decide) R5.out rfl (by simp) (by decide) fun a w1 hF hG=>?_;refine qr31 #[fnV 68,fnV 69] hF hG (by simp) (by decide) R5.out rfl (by simp) (by decide) fun a w1 hF hG=>?_;refine qr31 #[fnV 68,fnV 69] hF hG (by simp) (by decide) R5.out rfl (by simp) (by decide) fun a w1 hF hG=>?_;refine q9tb hF fun a h1 h2=>?_)
 refine bodyPost_ret (results_tmp rfl _ _ _) h1 ?_;rw[h2];exact⟨_,rfl,hG.1,B5.trans (hG.2.1.mono B5.size)⟩
def q10u(p:Pk)(a:Ad)(g:Nat):Prop:=∃i,p.wProps≠[]/\a.w=some ⟨g,i,none⟩\/p.codes≠[]/\a.cs=some ⟨g,i,none⟩\/p.filters≠[]/\a.fs=some ⟨g,i,none⟩\/p.props≠[]/\a.ps=some ⟨g,i,none⟩
theorem FrA.lists{w:World}{p:Pk}{a:Ad}(h:FrA w p a){g:Nat}(hg:q10u p a g):w.heap.size<=g:=by
 obtain⟨i,h1|h1|h1|h1⟩:=hg
 ·exact h g i (.inl h1)
 ·exact h g i (.inr (.inl h1))
 ·exact h g i (.inr (.inr (.inl h1)))
 ·exact h g i (.inr (.inr (.inr h1.2)))
theorem PkAt.lists_lt{W:World}{p:Pk}{a:Ad}(h:PkAt W p a){g:Nat}(hg:q10u p a g):g<W.heap.size:=by
 obtain⟨i,⟨h1,h2⟩|⟨h1,h2⟩|⟨h1,h2⟩|⟨h1,h2⟩⟩:=hg
 ·obtain⟨g',i',e,hl,-⟩:=h.w h1;rw[h2] at e;cases e;exact hl
 ·obtain⟨g',i',e,hl,-⟩:=h.cs (fun e=>h1 (by simpa [ics] using e));rw[h2] at e;cases e;exact hl
 ·obtain⟨g',i',e,hl,-⟩:=h.fs (fun e=>h1 (by
   cases hf:p.filters with
   |nil=>rfl
   |cons f l=>rw[hf] at e;exact absurd e (by simp[fcs,quk6])));rw[h2] at e;cases e;exact hl
 ·obtain⟨g',i',e,hl,-⟩:=h.ps h1;rw[h2] at e;cases e;exact hl
theorem PkAt.moved{W W':World}{p:Pk}{a:Ad}(h:PkAt W p a)(hz:W.heap.size<=W'.heap.size)(hb:∀g,q10u p a g->W'.heap[g]?=W.heap[g]?):PkAt W' p a:=by
 refine⟨fun hn=>h.w.kept hz (fun g i e _=>hb g ⟨i,.inl ⟨hn,e⟩⟩) hn,fun hn=>h.cs.kept hz (fun g i e _=>hb g ⟨i,.inr (.inl ⟨?_,e⟩)⟩) hn,fun hn=>h.fs.kept hz (fun g i e _=>hb g ⟨i,.inr (.inr (.inl ⟨?_,e⟩))⟩) hn,fun hn=>h.ps.kept hz (fun g i e _=>hb g ⟨i,.inr (.inr (.inr ⟨hn,e⟩))⟩) hn⟩
 ·intro e;rw[e] at hn;exact hn rfl
 ·intro e;rw[e] at hn;exact hn rfl
abbrev Pa:=Pk×Ad
def pkCs(l:List Pa):List Value:=l.flatMap fun q=>(pkC q.1 q.2).toList
theorem q6wm(l:List Pa):(pkCs l).length=l.length*25:=by
 induction l with
 |nil=>rfl
 |cons q l ih=>show((pkC q.1 q.2).toList++pkCs l).length=_;rw[List.length_append,ih,Array.length_toList,qwmp,List.length_cons];omega
theorem q0mi(l m:List Pa):pkCs (l++m)=pkCs l++pkCs m:=by simp[pkCs]
theorem qlyl:∀(l:List Pa) (i j:Nat) (q:Pa) (u:Value),l[i]?=some q->(pkC q.1 q.2)[j]?=some u->(pkCs l)[i*25+j]?=some u
 |[],i,j,q,u,h,_=>by simp at h
 |x::l,0,j,q,u,h,hu=>by
  have h:x=q:=by simpa using h
  subst h;have hj:j<25:=by
   have:=(Array.getElem?_eq_some_iff.1 hu).1
   rwa [qwmp] at this
  show((pkC x.1 x.2).toList++pkCs l)[0*25+j]?=some u;rw[show 0*25+j=j by omega,List.getElem?_append_left (by rw[Array.length_toList,qwmp];exact hj)];simpa using hu
 |x::l,i+1,j,q,u,h,hu=>by have ih:=qlyl l i j q u (by simpa using h) hu;show((pkC x.1 x.2).toList++pkCs l)[(i+1)*25+j]?=some u;rw[List.getElem?_append_right (by rw[Array.length_toList,qwmp];omega),Array.length_toList,qwmp,show(i+1)*25+j-25=i*25+j by omega];exact ih
structure PKL(W:World)(A:Option Addr)(l:List Pa):Prop where
 cl:CL W A (pkCs l)
 each:∀q∈l,PkAt W q.1 q.2
section
variable{W W':World}{A:Option Addr}{l m:List Pa}{q:Pa}
theorem PKL.nil:PKL W A []:=⟨CL.nil,fun _ h=>(nomatch h)⟩
theorem PKL.below(h:PKL W A l)(hb:Below W.heap.size W W'):PKL W' A l:=⟨h.cl.below hb,fun q hq=>(h.each q hq).below hb⟩
theorem PKL.at(h:PKL W A l){i:Nat}(hi:l[i]?=some q):∃g o,A=some ⟨g,o,none⟩/\g<W.heap.size/\∀(j:Nat) (u:Value),(pkC q.1 q.2)[j]?=some u->W.cell? ⟨g,o+i*25+j,none⟩=some u:=by
 have hne:pkCs l≠[]:=fun e=>by have h1:=qlyl l i 0 q _ hi (show(pkC q.1 q.2)[0]?=some _ from rfl);rw[e] at h1;cases h1
 obtain⟨g,o,e,hg,hc⟩:=h.cl hne;refine⟨g,o,e,hg,fun j u hu=>?_⟩;rw[Nat.add_assoc];exact hc _ _ (qlyl l i j q u hi hu)
theorem PKL.get(h:PKL W A l){i:Nat}(hi:l[i]?=some q):PkAt W q.1 q.2:=h.each q (List.mem_of_getElem? hi)
end
end Go.Proofs.YtefmhbioggcfaaaGreatDoor
