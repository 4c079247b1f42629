/- The contracts of varint's functions on numbers and bytes alone: next, Size. No condition. -/
import Derived.Lib.BitFns
import Derived.Great.BuildSlice
import Derived.StillTailTactics
import Derived.Test.YtlhkgidoaggodaaGreatDoorK04
set_option maxHeartbeats 1000000
set_option maxRecDepth 100000
namespace Go.Proofs.YtlhkgidoaggodaaGreatDoor
open Lib(hid)
open Proofs.Tryz
open Go.RowKit
theorem qm1s(b:UInt8):bits .and .u8 (b.toNat:Int) 128=if 128<=b.toNat then 128 else 0:=by
 have all:∀x:Fin 256,bits .and .u8 (x.val:Int) 128=if 128<=x.val then 128 else 0:=by decide+kernel
 exact all ⟨b.toNat,b.toNat_lt⟩
theorem qbg0(b:UInt8):bits .and .u8 (b.toNat:Int) 127=((b.toNat%128:Nat):Int):=by
 have all:∀x:Fin 256,bits .and .u8 (x.val:Int) 127=((x.val%128:Nat):Int):=by decide+kernel
 exact all ⟨b.toNat,b.toNat_lt⟩
theorem qoki(x:Nat)(h:x<128):bits .or .u8 (x:Int) 128=((x+128:Nat):Int):=by
 have all:∀x:Fin 128,bits .or .u8 (x.val:Int) 128=((x.val+128:Nat):Int):=by decide+kernel
 exact all ⟨x,h⟩
theorem quym(x:Int)(w:World)(h0:0<=x)(h1:x<=268435455) :
 Calls prog 70 #[.int .u64 x] w fun e w'=>e=.returned (.int .i64 (Lib.bitLen x.toNat))/\w=w':=by
 have h32:x<4294967296:=by omega
 by_cases c1:x<256
 ·have l:=Lib.bitLen_le8' x h0 (by omega);have g0:x<=255:=by omega
  go_in;go_wp2;go_ret;refine⟨congrArg Ending.returned (congrArg (Value.int IntKind.i64) ?_),rfl⟩;rw[Lib.len8_of x h0 g0];unfold wrap64;omega
 by_cases c2:x<65536
 ·have l:=Lib.bitLen_le8' (x / 256) (by omega) (by omega);have s:=Lib.bitLen_shift8 x.toNat (by omega) (by omega);have g0:0<=x / 256:=by omega
  have g1:x / 256<=255:=by omega
  have e:(x / 256).toNat=x.toNat / 256:=by omega
  rw[e] at l;have E:=hid e;have S:=hid s;clear e s;go_in;go_wp2;go_ret;refine⟨congrArg Ending.returned (congrArg (Value.int IntKind.i64) ?_),rfl⟩;rw[Lib.len8_of (x / 256) g0 g1,E.out,S.out];unfold wrap64;omega
 by_cases c3:x<16777216
 ·have l:=Lib.bitLen_le8' (x / 65536) (by omega) (by omega);have s:=Lib.bitLen_shift16 x.toNat (by omega) (by omega);have g0:0<=x / 65536:=by omega
  have g1:x / 65536<=255:=by omega
  have e:(x / 65536).toNat=x.toNat / 65536:=by omega
  rw[e] at l;have E:=hid e;have S:=hid s;clear e s;go_in;go_wp2;go_ret;refine⟨congrArg Ending.returned (congrArg (Value.int IntKind.i64) ?_),rfl⟩;rw[Lib.len8_of (x / 65536) g0 g1,E.out,S.out];unfold wrap64;omega
 ·have l:=Lib.bitLen_le8' (x / 65536 / 256) (by omega) (by omega);have s:=Lib.bitLen_shift24 x.toNat (by omega) (by omega);have g0:0<=x / 65536 / 256:=by omega
  have g1:x / 65536 / 256<=255:=by omega
  have e:(x / 65536 / 256).toNat=x.toNat / 16777216:=by omega
  rw[e] at l;have E:=hid e;have S:=hid s;clear e s;go_in;go_wp2;go_ret;refine⟨congrArg Ending.returned (congrArg (Value.int IntKind.i64) ?_),rfl⟩;rw[Lib.len8_of (x / 65536 / 256) g0 g1,E.out,S.out];unfold wrap64;omega
theorem q5on(x:Int)(w:World)(h0:0<=x)(h1:x<=268435455) :
 Calls prog 55 #[.int .u64 x] w fun e w'=>e=.returned (.int .i64 (Lib.bitLen x.toNat))/\w=w':=by
 go_in;go_wp2_with (go_at_call 70;refine(quym x _ h0 h1).mono ?_;rintro e w' ⟨rfl,rfl⟩);go_ret;exact⟨rfl,rfl⟩
theorem qbdl(n:Nat)(h:n<=268435455):(max 1 (Lib.bitLen n)+6) / 7=sz n:=by
 have low:∀k,k<=63->2^k<=n->k<Lib.bitLen n:=fun k hk hn=>by
  have hpos:n / 2^k≠0:=by have:=Nat.div_pos hn (Nat.two_pow_pos k);omega
  have h64:n<2^64:=by
   have:(268435455:Nat)<2^64:=by decide
   omega
  rw[Lib.bitLen_shift k n hn h64,Lib.bitLen_half _ hpos (Nat.lt_of_le_of_lt (Nat.div_le_self _ _) h64)];omega
 rcases qnl4 n h with ⟨e,h1⟩|⟨e,h1,h2⟩|⟨e,h1,h2⟩|⟨e,h1⟩<;>rw[e]
 ·have:=Lib.bitLen_le n 7 (by decide) h1
  omega
 ·have:=Lib.bitLen_le n 14 (by decide) h2
  have:=low 7 (by decide) h1
  omega
 ·have:=Lib.bitLen_le n 21 (by decide) h2
  have:=low 14 (by decide) h1
  omega
 ·have:=Lib.bitLen_le n 28 (by decide) (by omega)
  have:=low 21 (by decide) h1
  omega
theorem ql84(n:Nat)(h:n<=268435455):(max 1 (Lib.bitLen n:Int)+7-1) / 7=sz n:=by
 rw[<-qbdl n h];generalize Lib.bitLen n=b;rcases Nat.le_total 1 b with h|h
 ·rw[Nat.max_eq_right h,Int.max_eq_right (by omega)];omega
 ·rw[Nat.max_eq_left h,Int.max_eq_left (by omega)];omega
theorem qk0d(n:Int)(w:World) :
 Calls prog 47 #[.int .i64 n] w fun e w'=>e=.returned (.int .i64 (sz n))/\w=w':=by
 by_cases h1:n<0
 ·rw[qbck.2 (.inl h1)];go_in;go_wp2;go_ret;exact⟨rfl,rfl⟩
 by_cases h2:268435455<n
 ·rw[qbck.2 (.inr h2)];go_in;go_wp2;go_ret;exact⟨rfl,rfl⟩
 ·obtain⟨k,rfl⟩:=Int.eq_ofNat_of_zero_le (show 0<=n by omega);have e:=ql84 k (by omega);have b:=Lib.bitLen_le k 28 (by decide) (by omega);have E:=hid e;clear e;go_in;go_wp2_with (go_at_call 55;refine(q5on k _ (by omega) (by omega)).mono ?_;rintro e w' ⟨rfl,rfl⟩);go_ret;exact⟨congrArg Ending.returned (congrArg (Value.int IntKind.i64) E.out),rfl⟩
theorem q5nr:(prog.info? 40).map (·.size)=some 25:=by kernel_rfl
def pkZ:Array Value:=#[.int .i64 0,.bool false,.bool false,.int .i64 0,.int .i64 0,.string ⟨#[]⟩,.string ⟨#[]⟩,.bool false,.int .i64 0,.string ⟨#[]⟩,.bool false,.string ⟨#[]⟩,.bool false,.string ⟨#[]⟩,.bool false,.string ⟨#[]⟩,.string ⟨#[]⟩,.int .i64 0,.bool false,.slice none 0 0,.bool false,.int .i64 0,.slice none 0 0,.slice none 0 0,.slice none 0 0]
theorem qrai(W:World):(zeroValue 40).run prog W=.ok (.agg pkZ) W:=by kernel_rfl
theorem qbwp:pkZ.size=25:=rfl
def pkD(k:Int)(d r:Bool)(q:Int):Array Value:=#[.int .i64 k,.bool d,.bool r,.int .i64 q,.int .i64 0,.string ⟨#[]⟩,.string ⟨#[]⟩,.bool false,.int .i64 0,.string ⟨#[]⟩,.bool false,.string ⟨#[]⟩,.bool false,.string ⟨#[]⟩,.bool false,.string ⟨#[]⟩,.string ⟨#[]⟩,.int .i64 0,.bool false,.slice none 0 0,.bool false,.int .i64 0,.slice none 0 0,.slice none 0 0,.slice none 0 0]
theorem qqq1(k:Int)(d r:Bool)(q:Int):(pkD k d r q).all (·.oneCell')=true:=by simp[pkD,Value.oneCell']
def qojd(v:Int):Int:=if v=4 then 14 else if v=5 then 15 else 0
theorem qtq4(v:Int)(w:World):Calls prog 41 #[.int .i64 v] w fun e w'=>e=.returned (.int .i64 (qojd v))/\w=w':=by
 unfold qojd;by_cases h4:v=4
 ·subst h4;go_in;go_wp2;go_ret;exact⟨rfl,rfl⟩
 by_cases h5:v=5
 ·subst h5;go_in;go_wp2;go_ret;exact⟨rfl,rfl⟩
 rw[if_neg h4,if_neg h5];have e4:(v==4)=false:=by rw[beq_eq_false_iff_ne];exact h4
 have e5:(v==5)=false:=by rw[beq_eq_false_iff_ne];exact h5
 clear h4 h5;go_in;go_wp2;go_ret;exact⟨rfl,rfl⟩
theorem q53g{v:Int}(h:verH v=true):v=4\/v=5:=by unfold verH at h;simpa only[Bool.or_eq_true,beq_iff_eq] using h
theorem q25y{v:Int}(h:verH v=false):v≠4/\v≠5:=by unfold verH at h;simpa only[Bool.or_eq_false_iff,beq_eq_false_iff_ne] using h
def verE(v:Int):Int:=if verH v=false then 2 else 0
theorem qzcr(v:Int)(w:World):Calls prog 33 #[.int .i64 v] w fun e w'=>e=.returned (.int .i64 (verE v))/\w=w':=by
 have L:=hid (qtq4 v);cases h:verH v
 ·have hv:=q25y h;have hl:qojd v=0:=by unfold qojd;rw[if_neg hv.1,if_neg hv.2]
  have he:verE v=2:=by unfold verE;rw[h];rfl
  rw[he];rw[hl] at L;clear hl he hv h;go_in;go_wp2_with fail;refine(L.out _).mono ?_;rintro e w' ⟨rfl,rfl⟩;go_wp2;go_ret;exact⟨rfl,rfl⟩
 ·have he:verE v=0:=by unfold verE;rw[h];rfl
  rw[he];rcases q53g h with rfl|rfl
  all_goals clear he h;go_in;go_wp2_with fail;refine(L.out _).mono ?_;rintro e w' ⟨rfl,rfl⟩;go_wp2;go_ret;exact⟨rfl,rfl⟩
def q2fo(v k:Int):Int:=if verH v=false then 2 else if qbe2 v k=false then 8 else 0
theorem qk5h(v k:Int)(w:World):Calls prog 45 #[.int .i64 v,.int .i64 k] w fun e w'=>e=.returned (.int .i64 (q2fo v k))/\w=w':=by
 have V:=hid (qzcr v);have L:=hid (qtq4 v);cases h:verH v
 ·have he:q2fo v k=2:=by unfold q2fo;rw[h];rfl
  have h2:verE v=2:=by unfold verE;rw[h];rfl
  rw[he];rw[h2] at V;clear he h2 h;go_in;go_wp2_with fail;refine(V.out _).mono ?_;rintro e w' ⟨rfl,rfl⟩;go_wp2;go_ret;exact⟨rfl,rfl⟩
 have h2:verE v=0:=by unfold verE;rw[h];rfl
 rw[h2] at V;clear h2;by_cases h1:k<1
 ·have he:q2fo v k=8:=by unfold q2fo qbe2;rw[h,if_neg (by simp),decide_eq_false (show ¬1<=k by omega)];rfl
  rw[he];have hd:decide (k<1)=true:=decide_eq_true h1;clear he h h1;go_in;go_wp2_with fail;refine(V.out _).mono ?_;rintro e w' ⟨rfl,rfl⟩;go_wp2;go_ret;exact⟨rfl,rfl⟩
 have hd:decide (k<1)=false:=decide_eq_false h1;by_cases h3:qojd v<k
 ·have he:q2fo v k=8:=by
   have hk:qbe2 v k=false:=by
    unfold qbe2;rcases q53g h with rfl|rfl
    ·have h3':14<k:=h3;rw[decide_eq_false (show ¬k<15 by omega)];simp
    ·have h3':15<k:=h3;rw[decide_eq_false (show ¬k<15 by omega),show(k==15)=false by rw[beq_eq_false_iff_ne];omega];simp
   unfold q2fo;rw[h,hk];rfl
  rw[he];have hg:decide (qojd v<k)=true:=decide_eq_true h3;generalize qojd v=z at *;clear he h h1 h3;go_in;go_wp2_with fail;refine(V.out _).mono ?_;rintro e w' ⟨rfl,rfl⟩;go_wp2_with fail;refine(L.out _).mono ?_;rintro e w' ⟨rfl,rfl⟩;go_wp2;go_ret;exact⟨rfl,rfl⟩
 ·have he:q2fo v k=0:=by
   have hk:qbe2 v k=true:=by
    unfold qbe2;rw[decide_eq_true (show 1<=k by omega)];rcases q53g h with rfl|rfl
    ·have h3':¬14<k:=h3;rw[decide_eq_true (show k<15 by omega)];rfl
    ·have h3':¬15<k:=h3;by_cases h15:k=15
     ·subst h15;rfl
     ·rw[decide_eq_true (show k<15 by omega)];rfl
   unfold q2fo;rw[h,hk];rfl
  rw[he];have hg:decide (qojd v<k)=false:=decide_eq_false h3;generalize qojd v=z at *;clear he h h1 h3;go_in;go_wp2_with fail;refine(V.out _).mono ?_;rintro e w' ⟨rfl,rfl⟩;go_wp2_with fail;refine(L.out _).mono ?_;rintro e w' ⟨rfl,rfl⟩;go_wp2;go_ret;exact⟨rfl,rfl⟩
def qnmj(k:Int)(d r:Bool)(q:Int):Int×Nat:=
 if k=6\/k=8\/k=10 then(2,0) else if k=3 then(if q0xk d q then(qgl0 d r q,0) else(0,7)) else(0,0)
theorem q4eo(v k:Int)(d r:Bool)(q:Int):qjyu v k d r q=if q2fo v k=0 then qnmj k d r q else(0,(q2fo v k).toNat):=by
 unfold qjyu q2fo qnmj;cases verH v
 ·rfl
 ·cases qbe2 v k
  ·rfl
  ·rfl
def qu2r(x:Int×Nat)(w:World)(e:Ending)(w':World):Prop:=e=.returned (.tuple #[.int .i64 x.1,.int .i64 (x.2:Nat)])/\Below w.heap.size w w'
theorem qa1w{q:Int}{d r:Bool}{c:Array Value}(w:World)(h1:c[1]?=some (.bool d))(h2:c[2]?=some (.bool r))(h3:c[3]?=some (.int .i64 q)):Calls prog 68 #[.agg c] w (qu2r (if q0xk d q then(qgl0 d r q,0) else(0,7)) w):=by
 have hb:∀o,Below w.heap.size w (w.alloc o):=fun o=>(Below.refl _ _).alloc (Nat.le_refl _) _;have HB:=hid hb;clear hb;by_cases hq0:q<0
 ·have e:q0xk d q=false:=by unfold q0xk;rw[decide_eq_false (show ¬0<=q by omega)];rfl
  rw[e];clear e;go_in;go_wp2
  go_ret2
  exact⟨rfl,HB.out _⟩
 by_cases hq2:2<q
 ·have e:q0xk d q=false:=by unfold q0xk;rw[decide_eq_false (show ¬q<=2 by omega)];simp
  rw[e];clear e;go_in;go_wp2
  go_ret2
  exact⟨rfl,HB.out _⟩
 obtain rfl|rfl|rfl:q=0\/q=1\/q=2:=by omega
 all_goals clear hq0 hq2;cases d<;>cases r
 all_goals
  go_in;go_wp2
  go_ret2
  exact⟨rfl,HB.out _⟩
theorem qo12{k q:Int}{d r:Bool}{c:Array Value}(w:World)(hs:c.size=25)(h0:c[0]?=some (.int .i64 k))(h1:c[1]?=some (.bool d))(h2:c[2]?=some (.bool r))(h3:c[3]?=some (.int .i64 q)):Calls prog 53 #[.agg c] w (qu2r (qnmj k d r q) w):=by
 have hb:∀o,Below w.heap.size w (w.alloc o):=fun o=>(Below.refl _ _).alloc (Nat.le_refl _) _;have HB:=hid hb;clear hb;have P:=hid (fun W=>qa1w W h1 h2 h3);unfold qnmj;have HS:=hid hs;clear h1 h2 h3 hs;by_cases hk3:k=3
 ·subst hk3;rw[if_neg (by decide),if_pos rfl];generalize (if q0xk d q then(qgl0 d r q,0) else((0,7):Int×Nat))=z at *;go_in;go_wp2_with (refine wpList_load_row rfl _ _ rfl w.heap.size rfl 40 _ (0,0) _ (heap_alloc_new w _) underlying40 rfl (by rw[HS.out];exact q5nr) ?_);go_wp2_with fail;refine(P.out _).mono ?_;rintro e w' ⟨rfl,h⟩;go_wp2
  go_ret2
  exact⟨rfl,(HB.out _).trans (h.mono (HB.out _).size)⟩
 by_cases h6:k=6
 ·subst h6;go_in;go_wp2
  go_ret2
  exact⟨rfl,HB.out _⟩
 by_cases h8:k=8
 ·subst h8;go_in;go_wp2
  go_ret2
  exact⟨rfl,HB.out _⟩
 by_cases h10:k=10
 ·subst h10;go_in;go_wp2
  go_ret2
  exact⟨rfl,HB.out _⟩
 rw[if_neg (by omega),if_neg hk3];have e3:(k==3)=false:=by rw[beq_eq_false_iff_ne];exact hk3
 have e6:(k==6)=false:=by rw[beq_eq_false_iff_ne];exact h6
 have e8:(k==8)=false:=by rw[beq_eq_false_iff_ne];exact h8
 have e10:(k==10)=false:=by rw[beq_eq_false_iff_ne];exact h10
 clear hk3 h6 h8 h10;go_in;go_wp2
 go_ret2
 exact⟨rfl,HB.out _⟩
theorem q2el(v:Int){k q:Int}{d r:Bool}{c:Array Value}(w:World)(hs:c.size=25)(h0:c[0]?=some (.int .i64 k))(h1:c[1]?=some (.bool d))(h2:c[2]?=some (.bool r))(h3:c[3]?=some (.int .i64 q)):Calls prog 173 #[.int .i64 v,.agg c] w (qu2r (qjyu v k d r q) w):=by
 have hb:∀o,Below w.heap.size w (w.alloc o):=fun o=>(Below.refl _ _).alloc (Nat.le_refl _) _;have HB:=hid hb;clear hb;rw[q4eo];have K:=hid (qk5h v k);have F:=hid (fun W=>qo12 W hs h0 h1 h2 h3);have HS:=hid hs;clear h1 h2 h3 hs;by_cases h:q2fo v k=0
 ·rw[if_pos h];rw[h] at K;clear h;generalize qnmj k d r q=z at *;go_in;go_wp2_with fail;refine(K.out _).mono ?_;rintro e w' ⟨rfl,rfl⟩;go_wp2_with (refine wpList_load_row rfl _ _ rfl w.heap.size rfl 40 _ (0,0) _ (heap_alloc_new w _) underlying40 rfl (by rw[HS.out];exact q5nr) ?_);go_wp2_with fail;refine(F.out _).mono ?_;rintro e w' ⟨rfl,h⟩;go_wp2
  go_ret2
  exact⟨rfl,(HB.out _).trans (h.mono (HB.out _).size)⟩
 ·rw[if_neg h];have hz:((q2fo v k).toNat:Int)=q2fo v k:=by
   have:0<=q2fo v k:=by
    unfold q2fo;split
    ·decide
    ·split<;>decide
   omega
  unfold qu2r;show Calls _ _ _ _ fun e w'=>e=.returned (.tuple #[.int .i64 0,.int .i64 ((q2fo v k).toNat:Int)])/\Below w.heap.size w w';rw[hz];have hn:(q2fo v k==0)=false:=by rw[beq_eq_false_iff_ne];exact h
  clear F hz h;generalize q2fo v k=z at *;go_in;go_wp2_with fail;refine(K.out _).mono ?_;rintro e w' ⟨rfl,rfl⟩;go_wp2
  go_ret2
  exact⟨rfl,HB.out _⟩
def hdV(h:Hd):Value := .agg #[.int .i64 h.kind,.int .i64 h.flags,.int .i64 h.length]
def qrta(k:Int)(d r:Bool)(q:Int)(w:World)(e:Ending)(w':World):Prop:=
 ∃c:Array Value,e=.returned (.agg c)/\c.size=25/\c[0]?=some (.int .i64 k)/\c[1]?=some (.bool d)/\c[2]?=some (.bool r)/\c[3]?=some (.int .i64 q)/\Below w.heap.size w w'
theorem qyup(h:Hd)(w:World):Calls prog 54 #[hdV h] w (qrta h.kind (bits .and .i64 h.flags 8 != 0) (bits .and .i64 h.flags 1 != 0) (wrap64 ((bits .and .i64 h.flags 6).tdiv 2)) w):=by
 have hzv:=qrai;have HZ:=hid qbwp;have HB:=hid (fun o o'=>qxh2 (qybm (w:=w) o) (qybm o'));have HN:=hid (fun o o'=>heap_alloc2_new w o o');have hne:¬pkZ=#[]:=by intro h;have:=qbwp;rw[h] at this;cases this
 generalize pkZ=Z at hzv HZ hne;generalize hD:pkD h.kind (bits .and .i64 h.flags 8 != 0) (bits .and .i64 h.flags 1 != 0) (wrap64 ((bits .and .i64 h.flags 6).tdiv 2))=D;have HD:=hid hD;clear hD;unfold hdV;go_in;go_wp2_with (first
  |(refine wpList_buildTo rfl 40 _ rfl (some 17) rfl D (by rw[<-HD.out];kernel_rfl) ?_)
  |(refine wpList_store_row rfl _ _ _ rfl (w.heap.size+1) D rfl rfl 40 _ (HN.out _ _) ?c1 ?c2 ?c3 ?_))
 case c1=>rw[<-HD.out];exact q5nr
 case c2=>rw[HZ.out,<-HD.out];rfl
 case c3=>rw[<-HD.out];exact qqq1 _ _ _ _
 refine q7wi (cs:=D) rfl rfl rfl underlying40 rfl (by rw[<-HD.out];exact q5nr) (setRow_heap _ _ _ _ _ _ (HN.out _ _)) ?_;rw[<-HD.out];exact⟨_,rfl,rfl,rfl,rfl,rfl,rfl,q8xz (HB.out _ _) (by omega) _⟩
def fitH(k f:Int):Bool:=(qnmj k (bits .and .i64 f 8 != 0) (bits .and .i64 f 1 != 0) (wrap64 ((bits .and .i64 f 6).tdiv 2))).2==0&&(qnmj k (bits .and .i64 f 8 != 0) (bits .and .i64 f 1 != 0) (wrap64 ((bits .and .i64 f 6).tdiv 2))).1==f
theorem q6ae(k:Int)(d r:Bool)(q:Int):0<=(qnmj k d r q).1/\(qnmj k d r q).1<=15:=by
 unfold qnmj;split
 ·exact⟨by decide,by decide⟩
 split
 ·cases h:q0xk d q
  ·exact⟨Int.le_refl 0,show(0:Int)<=15 by decide⟩
  ·rw[if_pos rfl];unfold q0xk at h;simp only[Bool.and_eq_true,decide_eq_true_eq,Bool.not_eq_true'] at h;obtain⟨⟨q0,q2⟩,_⟩:=h;unfold qgl0;cases d<;>cases r<;>simp<;>omega
 ·exact⟨by decide,by decide⟩
theorem qd45(k f:Int):fitH k f=qg3k k f:=by
 by_cases hf:0<=f/\f<=15
 ·have:f=0\/f=1\/f=2\/f=3\/f=4\/f=5\/f=6\/f=7\/f=8\/f=9\/f=10\/f=11\/f=12\/f=13\/f=14\/f=15:=by omega
  by_cases h3:k=3
  ·subst h3;rcases this with rfl|rfl|rfl|rfl|rfl|rfl|rfl|rfl|rfl|rfl|rfl|rfl|rfl|rfl|rfl|rfl<;>decide+kernel
  by_cases h6:k=6\/k=8\/k=10
  ·unfold fitH qnmj qg3k;rw[if_pos h6,if_neg h3,if_pos h6,beq_self_eq_true,Bool.true_and,Bool.eq_iff_iff,beq_iff_eq,beq_iff_eq];exact eq_comm
  ·unfold fitH qnmj qg3k;rw[if_neg h6,if_neg h3,if_neg h3,if_neg h6,beq_self_eq_true,Bool.true_and,Bool.eq_iff_iff,beq_iff_eq,beq_iff_eq];exact eq_comm
 ·have h1:fitH k f=false:=by
   unfold fitH
   have:=q6ae k (bits .and .i64 f 8 != 0) (bits .and .i64 f 1 != 0) (wrap64 ((bits .and .i64 f 6).tdiv 2))
   generalize qnmj k (bits .and .i64 f 8 != 0) (bits .and .i64 f 1 != 0) (wrap64 ((bits .and .i64 f 6).tdiv 2))=z at *;rw[Bool.and_eq_false_iff]
   right
   rw[beq_eq_false_iff_ne];omega
  rw[h1];cases h:qg3k k f
  ·rfl
  ·exact absurd (qo5i h) hf
theorem qfxa(h:Hd)(w:World):Calls prog 46 #[hdV h] w fun e w'=>e=.returned (.bool (qg3k h.kind h.flags))/\Below w.heap.size w w':=by
 rw[<-qd45];unfold fitH;have D:=hid (qyup h);generalize (bits .and .i64 h.flags 8 != 0)=d at *;generalize (bits .and .i64 h.flags 1 != 0)=r at *;generalize (wrap64 ((bits .and .i64 h.flags 6).tdiv 2))=q at *;have HB:=hid (fun o=>qybm (w:=w) o);have F:=hid (fun(c:Array Value) (W:World) (hs:c.size=25) (h0:c[0]?=some (.int .i64 h.kind)) (h1:c[1]?=some (.bool d)) (h2:c[2]?=some (.bool r)) (h3:c[3]?=some (.int .i64 q))=>qo12 W hs h0 h1 h2 h3);generalize qnmj h.kind d r q=z at *;obtain⟨k,f,l⟩:=h;obtain⟨B,hB⟩:∃B,(z.2==0&&z.1==(⟨k,f,l⟩:Hd).flags)=B:=⟨_,rfl⟩
 rw[hB];have EB:=hid hB;clear hB;unfold hdV at *;go_in;go_wp2_with fail;refine(D.out _).mono ?_;rintro e w' ⟨c,rfl,hs,h0,h1,h2,h3,hb⟩;have FF:=hid (F.out c w' hs h0 h1 h2 h3);have B2:=hid (qxh2 (HB.out _) hb);clear hs h0 h1 h2 h3;obtain⟨x,y⟩:=z;have hc:=hb.cell (p:=⟨w.heap.size,1,none⟩) (by simp);rw[World.cell?_alloc_at _ _ _ _ rfl] at hc;have HS:=hid (show w.heap.size<w'.heap.size by have:=hb.size;rw[World.size_alloc] at this;omega);clear hb;go_wp2_with fail;refine(FF.out).mono ?_;rintro e w2 ⟨rfl,hb⟩;have B3:=hid (qxh2 B2.out hb);have hc2:=(hb.cell (p:=⟨w.heap.size,1,none⟩) HS.out).trans hc;clear hc hb;by_cases hy:y=0
 ·subst hy;have hx:(x==f)=B:=EB.out;have HX:=hid hx;clear hx;go_wp2;go_ret;exact⟨congrArg (fun b=>Ending.returned (Value.bool b)) HX.out,B3.out⟩
 ·have hy2:((y:Int)==0)=false:=by simp;omega
  have hy3:false=B:=by rw[<-EB.out];show false=((y==0)&&(x==f));simp[hy]
  have HX:=hid hy3;clear hy3 hy;go_wp2;go_ret;exact⟨congrArg (fun b=>Ending.returned (Value.bool b)) HX.out,B3.out⟩
theorem q5sb(v:Int)(h:Hd)(w:World):Calls prog 37 #[.int .i64 v,hdV h] w fun e w'=>e=.returned (.int .i64 (q9d8 v h:Nat))/\Below w.heap.size w w':=by
 have K:=hid (qk5h v h.kind);have F:=hid (qfxa h);have S:=hid (qk0d h.length);have HB:=hid (fun o=>qybm (w:=w) o);by_cases hk:q2fo v h.kind=0
 ·rw[hk] at K;cases hf:qg3k h.kind h.flags
  ·have e:q9d8 v h=7:=by
    unfold q2fo at hk;unfold q9d8;cases hv:verH v
    ·rw[hv] at hk;cases hk
    ·cases hv2:qbe2 v h.kind
     ·rw[hv,hv2] at hk;cases hk
     ·rw[hf];rfl
   rw[e];rw[hf] at F;clear e hf hk;obtain⟨k,f,l⟩:=h;unfold hdV at *;go_in;go_wp2_with fail;refine(K.out _).mono ?_;rintro e w' ⟨rfl,rfl⟩;go_wp2_with fail;refine(F.out _).mono ?_;rintro e w' ⟨rfl,hb⟩;have B2:=hid (qxh2 (HB.out _) hb);clear hb;go_wp2;go_ret;exact⟨rfl,B2.out⟩
  ·rw[hf] at F;have e:q9d8 v h=if sz h.length=0 then 2 else 0:=by
    unfold q2fo at hk;unfold q9d8;cases hv:verH v
    ·rw[hv] at hk;cases hk
    ·cases hv2:qbe2 v h.kind
     ·rw[hv,hv2] at hk;cases hk
     ·rw[hf];simp only[Bool.true_eq_false,if_false];by_cases hl:h.length<0\/268435455<h.length
      ·rw[if_pos hl,if_pos (qbck.2 hl)]
      ·rw[if_neg hl,if_neg (fun h0=>hl (qbck.1 h0))]
   rw[e];clear e hf hk;obtain⟨k,f,l⟩:=h;unfold hdV at *;by_cases h0:sz l=0
   ·rw[if_pos h0];rw[show sz (⟨k,f,l⟩:Hd).length=sz l from rfl,h0] at S;clear h0;go_in;go_wp2_with fail;refine(K.out _).mono ?_;rintro e w' ⟨rfl,rfl⟩;go_wp2_with fail;refine(F.out _).mono ?_;rintro e w' ⟨rfl,hb⟩;have B2:=hid (qxh2 (HB.out _) hb);have hc:=hb.cell (p:=⟨w.heap.size,2,none⟩) (by simp);rw[World.cell?_alloc_at _ _ _ _ rfl] at hc;clear hb;go_wp2_with fail;refine(S.out _).mono ?_;rintro e w' ⟨rfl,rfl⟩;go_wp2;go_ret;exact⟨rfl,B2.out⟩
   ·rw[if_neg h0];have hn:((sz l:Int)==0)=false:=by simp;omega
    clear h0;go_in;go_wp2_with fail;refine(K.out _).mono ?_;rintro e w' ⟨rfl,rfl⟩;go_wp2_with fail;refine(F.out _).mono ?_;rintro e w' ⟨rfl,hb⟩;have B2:=hid (qxh2 (HB.out _) hb);have hc:=hb.cell (p:=⟨w.heap.size,2,none⟩) (by simp);rw[World.cell?_alloc_at _ _ _ _ rfl] at hc;clear hb;go_wp2_with fail;refine(S.out _).mono ?_;rintro e w' ⟨rfl,rfl⟩;go_wp2;go_ret;exact⟨rfl,B2.out⟩
 ·have e:((q9d8 v h:Nat):Int)=q2fo v h.kind:=by
   unfold q2fo at hk ⊢;unfold q9d8;cases hv:verH v
   ·rfl
   ·cases hv2:qbe2 v h.kind
    ·rfl
    ·rw[hv,hv2] at hk;exact absurd rfl hk
  rw[e];have hn:(q2fo v h.kind==0)=false:=by rw[beq_eq_false_iff_ne];exact hk
  clear e hk F S;obtain⟨k,f,l⟩:=h;unfold hdV at *;generalize q2fo v k=z at *;go_in;go_wp2_with fail;refine(K.out _).mono ?_;rintro e w' ⟨rfl,rfl⟩;go_wp2;go_ret;exact⟨rfl,HB.out _⟩
theorem qnz1(b:UInt8)(n:Nat)(w:World) :
 Calls prog 57 #[.int .u8 b.toNat,.int .i64 n] w fun e w'=>e=.returned (.int .i64 (nxt b n))/\w=w':=by
 have hb:=b.toNat_lt;have ha:=qm1s b;by_cases h1:128<=b.toNat
 ·rw[if_pos h1] at ha;by_cases h2:n=4
  ·subst h2;have e:nxt b 4=2:=qt6b.2 (.inl ⟨h1,rfl⟩);rw[e];clear e;go_in;go_wp2;go_ret;exact⟨rfl,rfl⟩
  ·have e:nxt b n=0:=qv8z.2 ⟨h1,h2⟩;rw[e];clear e;have h3:((n:Int)==4)=false:=by simp;omega
   go_in;go_wp2;go_ret;exact⟨rfl,rfl⟩
 ·rw[if_neg h1] at ha;by_cases h2:b.toNat=0
  ·by_cases h3:1<n
   ·have e:nxt b n=2:=qt6b.2 (.inr ⟨h2,h3⟩);rw[e];clear e;rw[h2] at ha;rw[h2];have h4:decide ((1:Int)<(n:Int))=true:=by simp;omega
    go_in;go_wp2;go_ret;exact⟨rfl,rfl⟩
   ·have e:nxt b n=1:=qicf.2 ⟨by omega,.inr (by omega)⟩;rw[e];clear e;rw[h2] at ha;rw[h2];have h4:decide ((1:Int)<(n:Int))=false:=by simp;omega
    go_in;go_wp2;go_ret;exact⟨rfl,rfl⟩
  ·have e:nxt b n=1:=qicf.2 ⟨by omega,.inl (by omega)⟩;rw[e];clear e;have h4:((b.toNat:Int)==0)=false:=by simp;omega
   go_in;go_wp2;go_ret;exact⟨rfl,rfl⟩
def qxoj(b v n st:Nat):Array Value:=#[.pointer (some ⟨b,0,none⟩),.int .i64 v,.int .i64 n,.int .i64 st]
def Rd(w:World)(b v n st:Nat):Prop:=w.heap[b]?=some (.cells (qxoj b v n st) 95 (0,0))
section
variable{w w':World}{b v n st:Nat}
theorem Rd.lt(h:Rd w b v n st):b<w.heap.size:=lt_of_block h
theorem Rd.cell(h:Rd w b v n st)(j:Nat):w.cell? ⟨b,j,none⟩=(qxoj b v n st)[j]? := cell_of_row w b j _ _ (0,0) h
theorem Rd.c0(h:Rd w b v n st):w.cell? ⟨b,0,none⟩=some (.pointer (some ⟨b,0,none⟩)):=h.cell 0
theorem Rd.c1(h:Rd w b v n st):w.cell? ⟨b,1,none⟩=some (.int .i64 v):=h.cell 1
theorem Rd.c2(h:Rd w b v n st):w.cell? ⟨b,2,none⟩=some (.int .i64 n):=h.cell 2
theorem Rd.c3(h:Rd w b v n st):w.cell? ⟨b,3,none⟩=some (.int .i64 st):=h.cell 3
theorem Rd.fr(h:Rd w b v n st)(j:Nat):w.frozen? ⟨b,j,none⟩=false:=by unfold Rd at h;simp[World.frozen?,h]
theorem Rd.draws(h:Rd w b v n st)(k:Nat):Rd (w.drewN k) b v n st:=h
theorem Rd.drew(h:Rd w b v n st):Rd w.drew b v n st:=h
theorem Rd.of_block(h:Rd w b v n st)(hb:w'.heap[b]?=w.heap[b]?):Rd w' b v n st:=hb.trans h
theorem Rd.val(h:Rd w b v n st)(u:Nat):Rd (w.setCell ⟨b,1,none⟩ (.int .i64 u)) b u n st:=qlvy h 1 _
theorem Rd.siz(h:Rd w b v n st)(u:Nat):Rd (w.setCell ⟨b,2,none⟩ (.int .i64 u)) b v u st:=qlvy h 2 _
theorem Rd.sta(h:Rd w b v n st)(u:Nat):Rd (w.setCell ⟨b,3,none⟩ (.int .i64 u)) b v n u:=qlvy h 3 _
end
theorem qp2k:∃j,prog.info? 95=some j:=Option.isSome_iff_exists.1 (by kernel_rfl)
theorem quhv{w:World}{b v n st:Nat}(hc:Rd w b v n st) :
 Calls prog 56 #[.pointer (some ⟨b,0,none⟩)] w fun e w'=>e=.returned (.bool true)/\w=w':=by
 obtain⟨j,hj⟩:=qp2k;have heq:=fun W:World=>run_eql_ptr_same (P:=prog) W ⟨b,0,none⟩ underlying89 hj;have h0:=hc.c0;clear hj;go_in;go_wp2;go_ret;exact⟨rfl,rfl⟩
theorem qz5z(w:World) :
 Calls prog 48 #[] w fun e w'=>e=.returned (.pointer (some ⟨w.heap.size,0,none⟩))/\Rd w' w.heap.size 0 0 0/\Below w.heap.size w w':=by
 go_in;go_wp2;go_ret;exact⟨rfl,heap_alloc_new w _,(Below.refl _ _).alloc (Nat.le_refl _) _⟩
theorem qh0o(v n:Nat)(x:UInt8)(hv:v<128^n)(hn:n<4):bits .or .i64 (v:Int) (IntKind.i64.wrap ((x.toNat:Int)%128*2^(7*(n:Int)).toNat))=((grow v n x:Nat):Int):=by
 have e1:(7*(n:Int)).toNat=7*n:=by omega
 have e128:(128:Nat)^n=2^(7*n):=by rw[Nat.pow_mul]
 have hp:(2:Nat)^(7*n)<=2^21:=Nat.pow_le_pow_right (by decide) (by omega);have hx:x.toNat%128<=127:=by omega
 have hm:x.toNat%128*2^(7*n)<=127*2^21:=Nat.mul_le_mul hx hp;have e2:(x.toNat:Int)%128*2^(7*n)=((x.toNat%128*2^(7*n):Nat):Int):=by simp
 unfold grow;rw[e128] at hv ⊢;rw[e1,e2,IntWalk.i64_in _ (by omega)];rw[(bits_nat .i64 28 (by decide) (fun m h0 h1=>IntWalk.i64_in _ (by omega)) v (x.toNat%128*2^(7*n)) (by omega) (by omega)).2]
 congr 1
 rw[Nat.or_comm,Nat.mul_comm,<-Nat.two_pow_add_eq_or_of_lt hv (x.toNat%128)];omega
theorem qh0d{w:World}{b v n:Nat}(x:UInt8)(hc:Rd w b v n 0)(hv:v<128^n)(hn:n<4)(hx:nxt x (n+1)=0) :
 Calls prog 49 #[.pointer (some ⟨b,0,none⟩),.int .u8 x.toNat] w fun e w'=>e=.returned (.tuple #[.bool false,.int .i64 0])/\Rd w' b (grow v n x) (n+1) 0/\w.grownBy w' (some b):=by
 have h1:=hc.c1;have h2:=hc.c2;have h3:=hc.c3;have f1:=hc.fr 1;have f2:=hc.fr 2;have f3:=hc.fr 3;have ha:=qbg0 x;have e1:IntKind.i64.wrap ((x.toNat:Int)%128)=(x.toNat:Int)%128:=IntWalk.i64_in _ (by omega);have e2:IntKind.i64.wrap (7*(n:Int))=7*(n:Int):=IntWalk.i64_in _ (by omega);have e3:(0:Int)<=7*(n:Int):=by omega
 have e4:=qh0o v n x hv hn;have NX:=hid (show ∀W,Calls prog 57 #[.int .u8 x.toNat,.int .i64 ((n:Int)+1)] W fun e w'=>e=.returned (.int .i64 0)/\W=w' from fun W=>by have h:=qnz1 x (n+1) W;rw[hx] at h;exact h)
 clear hx;generalize grow v n x=u at e4;go_in;go_wp2_with (go_at_call 56;refine(quhv hc).mono ?_;rintro e' w' ⟨rfl,rfl⟩)
 go_still_tail 16,(by kernel_rfl)
 change wpList _ _ _ _ _ w.drew;have hd:Rd w.drew b v n 0:=hc.drew;have hg:w.grownBy w.drew (some b):=⟨rfl,rfl,rfl,Nat.le_refl _,fun _ _ _=>rfl⟩
 generalize w.drew=W at hd hg;clear h1 h2 h3 f1 f2 f3;have h1:=hd.c1;have h2:=hd.c2;have h3:=hd.c3;have f1:=hd.fr 1;have f2:=hd.fr 2;have f3:=hd.fr 3;go_wp2_with (go_at_call 57;refine(NX.out _).mono ?_;rintro e' w' ⟨rfl,rfl⟩)
 go_ret2
 exact⟨rfl,((hd.val u).siz (n+1)).sta 0,qo6d hg (qo6d (qo6d (q99v _ _ _ _) (q99v _ _ _ _)) (q99v _ _ _ _))⟩
theorem qhre{w:World}{b v n:Nat}(x:UInt8)(hc:Rd w b v n 0)(hv:v<128^n)(hn:n<4)(hx:nxt x (n+1)=1) :
 Calls prog 49 #[.pointer (some ⟨b,0,none⟩),.int .u8 x.toNat] w fun e w'=>e=.returned (.tuple #[.bool true,.int .i64 0])/\Rd w' b (grow v n x) (n+1) 1/\w.grownBy w' (some b):=by
 have h1:=hc.c1;have h2:=hc.c2;have h3:=hc.c3;have f1:=hc.fr 1;have f2:=hc.fr 2;have f3:=hc.fr 3;have ha:=qbg0 x;have e1:IntKind.i64.wrap ((x.toNat:Int)%128)=(x.toNat:Int)%128:=IntWalk.i64_in _ (by omega);have e2:IntKind.i64.wrap (7*(n:Int))=7*(n:Int):=IntWalk.i64_in _ (by omega);have e3:(0:Int)<=7*(n:Int):=by omega
 have e4:=qh0o v n x hv hn;have NX:=hid (show ∀W,Calls prog 57 #[.int .u8 x.toNat,.int .i64 ((n:Int)+1)] W fun e w'=>e=.returned (.int .i64 1)/\W=w' from fun W=>by have h:=qnz1 x (n+1) W;rw[hx] at h;exact h)
 clear hx;generalize grow v n x=u at e4;go_in;go_wp2_with (go_at_call 56;refine(quhv hc).mono ?_;rintro e' w' ⟨rfl,rfl⟩)
 go_still_tail 16,(by kernel_rfl)
 change wpList _ _ _ _ _ w.drew;have hd:Rd w.drew b v n 0:=hc.drew;have hg:w.grownBy w.drew (some b):=⟨rfl,rfl,rfl,Nat.le_refl _,fun _ _ _=>rfl⟩
 generalize w.drew=W at hd hg;clear h1 h2 h3 f1 f2 f3;have h1:=hd.c1;have h2:=hd.c2;have h3:=hd.c3;have f1:=hd.fr 1;have f2:=hd.fr 2;have f3:=hd.fr 3;go_wp2_with (go_at_call 57;refine(NX.out _).mono ?_;rintro e' w' ⟨rfl,rfl⟩)
 go_ret2
 exact⟨rfl,((hd.val u).siz (n+1)).sta 1,qo6d hg (qo6d (qo6d (q99v _ _ _ _) (q99v _ _ _ _)) (q99v _ _ _ _))⟩
theorem qdxq{w:World}{b v n:Nat}(x:UInt8)(hc:Rd w b v n 0)(hv:v<128^n)(hn:n<4)(hx:nxt x (n+1)=2) :
 Calls prog 49 #[.pointer (some ⟨b,0,none⟩),.int .u8 x.toNat] w fun e w'=>e=.returned (.tuple #[.bool false,.int .i64 5])/\Rd w' b (grow v n x) (n+1) 2/\w.grownBy w' (some b):=by
 have h1:=hc.c1;have h2:=hc.c2;have h3:=hc.c3;have f1:=hc.fr 1;have f2:=hc.fr 2;have f3:=hc.fr 3;have ha:=qbg0 x;have e1:IntKind.i64.wrap ((x.toNat:Int)%128)=(x.toNat:Int)%128:=IntWalk.i64_in _ (by omega);have e2:IntKind.i64.wrap (7*(n:Int))=7*(n:Int):=IntWalk.i64_in _ (by omega);have e3:(0:Int)<=7*(n:Int):=by omega
 have e4:=qh0o v n x hv hn;have NX:=hid (show ∀W,Calls prog 57 #[.int .u8 x.toNat,.int .i64 ((n:Int)+1)] W fun e w'=>e=.returned (.int .i64 2)/\W=w' from fun W=>by have h:=qnz1 x (n+1) W;rw[hx] at h;exact h)
 clear hx;generalize grow v n x=u at e4;go_in;go_wp2_with (go_at_call 56;refine(quhv hc).mono ?_;rintro e' w' ⟨rfl,rfl⟩)
 go_still_tail 16,(by kernel_rfl)
 change wpList _ _ _ _ _ w.drew;have hd:Rd w.drew b v n 0:=hc.drew;have hg:w.grownBy w.drew (some b):=⟨rfl,rfl,rfl,Nat.le_refl _,fun _ _ _=>rfl⟩
 generalize w.drew=W at hd hg;clear h1 h2 h3 f1 f2 f3;have h1:=hd.c1;have h2:=hd.c2;have h3:=hd.c3;have f1:=hd.fr 1;have f2:=hd.fr 2;have f3:=hd.fr 3;go_wp2_with (go_at_call 57;refine(NX.out _).mono ?_;rintro e' w' ⟨rfl,rfl⟩)
 go_ret2
 exact⟨rfl,((hd.val u).siz (n+1)).sta 2,qo6d hg (qo6d (qo6d (q99v _ _ _ _) (q99v _ _ _ _)) (q99v _ _ _ _))⟩
end Go.Proofs.YtlhkgidoaggodaaGreatDoor
