/- The contract of varint.Bytes. No condition. -/
import Derived.Test.YtbklidpadffpgaaGreatK25
import Derived.Test.YtbklidpadffpgaaGreatK18
import Derived.Test.YtbklidpadffpgaaGreatK20
set_option maxHeartbeats 400000
namespace Go.Proofs.YtbklidpadffpgaaGreat
open Go.RowKit
theorem qb9o(m:Nat):bits .and .u8 ((m:Int)%256) 127=((m%128:Nat):Int):=by
 have h:=qbg0 (UInt8.ofNat m)
 rw[show(UInt8.ofNat m).toNat=m%256 by simp] at h
 rw[show(m:Int)%256=((m%256:Nat):Int) by omega,h]
 omega
theorem qurq(n k:Nat):bits .and .u8 ((n:Int) / 2^(7*k)%256) 127=((n / 128^k%128:Nat):Int):=by
 rw[←qb9o (n / 128^k)]
 congr 2
 rw[show(128:Nat)=2^7 by decide,←Nat.pow_mul]
 simp
theorem q56a(n c k:Nat):u8v (byt n c k) = .int .u8 ((n / 128^k%128+if k+1 < c then 128 else 0:Nat):Int):=by
 unfold u8v;rw[qa5k]
def vbn(n c k:Nat):List UInt8:=(List.range k).map (byt n c)
theorem q47p(n c k:Nat):vbn n c (k+1)=vbn n c k++[byt n c k]:=by simp[vbn,List.range_succ]
theorem quvo(n:Nat)(w:World)(hn:n≤268435455) :
 Calls Tryz.prog 55 #[.int .i64 n] w fun e w'=>e = .returned (.tuple #[.string (bs (vb n (sz n))),.int .i64 0])∧Below w.heap.size w w':=by
 obtain⟨i0,hi,hz0,hz1,hz2⟩:=info_parts qsz0
 have hsz:1≤sz n∧sz n≤4:=by have:=qnl4 n hn;omega
 have HZ:=Lib.hid (show ∀W,Calls Tryz.prog 96 #[.int .i64 n] W fun e w'=>e = .returned (.int .i64 (sz n))∧W=w' from qk0d n)
 generalize sz n=c at hsz HZ
 obtain⟨hc0,hc4⟩:=hsz
 have hce:((c:Int)==0)=false:=by simp;omega
 go_enter Tryz.func55,Tryz.ntmps55
 go_wp2_with (go_at_call 96;refine(HZ.out _).mono ?_;rintro e w' ⟨rfl,rfl⟩)
 go_loopw [5,13] (fun v i wr=>∃k:Nat,k≤c∧i = .int .i64 k∧wr.ownsRow w.heap.size 5 1 v k ((vbn n c k).map u8v)∧Below w.heap.size w wr) (fun _ i _=>c - (intOf i).toNat)
 case atStart=>exact⟨0,Nat.zero_le _,rfl,World.ownsRow_nil _ _ _ _,Below.refl _ _⟩
 case round=>
  obtain⟨k,hk,rfl,hown,hb⟩:=hrel
  by_cases hlt:k < c
  ·have hby:=q56a n c k
   have hsn:=q47p n c k
   have hand0:=qurq n k
   generalize hm:n / 128^k=m at hand0 hby
   have HM:=Lib.hid hm;clear hm
   have HS:=Lib.hid hsn;clear hsn
   have hbs:w.heap.size≤wr.heap.size:=hb.size
   have hm128:m%128 < 128:=Nat.mod_lt _ (by decide)
   by_cases hl:k+1 < c
   ·rw[if_pos hl] at hby
    have HB:=Lib.hid hby;clear hby
    have hor:=qoki (m%128) hm128
    generalize m%128=r at hand0 hor HB hm128
    have hgo:decide ((k:Int) < (c:Int) - 1)=true:=by simp;omega
    go_wp2_with (at_builtin;refine wpList_append_own _ rfl _ _ 97 rfl w.heap.size 5 i0 (.int .u8 0) 1 1 Tryz.underlying97 hi hz0 hz1 hz2 rfl (by decide) _ _ _ rfl (hown.alloc _) ⟨wr.heap.size,0,none⟩ 1 1 [.int .u8 ((r+128:Nat):Int)] rfl rfl ?c1 ?c2 ?c3 ?c4 ?c5 ?_)
    case c1=>intro j u hj;cases j<;>simp at hj;subst hj;exact World.cell?_alloc_at _ _ _ _ rfl
    case c2=>intro u hu;simp at hu;subst hu;rfl
    case c3=>unfold maxLen;omega
    case c4=>omega
    case c5=>simp;omega
    intro v' w1 hown' hgrow _
    have hb':Below w.heap.size w w1:=(hb.alloc hbs _).grown hgrow (by simp;omega) (fun j hj=>by have:=(hown.lt j hj).1;omega)
    have hown2:w1.ownsRow w.heap.size 5 1 v' (k+1) ((vbn n c (k+1)).map u8v):=by
     rw[HS.out,List.map_append,List.map_cons,List.map_nil,HB.out];simpa using hown'
    clear hown' hgrow HS HM HB hown hb hand0
    go_wp2
    go_roundw
    case rel=>exact⟨k+1,by omega,by go_num,hown2,hb'⟩
    case measure=>simp[intOf];omega
   ·rw[if_neg hl] at hby
    have HB:=Lib.hid hby;clear hby
    generalize m%128=r at hand0 HB hm128
    have hgo:decide ((k:Int) < (c:Int) - 1)=false:=by simp;omega
    go_wp2_with (at_builtin;refine wpList_append_own _ rfl _ _ 97 rfl w.heap.size 5 i0 (.int .u8 0) 1 1 Tryz.underlying97 hi hz0 hz1 hz2 rfl (by decide) _ _ _ rfl (hown.alloc _) ⟨wr.heap.size,0,none⟩ 1 1 [.int .u8 (r:Int)] rfl rfl ?c1 ?c2 ?c3 ?c4 ?c5 ?_)
    case c1=>intro j u hj;cases j<;>simp at hj;subst hj;exact World.cell?_alloc_at _ _ _ _ rfl
    case c2=>intro u hu;simp at hu;subst hu;rfl
    case c3=>unfold maxLen;omega
    case c4=>omega
    case c5=>simp;omega
    intro v' w1 hown' hgrow _
    have hb':Below w.heap.size w w1:=(hb.alloc hbs _).grown hgrow (by simp;omega) (fun j hj=>by have:=(hown.lt j hj).1;omega)
    have hown2:w1.ownsRow w.heap.size 5 1 v' (k+1) ((vbn n c (k+1)).map u8v):=by
     rw[HS.out,List.map_append,List.map_cons,List.map_nil,HB.out];simpa using hown'
    clear hown' hgrow HS HM HB hown hb hand0
    go_wp2
    go_roundw
    case rel=>exact⟨k+1,by omega,by go_num,hown2,hb'⟩
    case measure=>simp[intOf];omega
  ·obtain rfl:k=c:=by omega
   have hcv:=q3j9 _ hown
   go_wp2
   go_ret2
   exact⟨rfl,hb⟩
theorem qwha(n:Nat)(w:World)(hn:n≤268435455) :
 Calls Tryz.prog 137 #[.int .i64 n] w fun e w'=>e = .returned (.tuple #[.string (bs (vb n (sz n))),.int .i64 0])∧Below w.heap.size w w':=by
 obtain⟨i0,hi,hz0,hz1,hz2⟩:=info_parts qsz0
 have hsz:1≤sz n∧sz n≤4:=by have:=qnl4 n hn;omega
 have HZ:=Lib.hid (show ∀W,Calls Tryz.prog 159 #[.int .i64 n] W fun e w'=>e = .returned (.int .i64 (sz n))∧W=w' from qvd7 n)
 generalize sz n=c at hsz HZ
 obtain⟨hc0,hc4⟩:=hsz
 have hce:((c:Int)==0)=false:=by simp;omega
 have HN:=Lib.hid hn
 clear hn
 go_enter Tryz.func137,Tryz.ntmps137
 go_wp2_with (go_at_call 159;refine(HZ.out _).mono ?_;rintro e w' ⟨rfl,rfl⟩)
 go_loopw [0,5,6] (fun x v i wr=>∃k:Nat,k≤c∧x = .int .i64 ((n / 128^k:Nat):Int)∧i = .int .i64 k∧wr.ownsRow w.heap.size 5 1 v k ((vbn n c k).map u8v)∧Below w.heap.size w wr) (fun _ _ i _=>c - (intOf i).toNat)
 case atStart=>exact⟨0,Nat.zero_le _,by simp,rfl,World.ownsRow_nil _ _ _ _,Below.refl _ _⟩
 case round=>
  obtain⟨k,hk,rfl,rfl,hown,hb⟩:=hrel
  have hdiv:n / 128^k / 128=n / 128^(k+1):=by rw[Nat.div_div_eq_div_mul,Nat.pow_succ]
  have hmle:n / 128^k≤268435455:=Nat.le_trans (Nat.div_le_self _ _) HN.out
  by_cases hlt:k < c
  ·have hby:=q56a n c k
   have hsn:=q47p n c k
   generalize n / 128^k=m at hby hdiv hmle
   obtain⟨r,hr0⟩:∃r,m%128=r:=⟨_,rfl⟩
   have hr128:(r:Int) < 128:=by omega
   have hr:(m:Int)%128=(r:Int):=by omega
   have HD:=Lib.hid (show(m:Int) / 128=((n / 128^(k+1):Nat):Int) by omega)
   have hm0:(m:Int)≤268435455:=by omega
   rw[hr0] at hby
   clear hr0 hdiv hmle
   have HS:=Lib.hid hsn;clear hsn
   have hbs:w.heap.size≤wr.heap.size:=hb.size
   by_cases hl:k+1 < c
   ·rw[if_pos hl] at hby
    have HB:=Lib.hid hby;clear hby
    have hgo:decide ((k:Int)+1 < (c:Int))=true:=by simp;omega
    go_wp2_with (at_builtin;refine wpList_append_own _ rfl _ _ 97 rfl w.heap.size 5 i0 (.int .u8 0) 1 1 Tryz.underlying97 hi hz0 hz1 hz2 rfl (by decide) _ _ _ rfl (hown.alloc _) ⟨wr.heap.size,0,none⟩ 1 1 [.int .u8 ((r:Int)+128)] rfl rfl ?c1 ?c2 ?c3 ?c4 ?c5 ?_)
    case c1=>intro j u hj;cases j<;>simp at hj;subst hj;exact World.cell?_alloc_at _ _ _ _ rfl
    case c2=>intro u hu;simp at hu;subst hu;rfl
    case c3=>unfold maxLen;omega
    case c4=>omega
    case c5=>simp;omega
    intro v' w1 hown' hgrow _
    have hb':Below w.heap.size w w1:=(hb.alloc hbs _).grown hgrow (by simp;omega) (fun j hj=>by have:=(hown.lt j hj).1;omega)
    have hown2:w1.ownsRow w.heap.size 5 1 v' (k+1) ((vbn n c (k+1)).map u8v):=by
     rw[HS.out,List.map_append,List.map_cons,List.map_nil,HB.out];simpa using hown'
    clear hown' hgrow HS HB hown hb hr
    go_wp2
    go_roundw
    case rel=>exact⟨k+1,by omega,congrArg (Value.int .i64) HD.out,by go_num,hown2,hb'⟩
    case measure=>simp[intOf];omega
   ·rw[if_neg hl] at hby
    have HB:=Lib.hid hby;clear hby
    have hgo:decide ((k:Int)+1 < (c:Int))=false:=by simp;omega
    go_wp2_with (at_builtin;refine wpList_append_own _ rfl _ _ 97 rfl w.heap.size 5 i0 (.int .u8 0) 1 1 Tryz.underlying97 hi hz0 hz1 hz2 rfl (by decide) _ _ _ rfl (hown.alloc _) ⟨wr.heap.size,0,none⟩ 1 1 [.int .u8 (r:Int)] rfl rfl ?c1 ?c2 ?c3 ?c4 ?c5 ?_)
    case c1=>intro j u hj;cases j<;>simp at hj;subst hj;exact World.cell?_alloc_at _ _ _ _ rfl
    case c2=>intro u hu;simp at hu;subst hu;rfl
    case c3=>unfold maxLen;omega
    case c4=>omega
    case c5=>simp;omega
    intro v' w1 hown' hgrow _
    have hb':Below w.heap.size w w1:=(hb.alloc hbs _).grown hgrow (by simp;omega) (fun j hj=>by have:=(hown.lt j hj).1;omega)
    have hown2:w1.ownsRow w.heap.size 5 1 v' (k+1) ((vbn n c (k+1)).map u8v):=by
     rw[HS.out,List.map_append,List.map_cons,List.map_nil,HB.out];simpa using hown'
    clear hown' hgrow HS HB hown hb hr
    go_wp2
    go_roundw
    case rel=>exact⟨k+1,by omega,congrArg (Value.int .i64) HD.out,by go_num,hown2,hb'⟩
    case measure=>simp[intOf];omega
  ·obtain rfl:k=c:=by omega
   clear hmle hdiv
   have hcv:=q3j9 _ hown
   go_wp2
   go_ret2
   exact⟨rfl,hb⟩
end Go.Proofs.YtbklidpadffpgaaGreat
