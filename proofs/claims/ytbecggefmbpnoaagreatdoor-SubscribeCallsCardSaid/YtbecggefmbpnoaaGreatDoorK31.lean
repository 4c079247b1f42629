/- The contract of varint.Bytes. No condition. -/
import Derived.Great.BuildSlice
import Derived.Deep.DeepCutAuto
import Derived.Deep.CutBlock
import Derived.Test.YtbecggefmbpnoaaGreatDoorK22
import Derived.Test.YtbecggefmbpnoaaGreatDoorK17
import Derived.Test.YtbecggefmbpnoaaGreatDoorK11
import Derived.Test.YtbecggefmbpnoaaGreatDoorK10
import Derived.Test.YtbecggefmbpnoaaGreatDoorK18
set_option maxHeartbeats 2000000
set_option maxRecDepth 100000
namespace Go.Proofs.YtbecggefmbpnoaaGreatDoor
open Go.RowKit
theorem qb9o(m:Nat):bits .and .u8 ((m:Int)%256) 127=((m%128:Nat):Int):=by
 have h:=qbg0 (UInt8.ofNat m)
 rw[show(UInt8.ofNat m).toNat=m%256 by simp] at h
 rw[show(m:Int)%256=((m%256:Nat):Int) by omega,h]
 omega
theorem qurq(n k:Nat):bits .and .u8 ((n:Int) / 2^(7*k)%256) 127=((n / 128^k%128:Nat):Int):=by
 rw[←qb9o (n / 128^k)]
 congr 2
 rw[show(128:Nat)=2^7 by decide,←Nat.pow_mul]
 simp
theorem q56a(n c k:Nat):u8v (byt n c k) = .int .u8 ((n / 128^k%128+if k+1 < c then 128 else 0:Nat):Int):=by
 unfold u8v;rw[qa5k]
def vbn(n c k:Nat):List UInt8:=(List.range k).map (byt n c)
theorem q47p(n c k:Nat):vbn n c (k+1)=vbn n c k++[byt n c k]:=by simp[vbn,List.range_succ]
theorem quvo(n:Nat)(w:World)(hn:n≤268435455) :
 Calls Tryz.prog 106 #[.int .i64 n] w fun e w'=>e = .returned (.tuple #[.string (bs (vb n (sz n))),.int .i64 0])∧Below w.heap.size w w':=by
 obtain⟨i0,hi,hz0,hz1,hz2⟩:=info_parts qsz0
 have hsz:1≤sz n∧sz n≤4:=by have:=qnl4 n hn;omega
 have HZ:=Lib.hid (show ∀W,Calls Tryz.prog 149 #[.int .i64 n] W fun e w'=>e = .returned (.int .i64 (sz n))∧W=w' from qk0d n)
 generalize sz n=c at hsz HZ
 obtain⟨hc0,hc4⟩:=hsz
 have hce:((c:Int)==0)=false:=by simp;omega
 go_enter Tryz.func106,Tryz.ntmps106
 go_wp2_with (go_at_call 149;refine(HZ.out _).mono ?_;rintro e w' ⟨rfl,rfl⟩)
 go_loopw [5,13] (fun v i wr=>∃k:Nat,k≤c∧i = .int .i64 k∧wr.ownsRow w.heap.size 5 1 v k ((vbn n c k).map u8v)∧Below w.heap.size w wr) (fun _ i _=>c - (intOf i).toNat)
 case atStart=>exact⟨0,Nat.zero_le _,rfl,World.ownsRow_nil _ _ _ _,Below.refl _ _⟩
 case round=>
  obtain⟨k,hk,rfl,hown,hb⟩:=hrel
  by_cases hlt:k < c
  ·have hby:=q56a n c k
   have hsn:=q47p n c k
   have hand0:=qurq n k
   generalize hm:n / 128^k=m at hand0 hby
   have HM:=Lib.hid hm;clear hm
   have HS:=Lib.hid hsn;clear hsn
   have hbs:w.heap.size≤wr.heap.size:=hb.size
   have hm128:m%128 < 128:=Nat.mod_lt _ (by decide)
   by_cases hl:k+1 < c
   ·rw[if_pos hl] at hby
    have HB:=Lib.hid hby;clear hby
    have hor:=qoki (m%128) hm128
    generalize m%128=r at hand0 hor HB hm128
    have hgo:decide ((k:Int) < (c:Int) - 1)=true:=by simp;omega
    go_wp2_with (at_builtin;refine wpList_append_own _ rfl _ _ 58 rfl w.heap.size 5 i0 (.int .u8 0) 1 1 Tryz.underlying58 hi hz0 hz1 hz2 rfl (by decide) _ _ _ rfl (hown.alloc _) ⟨wr.heap.size,0,none⟩ 1 1 [.int .u8 ((r+128:Nat):Int)] rfl rfl ?c1 ?c2 ?c3 ?c4 ?c5 ?_)
    case c1=>intro j u hj;cases j<;>simp at hj;subst hj;exact World.cell?_alloc_at _ _ _ _ rfl
    case c2=>intro u hu;simp at hu;subst hu;rfl
    case c3=>unfold maxLen;omega
    case c4=>omega
    case c5=>simp;omega
    intro v' w1 hown' hgrow _
    have hb':Below w.heap.size w w1:=(hb.alloc hbs _).grown hgrow (by simp;omega) (fun j hj=>by have:=(hown.lt j hj).1;omega)
    have hown2:w1.ownsRow w.heap.size 5 1 v' (k+1) ((vbn n c (k+1)).map u8v):=by
     rw[HS.out,List.map_append,List.map_cons,List.map_nil,HB.out];simpa using hown'
    clear hown' hgrow HS HM HB hown hb hand0
    go_wp2
    go_roundw
    case rel=>exact⟨k+1,by omega,by go_num,hown2,hb'⟩
    case measure=>simp[intOf];omega
   ·rw[if_neg hl] at hby
    have HB:=Lib.hid hby;clear hby
    generalize m%128=r at hand0 HB hm128
    have hgo:decide ((k:Int) < (c:Int) - 1)=false:=by simp;omega
    go_wp2_with (at_builtin;refine wpList_append_own _ rfl _ _ 58 rfl w.heap.size 5 i0 (.int .u8 0) 1 1 Tryz.underlying58 hi hz0 hz1 hz2 rfl (by decide) _ _ _ rfl (hown.alloc _) ⟨wr.heap.size,0,none⟩ 1 1 [.int .u8 (r:Int)] rfl rfl ?c1 ?c2 ?c3 ?c4 ?c5 ?_)
    case c1=>intro j u hj;cases j<;>simp at hj;subst hj;exact World.cell?_alloc_at _ _ _ _ rfl
    case c2=>intro u hu;simp at hu;subst hu;rfl
    case c3=>unfold maxLen;omega
    case c4=>omega
    case c5=>simp;omega
    intro v' w1 hown' hgrow _
    have hb':Below w.heap.size w w1:=(hb.alloc hbs _).grown hgrow (by simp;omega) (fun j hj=>by have:=(hown.lt j hj).1;omega)
    have hown2:w1.ownsRow w.heap.size 5 1 v' (k+1) ((vbn n c (k+1)).map u8v):=by
     rw[HS.out,List.map_append,List.map_cons,List.map_nil,HB.out];simpa using hown'
    clear hown' hgrow HS HM HB hown hb hand0
    go_wp2
    go_roundw
    case rel=>exact⟨k+1,by omega,by go_num,hown2,hb'⟩
    case measure=>simp[intOf];omega
  ·obtain rfl:k=c:=by omega
   have hcv:=q3j9 _ hown
   go_wp2
   go_ret2
   exact⟨rfl,hb⟩
def qtij(v:Int)(p:Pk):Pk:={Pk.zero with kind:=p.kind,id:=p.id,filters:=if qsfj p.kind then p.filters else [],codes:=if !qsfj p.kind&&!qojk v p.kind then p.codes else [],props:=if v=5 then p.props else []}
def qlcd(v k:Int)(a:Ad):Ad:={adZ with fs:=if qsfj k then a.fs else none,fc:=if qsfj k then a.fc else 0,cs:=if !qsfj k&&!qojk v k then a.cs else none,cc:=if !qsfj k&&!qojk v k then a.cc else 0,ps:=if v=5 then a.ps else none,pc:=if v=5 then a.pc else 0}
theorem qciq{w:World}{p:Pk}{a:Ad}(v:Int)(h:PkAt w p a):PkAt w (qtij v p) (qlcd v p.kind a):=by
 refine⟨fun e=>absurd rfl e,?_,?_,?_⟩
 ·unfold qtij qlcd
  cases (!qsfj p.kind&&!qojk v p.kind)
  ·exact fun e=>absurd rfl e
  ·exact h.cs
 ·unfold qtij qlcd
  cases qsfj p.kind
  ·exact fun e=>absurd rfl e
  ·exact h.fs
 ·unfold qtij qlcd
  by_cases h5:v=5
  ·simp only[if_pos h5];exact h.ps
  ·simp only[if_neg h5];exact fun e=>absurd rfl e
theorem q191{p:Pk}(v:Int)(h:q21o p):q21o (qtij v p):=by
 refine⟨?_,?_,?_,Nat.zero_le _⟩
 ·unfold qtij
  cases (!qsfj p.kind&&!qojk v p.kind)
  ·exact Nat.zero_le _
  ·exact h.1
 ·unfold qtij
  cases qsfj p.kind
  ·exact Nat.zero_le _
  ·exact h.2.1
 ·unfold qtij
  by_cases h5:v=5
  ·simp only[if_pos h5];exact h.2.2.1
  ·simp only[if_neg h5];exact Nat.zero_le _
def us0T(p:Pk):Pk:={Pk.zero with kind:=p.kind,id:=p.id}
def us1T(v:Int)(p:Pk):Pk:={Pk.zero with kind:=p.kind,id:=p.id,filters:=if qsfj p.kind then p.filters else [],codes:=if !qsfj p.kind&&!qojk v p.kind then p.codes else []}
def qxsp(v k:Int)(a:Ad):Ad:={adZ with fs:=if qsfj k then a.fs else none,fc:=if qsfj k then a.fc else 0,cs:=if !qsfj k&&!qojk v k then a.cs else none,cc:=if !qsfj k&&!qojk v k then a.cc else 0}
theorem q1ms(v:Int)(p:Pk)(a:Ad)(w:World):Calls Tryz.prog 85 #[.int .i64 v,.agg (pkC p a)] w fun e w'=>e = .returned (.agg (pkC (qtij v p) (qlcd v p.kind a)))∧Below w.heap.size w w':=by
 have Z0:((w.alloc (.cells (pkC p a) 29)).alloc (.cells pkZ 29)).heap.size=w.heap.size+1+1:=by simp
 have GN:(((w.alloc (.cells (pkC p a) 29)).alloc (.cells pkZ 29)).alloc (.cells pkZ 29)).heap[w.heap.size+1+1]? = some (.cells pkZ 29 (0,0)):=by
  have:=heap_alloc_new ((w.alloc (.cells (pkC p a) 29)).alloc (.cells pkZ 29)) (.cells pkZ 29)
  rw[Z0] at this;exact this
 have S0:UsS w p a (us0T p) adZ ((((w.alloc (.cells (pkC p a) 29)).alloc (.cells pkZ 29)).alloc (.cells pkZ 29)).setRow (w.heap.size+1+1) (pkC (us0T p) adZ)):=by
  refine⟨q8xz (qxh2 (qxh2 (qybm _) (qybm _)) (qybm _)) (by omega) _,?_,?_,setRow_heap _ _ _ _ _ _ GN⟩
  ·exact(setRow_other _ _ _ _ (by omega)).trans ((heap_alloc_old _ _ (by rw[Z0];omega)).trans (heap_alloc2_old _ _ _))
  ·exact(setRow_other _ _ _ _ (by omega)).trans ((heap_alloc_old _ _ (by rw[Z0];omega)).trans (heap_alloc2_new _ _ _))
 have hzv:=qrai
 have hne:¬pkZ=#[]:=by intro h;have:=qbwp;rw[h] at this;cases this
 have HZ:=Lib.hid qbwp
 have GN:=Lib.hid GN
 have hD1:=qwmp (us0T p) adZ
 have hD2:=qmz0 (us0T p) adZ
 obtain⟨D,hD⟩:∃D,pkC (us0T p) adZ=D:=⟨_,rfl⟩
 rw[hD] at hD1 hD2 S0
 have HD:=Lib.hid hD
 have HD1:=Lib.hid hD1
 have HD2:=Lib.hid hD2
 have HS0:=Lib.hid S0
 have k0:((w.alloc (.cells (pkC p a) 29)).alloc (.cells pkZ 29)).cell? ⟨w.heap.size,0,none⟩=some (.int .i64 p.kind):=cell_of_row _ _ 0 _ _ _ (heap_alloc2_old _ _ _)
 have k4:((w.alloc (.cells (pkC p a) 29)).alloc (.cells pkZ 29)).cell? ⟨w.heap.size,4,none⟩=some (.int .i64 p.id):=cell_of_row _ _ 4 _ _ _ (heap_alloc2_old _ _ _)
 clear S0 hD hD1 hD2 Z0
 go_enter Tryz.func85,Tryz.ntmps85
 go_upto_block 0 with (first
  | (refine wpList_buildTo rfl 29 _ rfl (some _) rfl D (by rw[←HD.out];kernel_rfl) ?_)
  | (refine wpList_store_row rfl _ _ _ rfl (w.heap.size+1+1) D rfl rfl 29 _ GN.out (by rw[HD1.out];exact q5nr) (by rw[HZ.out,HD1.out]) HD2.out ?_))
 clear k0 k4 GN HZ hne hzv
 generalize (((w.alloc (.cells (pkC p a) 29)).alloc (.cells pkZ 29)).alloc (.cells pkZ 29)).setRow (w.heap.size+1+1) D=W at *
 dsimp only[Act.put]
 go_cut [] (fun wx=>UsS w p a (us1T v p) (qxsp v p.kind a) wx)
 case first=>
  have k0:W.cell? ⟨w.heap.size,0,none⟩=some (.int .i64 p.kind):=HS0.out.cell 0
  cases ha:qsfj p.kind with
  | true=>
   have S1:=Lib.hid (HS0.out.put 23 (.slice a.fs p.filters.length a.fc) (x':=us1T v p) (b':=qxsp v p.kind a) (by unfold us1T qxsp us0T;rw[ha];rfl))
   have k23:W.cell? ⟨w.heap.size,23,none⟩=some (.slice a.fs p.filters.length a.fc):=HS0.out.cell 23
   have n23:W.cell? ⟨w.heap.size+1+1,23,none⟩=some (.slice none 0 0):=HS0.out.ncell 23
   have f23:=HS0.out.fr 23
   have AS:=Lib.hid (fun W=>(ha▸qczm p.kind W:Calls Tryz.prog 44 #[.int .i64 p.kind] W fun e w'=>e = .returned (.bool true)∧W=w'))
   clear HS0 ha
   go_wp2_with (go_at_call 44;refine(AS.out _).mono ?_;rintro e W2 ⟨rfl,rfl⟩)
   go_meet
   exact S1.out
  | false=>
   have AS:=Lib.hid (fun W=>(ha▸qczm p.kind W:Calls Tryz.prog 44 #[.int .i64 p.kind] W fun e w'=>e = .returned (.bool false)∧W=w'))
   cases hb:qojk v p.kind with
   | true=>
    have BA:=Lib.hid (fun W=>(hb▸q1kd v p.kind W:Calls Tryz.prog 45 #[.int .i64 v,.int .i64 p.kind] W fun e w'=>e = .returned (.bool true)∧W=w'))
    have S1:=Lib.hid (show UsS w p a (us1T v p) (qxsp v p.kind a) W by unfold us1T qxsp;rw[ha,hb];exact HS0.out)
    clear HS0 ha hb
    go_wp2_with (first
     | (go_at_call 44;refine(AS.out _).mono ?_;rintro e W2 ⟨rfl,rfl⟩)
     | (go_at_call 45;refine(BA.out _).mono ?_;rintro e W2 ⟨rfl,rfl⟩))
    go_meet
    exact S1.out
   | false=>
    have BA:=Lib.hid (fun W=>(hb▸q1kd v p.kind W:Calls Tryz.prog 45 #[.int .i64 v,.int .i64 p.kind] W fun e w'=>e = .returned (.bool false)∧W=w'))
    have S1:=Lib.hid (HS0.out.put 22 (.slice a.cs p.codes.length a.cc) (x':=us1T v p) (b':=qxsp v p.kind a) (by unfold us1T qxsp us0T;rw[ha,hb];rfl))
    have k22:W.cell? ⟨w.heap.size,22,none⟩=some (.slice a.cs p.codes.length a.cc):=HS0.out.cell 22
    have n22:W.cell? ⟨w.heap.size+1+1,22,none⟩=some (.slice none 0 0):=HS0.out.ncell 22
    have f22:=HS0.out.fr 22
    clear HS0 ha hb
    go_wp2_with (first
     | (go_at_call 44;refine(AS.out _).mono ?_;rintro e W2 ⟨rfl,rfl⟩)
     | (go_at_call 45;refine(BA.out _).mono ?_;rintro e W2 ⟨rfl,rfl⟩))
    go_meet
    exact S1.out
 case rest=>
  have H1:=Lib.hid hcut
  clear hcut HS0
  go_upto_if 28 with fail
  go_cut [] (fun wx=>UsS w p a (qtij v p) (qlcd v p.kind a) wx)
  case first=>
   by_cases h5:v=5
   ·subst h5
    have S1:=Lib.hid (H1.out.put 24 (.slice a.ps p.props.length a.pc) (x':=qtij 5 p) (b':=qlcd 5 p.kind a) rfl)
    have k24:wc.cell? ⟨w.heap.size,24,none⟩=some (.slice a.ps p.props.length a.pc):=H1.out.cell 24
    have n24:wc.cell? ⟨w.heap.size+1+1,24,none⟩=some (.slice none 0 0):=H1.out.ncell 24
    have f24:=H1.out.fr 24
    clear H1
    go_wp2_with fail
    go_meet
    exact S1.out
   ·have h5':(v==5)=false:=beq_eq_false_iff_ne.2 h5
    have SB:=Lib.hid (show UsS w p a (qtij v p) (qlcd v p.kind a) wc by
     unfold qtij qlcd
     rw[if_neg h5,if_neg h5,if_neg h5];exact H1.out)
    clear H1 h5
    go_wp2_with fail
    go_meet
    exact SB.out
  case rest=>
   have HS:=Lib.hid hcut
   clear hcut H1
   have GB:=HS.out.new
   have GR:=Lib.hid HS.out.res
   have LO:=Lib.hid HS.out.low
   have hR1:=qwmp (qtij v p) (qlcd v p.kind a)
   have hR2:=qmz0 (qtij v p) (qlcd v p.kind a)
   obtain⟨R,hR⟩:∃R,pkC (qtij v p) (qlcd v p.kind a)=R:=⟨_,rfl⟩
   rw[hR] at GB hR1 hR2
   have HR:=Lib.hid hR
   have GB:=Lib.hid GB
   have HR1:=Lib.hid hR1
   have HR2:=Lib.hid hR2
   clear hR1 hR2 HS hR
   go_wp2_with (first
    | (refine wpList_load_row rfl _ _ rfl (w.heap.size+1+1) rfl 29 R (0,0) _ GB.out Tryz.underlying29 rfl (by rw[HR1.out];exact q5nr) ?_)
    | (refine wpList_store_row rfl _ _ _ rfl (w.heap.size+1) R rfl rfl 29 _ GR.out (by rw[HR1.out];exact q5nr) (by rw[qbwp,HR1.out]) HR2.out ?_))
   exact q7wi (cs:=R) rfl rfl rfl Tryz.underlying29 rfl (by rw[HR1.out];exact q5nr) (setRow_heap _ _ _ _ _ _ GR.out) ⟨by rw[HR.out],q8xz LO.out (by omega) _⟩
theorem qpfo(k:Int)(w:World):Calls Tryz.prog 63 #[.int .i64 k] w fun e w'=>e = .returned (.bool (qsfj k))∧w=w':=by
 unfold qsfj
 have hk:(k==8)=true∨(k==8)=false:=by cases (k==8)<;>simp
 rcases hk with k1 | k1
 all_goals
  rw[k1]
  go_enter Tryz.func63,Tryz.ntmps63
  go_wp2
  go_ret
  exact⟨by first | rfl | simp,rfl⟩
theorem qs10(k:Int)(w:World):Calls Tryz.prog 58 #[.int .i64 k] w fun e w'=>e = .returned (.bool (qfws k))∧w=w':=by
 unfold qfws
 have hk:decide (8≤k)=true∨decide (8≤k)=false:=by cases decide (8≤k)<;>simp
 rcases hk with k1 | k1
 all_goals
  rw[k1]
  go_enter Tryz.func58,Tryz.ntmps58
  go_wp2
  go_ret
  exact⟨by first | rfl | simp,rfl⟩
theorem qe72(n:Int):(wrap64 (n.tmod 4+4)).tmod 4=n%4:=by
 unfold wrap64
 rw[Int.tmod_eq_emod,Int.tmod_eq_emod]
 split<;>split<;>omega
theorem qtxp(n:Int)(w:World):Calls Tryz.prog 51 #[.int .i64 n] w fun e w'=>e = .returned (.int .i64 (n%4))∧w=w':=by
 have h:=qe72 n
 generalize n%4=m at *
 go_enter Tryz.func51,Tryz.ntmps51
 go_wp2
 go_ret
 exact⟨rfl,rfl⟩
theorem qgdh(v kind code:Int)(w:World) :
 Calls Tryz.prog 70 #[.int .i64 v,.int .i64 kind,.int .i64 code] w fun e w'=>e = .returned (.bool (q190 v kind code))∧Below w.heap.size w w':=by
 unfold q190
 by_cases h:v=4
 ·subst h
  rw[if_pos rfl]
  have GR:=Lib.hid (qtix code w)
  generalize qw69 code=r at *
  go_enter Tryz.func70,Tryz.ntmps70
  go_wp2_with fail
  refine(GR.out).mono ?_
  rintro e W ⟨rfl,rfl⟩
  go_wp2_with fail
  go_ret
  exact⟨rfl,Below.refl _ _⟩
 ·rw[if_neg h]
  have h':(v==4)=false:=beq_eq_false_iff_ne.2 h
  have MA:=Lib.hid (q6zo kind code w)
  generalize mayR kind code=r at *
  clear h
  go_enter Tryz.func70,Tryz.ntmps70
  go_wp2_with fail
  refine(MA.out).mono ?_
  rintro e W ⟨rfl,hb⟩
  have LO:=Lib.hid hb
  clear hb
  go_wp2_with fail
  go_ret
  exact⟨rfl,LO.out⟩
def q2g9(v k:Int)(a:Ad):Ad:={adZ with ps:=a.ps,pc:=a.pc,fs:=if qsfj k then a.fs else none,fc:=if qsfj k then a.fc else 0,cs:=if !qsfj k&&(k==9 || v==5) then a.cs else none,cc:=if !qsfj k&&(k==9 || v==5) then a.cc else 0}
theorem q9lh{w:World}{p:Pk}{a:Ad}(v:Int)(h:PkAt w p a):PkAt w (qumw v p) (q2g9 v p.kind a):=by
 refine⟨fun e=>absurd rfl e,?_,?_,h.ps⟩
 ·unfold qumw q2g9
  cases (!qsfj p.kind&&(p.kind==9 || v==5))
  ·exact fun e=>absurd rfl e
  ·exact h.cs
 ·unfold qumw q2g9
  cases qsfj p.kind
  ·exact fun e=>absurd rfl e
  ·exact h.fs
theorem qjed{p:Pk}(v:Int)(h:q21o p):q21o (qumw v p):=by
 refine⟨?_,?_,h.2.2.1,Nat.zero_le _⟩
 ·unfold qumw
  cases (!qsfj p.kind&&(p.kind==9 || v==5))
  ·exact Nat.zero_le _
  ·exact h.1
 ·unfold qumw
  cases qsfj p.kind
  ·exact Nat.zero_le _
  ·exact h.2.1
def us0S(p:Pk):Pk:={Pk.zero with kind:=p.kind,id:=p.id,props:=p.props}
def qxol(a:Ad):Ad:={adZ with ps:=a.ps,pc:=a.pc}
theorem q8vx(v:Int)(p:Pk)(a:Ad)(w:World):Calls Tryz.prog 67 #[.int .i64 v,.agg (pkC p a)] w fun e w'=>e = .returned (.agg (pkC (qumw v p) (q2g9 v p.kind a)))∧Below w.heap.size w w':=by
 have Z0:((w.alloc (.cells (pkC p a) 29)).alloc (.cells pkZ 29)).heap.size=w.heap.size+1+1:=by simp
 have GN:(((w.alloc (.cells (pkC p a) 29)).alloc (.cells pkZ 29)).alloc (.cells pkZ 29)).heap[w.heap.size+1+1]? = some (.cells pkZ 29 (0,0)):=by
  have:=heap_alloc_new ((w.alloc (.cells (pkC p a) 29)).alloc (.cells pkZ 29)) (.cells pkZ 29)
  rw[Z0] at this;exact this
 have S0:UsS w p a (us0S p) (qxol a) ((((w.alloc (.cells (pkC p a) 29)).alloc (.cells pkZ 29)).alloc (.cells pkZ 29)).setRow (w.heap.size+1+1) (pkC (us0S p) (qxol a))):=by
  refine⟨q8xz (qxh2 (qxh2 (qybm _) (qybm _)) (qybm _)) (by omega) _,?_,?_,setRow_heap _ _ _ _ _ _ GN⟩
  ·exact(setRow_other _ _ _ _ (by omega)).trans ((heap_alloc_old _ _ (by rw[Z0];omega)).trans (heap_alloc2_old _ _ _))
  ·exact(setRow_other _ _ _ _ (by omega)).trans ((heap_alloc_old _ _ (by rw[Z0];omega)).trans (heap_alloc2_new _ _ _))
 have hzv:=qrai
 have hne:¬pkZ=#[]:=by intro h;have:=qbwp;rw[h] at this;cases this
 have HZ:=Lib.hid qbwp
 have GN:=Lib.hid GN
 have hD1:=qwmp (us0S p) (qxol a)
 have hD2:=qmz0 (us0S p) (qxol a)
 obtain⟨D,hD⟩:∃D,pkC (us0S p) (qxol a)=D:=⟨_,rfl⟩
 rw[hD] at hD1 hD2 S0
 have HD:=Lib.hid hD
 have HD1:=Lib.hid hD1
 have HD2:=Lib.hid hD2
 have HS0:=Lib.hid S0
 have k0:((w.alloc (.cells (pkC p a) 29)).alloc (.cells pkZ 29)).cell? ⟨w.heap.size,0,none⟩=some (.int .i64 p.kind):=cell_of_row _ _ 0 _ _ _ (heap_alloc2_old _ _ _)
 have k4:((w.alloc (.cells (pkC p a) 29)).alloc (.cells pkZ 29)).cell? ⟨w.heap.size,4,none⟩=some (.int .i64 p.id):=cell_of_row _ _ 4 _ _ _ (heap_alloc2_old _ _ _)
 have k24:((w.alloc (.cells (pkC p a) 29)).alloc (.cells pkZ 29)).cell? ⟨w.heap.size,24,none⟩=some (.slice a.ps p.props.length a.pc):=cell_of_row _ _ 24 _ _ _ (heap_alloc2_old _ _ _)
 clear S0 hD hD1 hD2 Z0
 go_enter Tryz.func67,Tryz.ntmps67
 go_upto_region 2 with (first
  | (refine wpList_buildTo rfl 29 _ rfl (some _) rfl D (by rw[←HD.out];kernel_rfl) ?_)
  | (refine wpList_store_row rfl _ _ _ rfl (w.heap.size+1+1) D rfl rfl 29 _ GN.out (by rw[HD1.out];exact q5nr) (by rw[HZ.out,HD1.out]) HD2.out ?_))
 clear k0 k4 k24 GN hne hzv
 generalize (((w.alloc (.cells (pkC p a) 29)).alloc (.cells pkZ 29)).alloc (.cells pkZ 29)).setRow (w.heap.size+1+1) D=W at *
 dsimp only[Act.put]
 have LAST:∀X,UsS w p a (qumw v p) (q2g9 v p.kind a) X→(∃R,pkC (qumw v p) (q2g9 v p.kind a)=R∧X.heap[w.heap.size+1+1]? = some (.cells R 29 (0,0))∧R.size=25∧R.all (·.oneCell')=true):=fun X h=>⟨_,rfl,h.new,qwmp _ _,qmz0 _ _⟩
 have k0:W.cell? ⟨w.heap.size,0,none⟩=some (.int .i64 p.kind):=HS0.out.cell 0
 cases ha:qsfj p.kind with
 | true=>
  have S1:=Lib.hid (HS0.out.put 23 (.slice a.fs p.filters.length a.fc) (x':=qumw v p) (b':=q2g9 v p.kind a) (by unfold qumw q2g9 us0S qxol;rw[ha];rfl))
  have k23:W.cell? ⟨w.heap.size,23,none⟩=some (.slice a.fs p.filters.length a.fc):=HS0.out.cell 23
  have n23:W.cell? ⟨w.heap.size+1+1,23,none⟩=some (.slice none 0 0):=HS0.out.ncell 23
  have f23:=HS0.out.fr 23
  have AS:=Lib.hid (fun W=>(ha▸qpfo p.kind W:Calls Tryz.prog 63 #[.int .i64 p.kind] W fun e w'=>e = .returned (.bool true)∧W=w'))
  clear HS0 ha HD HD1 HD2
  obtain⟨R,hR,GB,HR1,HR2⟩:=LAST _ S1.out
  have LO:=Lib.hid S1.out.low
  have GR:=Lib.hid S1.out.res
  have HR:=Lib.hid hR
  replace GB:=Lib.hid GB
  replace HR1:=Lib.hid HR1
  replace HR2:=Lib.hid HR2
  clear hR LAST S1
  go_wp2_with (first
   | (go_at_call 63;refine(AS.out _).mono ?_;rintro e W2 ⟨rfl,rfl⟩)
   | (refine wpList_load_row rfl _ _ rfl (w.heap.size+1+1) rfl 29 R (0,0) _ GB.out Tryz.underlying29 rfl (by rw[HR1.out];exact q5nr) ?_)
   | (refine wpList_store_row rfl _ _ _ rfl (w.heap.size+1) R rfl rfl 29 _ GR.out (by rw[HR1.out];exact q5nr) (by rw[qbwp,HR1.out]) HR2.out ?_))
  exact q7wi (cs:=R) rfl rfl rfl Tryz.underlying29 rfl (by rw[HR1.out];exact q5nr) (setRow_heap _ _ _ _ _ _ GR.out) ⟨by rw[HR.out],q8xz LO.out (by omega) _⟩
 | false=>
  have AS:=Lib.hid (fun W=>(ha▸qpfo p.kind W:Calls Tryz.prog 63 #[.int .i64 p.kind] W fun e w'=>e = .returned (.bool false)∧W=w'))
  cases hb:(p.kind==9 || v==5) with
  | true=>
   have S1:=Lib.hid (HS0.out.put 22 (.slice a.cs p.codes.length a.cc) (x':=qumw v p) (b':=q2g9 v p.kind a) (by unfold qumw q2g9 us0S qxol;rw[ha,hb];rfl))
   have k22:W.cell? ⟨w.heap.size,22,none⟩=some (.slice a.cs p.codes.length a.cc):=HS0.out.cell 22
   have n22:W.cell? ⟨w.heap.size+1+1,22,none⟩=some (.slice none 0 0):=HS0.out.ncell 22
   have f22:=HS0.out.fr 22
   clear HS0 ha HD HD1 HD2
   obtain⟨R,hR,GB,HR1,HR2⟩:=LAST _ S1.out
   have LO:=Lib.hid S1.out.low
   have GR:=Lib.hid S1.out.res
   have HR:=Lib.hid hR
   replace GB:=Lib.hid GB
   replace HR1:=Lib.hid HR1
   replace HR2:=Lib.hid HR2
   clear hR LAST S1
   have hk:(p.kind==9)=true∨((p.kind==9)=false∧(v==5)=true):=by
    cases h9:(p.kind==9)
    ·rw[h9,Bool.false_or] at hb;exact .inr ⟨rfl,hb⟩
    ·exact .inl rfl
   clear hb
   generalize hpk:p.kind=k at *
   rcases hk with h9 | ⟨h9,h5⟩
   all_goals
    go_wp2_with (first
     | (go_at_call 63;refine(AS.out _).mono ?_;rintro e W2 ⟨rfl,rfl⟩)
     | (refine wpList_load_row rfl _ _ rfl (w.heap.size+1+1) rfl 29 R (0,0) _ GB.out Tryz.underlying29 rfl (by rw[HR1.out];exact q5nr) ?_)
     | (refine wpList_store_row rfl _ _ _ rfl (w.heap.size+1) R rfl rfl 29 _ GR.out (by rw[HR1.out];exact q5nr) (by rw[qbwp,HR1.out]) HR2.out ?_))
    exact q7wi (cs:=R) rfl rfl rfl Tryz.underlying29 rfl (by rw[HR1.out];exact q5nr) (setRow_heap _ _ _ _ _ _ GR.out) ⟨by rw[hpk,HR.out],q8xz LO.out (by omega) _⟩
  | false=>
   have S1:=Lib.hid (show UsS w p a (qumw v p) (q2g9 v p.kind a) W by
    have e1:qumw v p=us0S p:=by unfold qumw us0S;rw[ha,hb];rfl
    have e2:q2g9 v p.kind a=qxol a:=by unfold q2g9 qxol;rw[ha,hb];rfl
    rw[e1,e2]
    exact HS0.out)
   clear HS0 ha HD HD1 HD2
   obtain⟨R,hR,GB,HR1,HR2⟩:=LAST _ S1.out
   have LO:=Lib.hid S1.out.low
   have GR:=Lib.hid S1.out.res
   have HR:=Lib.hid hR
   replace GB:=Lib.hid GB
   replace HR1:=Lib.hid HR1
   replace HR2:=Lib.hid HR2
   clear hR LAST S1
   have h9:(p.kind==9)=false:=by rw[Bool.or_eq_false_iff] at hb;exact hb.1
   have h5:(v==5)=false:=by rw[Bool.or_eq_false_iff] at hb;exact hb.2
   clear hb
   generalize hpk:p.kind=k at *
   go_wp2_with (first
    | (go_at_call 63;refine(AS.out _).mono ?_;rintro e W2 ⟨rfl,rfl⟩)
    | (refine wpList_load_row rfl _ _ rfl (w.heap.size+1+1) rfl 29 R (0,0) _ GB.out Tryz.underlying29 rfl (by rw[HR1.out];exact q5nr) ?_)
    | (refine wpList_store_row rfl _ _ _ rfl (w.heap.size+1) R rfl rfl 29 _ GR.out (by rw[HR1.out];exact q5nr) (by rw[qbwp,HR1.out]) HR2.out ?_))
   exact q7wi (cs:=R) rfl rfl rfl Tryz.underlying29 rfl (by rw[HR1.out];exact q5nr) (setRow_heap _ _ _ _ _ _ GR.out) ⟨by rw[hpk,HR.out],q8xz LO.out (by omega) _⟩
theorem qwha(n:Nat)(w:World)(hn:n≤268435455) :
 Calls Tryz.prog 139 #[.int .i64 n] w fun e w'=>e = .returned (.tuple #[.string (bs (vb n (sz n))),.int .i64 0])∧Below w.heap.size w w':=by
 obtain⟨i0,hi,hz0,hz1,hz2⟩:=info_parts qsz0
 have hsz:1≤sz n∧sz n≤4:=by have:=qnl4 n hn;omega
 have HZ:=Lib.hid (show ∀W,Calls Tryz.prog 170 #[.int .i64 n] W fun e w'=>e = .returned (.int .i64 (sz n))∧W=w' from qvd7 n)
 generalize sz n=c at hsz HZ
 obtain⟨hc0,hc4⟩:=hsz
 have hce:((c:Int)==0)=false:=by simp;omega
 have HN:=Lib.hid hn
 clear hn
 go_enter Tryz.func139,Tryz.ntmps139
 go_wp2_with (go_at_call 170;refine(HZ.out _).mono ?_;rintro e w' ⟨rfl,rfl⟩)
 go_loopw [0,5,6] (fun x v i wr=>∃k:Nat,k≤c∧x = .int .i64 ((n / 128^k:Nat):Int)∧i = .int .i64 k∧wr.ownsRow w.heap.size 5 1 v k ((vbn n c k).map u8v)∧Below w.heap.size w wr) (fun _ _ i _=>c - (intOf i).toNat)
 case atStart=>exact⟨0,Nat.zero_le _,by simp,rfl,World.ownsRow_nil _ _ _ _,Below.refl _ _⟩
 case round=>
  obtain⟨k,hk,rfl,rfl,hown,hb⟩:=hrel
  have hdiv:n / 128^k / 128=n / 128^(k+1):=by rw[Nat.div_div_eq_div_mul,Nat.pow_succ]
  have hmle:n / 128^k≤268435455:=Nat.le_trans (Nat.div_le_self _ _) HN.out
  by_cases hlt:k < c
  ·have hby:=q56a n c k
   have hsn:=q47p n c k
   generalize n / 128^k=m at hby hdiv hmle
   obtain⟨r,hr0⟩:∃r,m%128=r:=⟨_,rfl⟩
   have hr128:(r:Int) < 128:=by omega
   have hr:(m:Int)%128=(r:Int):=by omega
   have HD:=Lib.hid (show(m:Int) / 128=((n / 128^(k+1):Nat):Int) by omega)
   have hm0:(m:Int)≤268435455:=by omega
   rw[hr0] at hby
   clear hr0 hdiv hmle
   have HS:=Lib.hid hsn;clear hsn
   have hbs:w.heap.size≤wr.heap.size:=hb.size
   by_cases hl:k+1 < c
   ·rw[if_pos hl] at hby
    have HB:=Lib.hid hby;clear hby
    have hgo:decide ((k:Int)+1 < (c:Int))=true:=by simp;omega
    go_wp2_with (at_builtin;refine wpList_append_own _ rfl _ _ 58 rfl w.heap.size 5 i0 (.int .u8 0) 1 1 Tryz.underlying58 hi hz0 hz1 hz2 rfl (by decide) _ _ _ rfl (hown.alloc _) ⟨wr.heap.size,0,none⟩ 1 1 [.int .u8 ((r:Int)+128)] rfl rfl ?c1 ?c2 ?c3 ?c4 ?c5 ?_)
    case c1=>intro j u hj;cases j<;>simp at hj;subst hj;exact World.cell?_alloc_at _ _ _ _ rfl
    case c2=>intro u hu;simp at hu;subst hu;rfl
    case c3=>unfold maxLen;omega
    case c4=>omega
    case c5=>simp;omega
    intro v' w1 hown' hgrow _
    have hb':Below w.heap.size w w1:=(hb.alloc hbs _).grown hgrow (by simp;omega) (fun j hj=>by have:=(hown.lt j hj).1;omega)
    have hown2:w1.ownsRow w.heap.size 5 1 v' (k+1) ((vbn n c (k+1)).map u8v):=by
     rw[HS.out,List.map_append,List.map_cons,List.map_nil,HB.out];simpa using hown'
    clear hown' hgrow HS HB hown hb hr
    go_wp2
    go_roundw
    case rel=>exact⟨k+1,by omega,congrArg (Value.int .i64) HD.out,by go_num,hown2,hb'⟩
    case measure=>simp[intOf];omega
   ·rw[if_neg hl] at hby
    have HB:=Lib.hid hby;clear hby
    have hgo:decide ((k:Int)+1 < (c:Int))=false:=by simp;omega
    go_wp2_with (at_builtin;refine wpList_append_own _ rfl _ _ 58 rfl w.heap.size 5 i0 (.int .u8 0) 1 1 Tryz.underlying58 hi hz0 hz1 hz2 rfl (by decide) _ _ _ rfl (hown.alloc _) ⟨wr.heap.size,0,none⟩ 1 1 [.int .u8 (r:Int)] rfl rfl ?c1 ?c2 ?c3 ?c4 ?c5 ?_)
    case c1=>intro j u hj;cases j<;>simp at hj;subst hj;exact World.cell?_alloc_at _ _ _ _ rfl
    case c2=>intro u hu;simp at hu;subst hu;rfl
    case c3=>unfold maxLen;omega
    case c4=>omega
    case c5=>simp;omega
    intro v' w1 hown' hgrow _
    have hb':Below w.heap.size w w1:=(hb.alloc hbs _).grown hgrow (by simp;omega) (fun j hj=>by have:=(hown.lt j hj).1;omega)
    have hown2:w1.ownsRow w.heap.size 5 1 v' (k+1) ((vbn n c (k+1)).map u8v):=by
     rw[HS.out,List.map_append,List.map_cons,List.map_nil,HB.out];simpa using hown'
    clear hown' hgrow HS HB hown hb hr
    go_wp2
    go_roundw
    case rel=>exact⟨k+1,by omega,congrArg (Value.int .i64) HD.out,by go_num,hown2,hb'⟩
    case measure=>simp[intOf];omega
  ·obtain rfl:k=c:=by omega
   clear hmle hdiv
   have hcv:=q3j9 _ hown
   go_wp2
   go_ret2
   exact⟨rfl,hb⟩
end Go.Proofs.YtbecggefmbpnoaaGreatDoor
