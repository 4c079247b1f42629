/- The walk of AckCodes. Condition: the id is what its type holds. -/
import Derived.Deep.DeepCutAuto
import Derived.BigQuiet
import Derived.Great.BuildSlice
import Derived.Test.YthhdhagenmcbeaaK52
import Derived.Test.YthhdhagenmcbeaaK35
set_option maxHeartbeats 4000000
set_option maxRecDepth 100000
namespace Go.Proofs.Ythhdhagenmcbeaa
open Go.RowKit
theorem qsnj{v k i c:Int}(hv:v=4∨v=5)(hk:4≤k∧k≤7):qryp v (numA k i c)=if (1≤i∧i≤65535)∧(if v=5 then mayR k c=true else c=0) then 0 else 2:=by
 have h:=qd7q (i:=i) (c:=c) hv hk
 by_cases hc:(1≤i∧i≤65535)∧(if v=5 then mayR k c=true else c=0)
 ·rw[if_pos hc];exact h.2 hc
 ·rw[if_neg hc]
  have hn:qryp v (numA k i c)≠0:=fun e=>hc (h.1 e)
  unfold qryp at hn ⊢
  by_cases ho:okA v (numA k i c)=false
  ·rw[if_pos ho]
  ·rw[if_neg ho] at hn
   refine absurd ?_ hn
   show qfk9 v k []=0
   unfold qfk9
   split<;>rfl
theorem q6jg{k i c:Int}(hk:4≤k∧k≤7):q04h 5 (numA k i c)=if ((decide (1≤i)&&decide (i≤65535))&&mayR k c)=true then(be i.toNat 2++(if c≠0 then [UInt8.ofNat c.toNat] else []),0) else([],2):=by
 unfold q04h
 rw[qsnj (.inr rfl) hk]
 have e:rawA 5 (numA k i c)=be i.toNat 2++(if c≠0 then [UInt8.ofNat c.toNat] else []):=by
  unfold rawA qzno numA
  by_cases h:c=0<;>simp[Pk.zero,h]
 rw[e]
 by_cases h:(1≤i∧i≤65535)∧mayR k c=true
 ·simp[h]
 ·have h':¬((decide (1≤i)&&decide (i≤65535))&&mayR k c)=true:=by simpa [and_assoc] using h
  rw[if_neg h']
  simp only[if_true]
  rw[if_neg h]
  simp
theorem q8f8{k i c:Int}(hk:4≤k∧k≤7):q04h 4 (numA k i c)=if ((decide (1≤i)&&decide (i≤65535))&&(c==0))=true then(be i.toNat 2,0) else([],2):=by
 unfold q04h
 rw[qsnj (.inl rfl) hk]
 have e:rawA 4 (numA k i c)=be i.toNat 2:=by
  unfold rawA qzno numA
  simp
 rw[e]
 by_cases h:(1≤i∧i≤65535)∧c=0
 ·simp[h]
 ·have h':¬((decide (1≤i)&&decide (i≤65535))&&(c==0))=true:=by simpa [and_assoc] using h
  rw[if_neg h']
  simp only[show ¬((4:Int)=5) by decide,if_false]
  rw[if_neg h]
  simp
theorem qbtn(n:Nat):be n 2=[UInt8.ofNat (n / 256),UInt8.ofNat n]:=by simp[be]
theorem qko3(k c:Int)(n:Nat)(w:World)(hn:n≤65535) :
 Calls Try.prog 3 #[.int .i64 k,.int .u16 n,.int .i64 c] w fun e w'=>e = .returned (.bool true)∧Below w.heap.size w w':=by
 have PI:=fun W=>qhho k 4 W (by decide) (by decide)
 obtain⟨r,hr⟩:∃r,k%4=r:=⟨_,rfl⟩
 have hr0:0≤r:=by rw[←hr];exact Int.emod_nonneg _ (by decide)
 have hr4:r < 4:=by rw[←hr];exact Int.emod_lt_of_pos _ (by decide)
 rw[hr] at PI
 have B5:=fun W=>qgl7 (k:=4+r) (i:=n) (c:=c) 5 (by omega) W
 have B4:=fun W=>qgl7 (k:=4+r) (i:=n) (c:=c) 4 (by omega) W
 have MY:=fun W=>q6zo (4+r) c W
 have mz:mayR (4+r) 0=true:=by
  obtain rfl | rfl | rfl | rfl:r=0∨r=1∨r=2∨r=3:=by omega
  all_goals decide+kernel
 rw[q6jg (by omega),Int.toNat_natCast] at B5
 rw[q8f8 (by omega),Int.toNat_natCast] at B4
 obtain⟨D,hD⟩:∃D,pkC (numA (4+r) n c) adZ=D:=⟨_,rfl⟩
 have hD1:D.size=25:=by rw[←hD];exact qwmp _ _
 have hD2:D.all (·.oneCell')=true:=by rw[←hD];exact qmz0 _ _
 rw[hD] at B5 B4
 have HD:=Lib.hid hD
 have HD1:=Lib.hid hD1
 have HD2:=Lib.hid hD2
 have HZ:=Lib.hid qbwp
 have hzv:=qrai
 have hne:¬pkZ=#[]:=by intro h;have:=qbwp;rw[h] at this;cases this
 have hw:IntKind.i64.wrap (n:Int)=(n:Int):=by rw[IntKind.wrap_i64];omega
 have LB:=Lib.hid (fun W=>q8xz (qybm (w:=W) (.cells pkZ 31)) (Nat.le_refl _) D)
 replace PI:=Lib.hid PI
 clear hD hD1 hD2 hr
 by_cases h0:n=0
 ·subst h0
  rw[show decide (1≤((0:Nat):Int))=false from rfl,Bool.false_and,Bool.false_and,if_neg (by decide)] at B5 B4
  replace B5:=Lib.hid B5
  replace B4:=Lib.hid B4
  clear mz MY hn
  go_enter Try.func3,Try.ntmps3
  go_wp2_with fail
  refine(q6if _).mono ?_
  rintro e W ⟨rfl,hb⟩
  have L1:=Lib.hid hb
  clear hb
  go_wp2_with fail
  refine(PI.out _).mono ?_
  rintro e W' ⟨rfl,rfl⟩
  have L2:=Lib.hid (qxh2 L1.out (LB.out W))
  have G2:=Lib.hid (setRow_heap _ _ _ D _ _ (heap_alloc_new W (.cells pkZ 31)))
  go_wp2_with (first
   | (refine wpList_buildTo rfl 31 _ rfl (some _) rfl D (by rw[←HD.out];kernel_rfl) ?_)
   | (refine wpList_store_row rfl _ _ _ rfl W.heap.size D rfl rfl 31 _ (heap_alloc_new W _) (by rw[HD1.out];exact q5nr) (by rw[HZ.out,HD1.out]) HD2.out ?_)
   | (refine wpList_load_row rfl _ _ rfl W.heap.size rfl 31 D (0,0) _ G2.out Try.underlying31 rfl (by rw[HD1.out];exact q5nr) ?_))
  refine(B5.out _).mono ?_
  rintro e W3 ⟨rfl,hb⟩
  have L3:=Lib.hid (qxh2 L2.out hb)
  have G3:=Lib.hid ((hb.block _ (lt_of_block G2.out)).trans G2.out)
  clear hb
  go_wp2_with (refine wpList_load_row rfl _ _ rfl W.heap.size rfl 31 D (0,0) _ G3.out Try.underlying31 rfl (by rw[HD1.out];exact q5nr) ?_)
  refine(B4.out _).mono ?_
  rintro e W4 ⟨rfl,hb⟩
  have L4:=Lib.hid (qxh2 L3.out hb)
  have G4:=Lib.hid ((hb.block _ (lt_of_block G3.out)).trans G3.out)
  have k0:W4.cell? ⟨W.heap.size,0,none⟩=some (.int .i64 (4+r)):=(cell_of_row _ _ 0 _ _ _ G4.out).trans (by rw[←HD.out];rfl)
  clear hb L1 L2 L3 G2 G3
  go_upto_region 10 with fail
  go_quiet (fail)
  go_wp2_with fail
  go_ret
  exact⟨rfl,qnpu L4.out _⟩
 ·have hn1:(1≤(n:Int)∧(n:Int)≤65535):=by omega
  have g0:(0:Int) < (n:Int):=by omega
  obtain⟨m,hm⟩:∃m,mayR (4+r) c=m:=⟨_,rfl⟩
  rw[hm] at MY B5
  rw[decide_eq_true hn1.1,decide_eq_true hn1.2,Bool.true_and,Bool.true_and] at B5 B4
  by_cases hc:c=0
  ·subst hc
   have:m=true:=by rw[←hm,mz]
   subst this
   rw[if_pos rfl,if_neg (by decide),List.append_nil] at B5
   rw[show((0:Int)==0)=true from rfl,if_pos rfl] at B4
   have hz:(bs (be n 2)).size=2:=by rw[q5zk,q0rl]
   generalize bs (be n 2)=Z at *
   replace B5:=Lib.hid B5
   replace B4:=Lib.hid B4
   replace MY:=Lib.hid MY
   clear hm mz hn1 h0 hn
   go_enter Try.func3,Try.ntmps3
   go_wp2_with fail
   refine(q6if _).mono ?_
   rintro e W ⟨rfl,hb⟩
   have L1:=Lib.hid hb
   clear hb
   go_wp2_with fail
   refine(PI.out _).mono ?_
   rintro e W' ⟨rfl,rfl⟩
   have L2:=Lib.hid (qxh2 L1.out (LB.out W))
   have G2:=Lib.hid (setRow_heap _ _ _ D _ _ (heap_alloc_new W (.cells pkZ 31)))
   go_wp2_with (first
    | (refine wpList_buildTo rfl 31 _ rfl (some _) rfl D (by rw[←HD.out];kernel_rfl) ?_)
    | (refine wpList_store_row rfl _ _ _ rfl W.heap.size D rfl rfl 31 _ (heap_alloc_new W _) (by rw[HD1.out];exact q5nr) (by rw[HZ.out,HD1.out]) HD2.out ?_)
    | (refine wpList_load_row rfl _ _ rfl W.heap.size rfl 31 D (0,0) _ G2.out Try.underlying31 rfl (by rw[HD1.out];exact q5nr) ?_))
   refine(B5.out _).mono ?_
   rintro e W3 ⟨rfl,hb⟩
   have L3:=Lib.hid (qxh2 L2.out hb)
   have G3:=Lib.hid ((hb.block _ (lt_of_block G2.out)).trans G2.out)
   clear hb
   go_wp2_with (refine wpList_load_row rfl _ _ rfl W.heap.size rfl 31 D (0,0) _ G3.out Try.underlying31 rfl (by rw[HD1.out];exact q5nr) ?_)
   refine(B4.out _).mono ?_
   rintro e W4 ⟨rfl,hb⟩
   have L4:=Lib.hid (qxh2 L3.out hb)
   have G4:=Lib.hid ((hb.block _ (lt_of_block G3.out)).trans G3.out)
   have k0:W4.cell? ⟨W.heap.size,0,none⟩=some (.int .i64 (4+r)):=(cell_of_row _ _ 0 _ _ _ G4.out).trans (by rw[←HD.out];rfl)
   clear hb L1 L2 L3 G2 G3
   go_wp2_with fail
   refine(MY.out _).mono ?_
   rintro e W5 ⟨rfl,hb⟩
   have L5:=Lib.hid (qxh2 L4.out hb)
   clear hb k0
   go_upto_region 10 with fail
   go_quiet (fail)
   go_wp2_with fail
   go_ret
   exact⟨rfl,qnpu L5.out _⟩
  ·have e1:(c==0)=false:=by simpa using hc
   rw[e1,if_neg (by decide)] at B4
   cases m with
   | false=>
    rw[if_neg (by decide)] at B5
    replace B5:=Lib.hid B5
    replace B4:=Lib.hid B4
    replace MY:=Lib.hid MY
    clear hm mz hn1 h0 hn hc
    go_enter Try.func3,Try.ntmps3
    go_wp2_with fail
    refine(q6if _).mono ?_
    rintro e W ⟨rfl,hb⟩
    have L1:=Lib.hid hb
    clear hb
    go_wp2_with fail
    refine(PI.out _).mono ?_
    rintro e W' ⟨rfl,rfl⟩
    have L2:=Lib.hid (qxh2 L1.out (LB.out W))
    have G2:=Lib.hid (setRow_heap _ _ _ D _ _ (heap_alloc_new W (.cells pkZ 31)))
    go_wp2_with (first
     | (refine wpList_buildTo rfl 31 _ rfl (some _) rfl D (by rw[←HD.out];kernel_rfl) ?_)
     | (refine wpList_store_row rfl _ _ _ rfl W.heap.size D rfl rfl 31 _ (heap_alloc_new W _) (by rw[HD1.out];exact q5nr) (by rw[HZ.out,HD1.out]) HD2.out ?_)
     | (refine wpList_load_row rfl _ _ rfl W.heap.size rfl 31 D (0,0) _ G2.out Try.underlying31 rfl (by rw[HD1.out];exact q5nr) ?_))
    refine(B5.out _).mono ?_
    rintro e W3 ⟨rfl,hb⟩
    have L3:=Lib.hid (qxh2 L2.out hb)
    have G3:=Lib.hid ((hb.block _ (lt_of_block G2.out)).trans G2.out)
    clear hb
    go_wp2_with (refine wpList_load_row rfl _ _ rfl W.heap.size rfl 31 D (0,0) _ G3.out Try.underlying31 rfl (by rw[HD1.out];exact q5nr) ?_)
    refine(B4.out _).mono ?_
    rintro e W4 ⟨rfl,hb⟩
    have L4:=Lib.hid (qxh2 L3.out hb)
    have G4:=Lib.hid ((hb.block _ (lt_of_block G3.out)).trans G3.out)
    have k0:W4.cell? ⟨W.heap.size,0,none⟩=some (.int .i64 (4+r)):=(cell_of_row _ _ 0 _ _ _ G4.out).trans (by rw[←HD.out];rfl)
    clear hb L1 L2 L3 G2 G3
    go_wp2_with fail
    refine(MY.out _).mono ?_
    rintro e W5 ⟨rfl,hb⟩
    have L5:=Lib.hid (qxh2 L4.out hb)
    clear hb k0
    go_upto_region 10 with fail
    go_quiet (fail)
    go_wp2_with fail
    go_ret
    exact⟨rfl,qnpu L5.out _⟩
   | true=>
    obtain⟨c0,c1⟩:=qaiv hm
    rw[if_pos rfl,if_pos hc,qbtn] at B5
    have q0:(UInt8.ofNat (n / 256)).toNat=n / 256:=by rw[UInt8.toNat_ofNat'];omega
    have q1:(UInt8.ofNat n).toNat=n%256:=by rw[UInt8.toNat_ofNat']
    have q2:(UInt8.ofNat c.toNat).toNat=c.toNat:=by rw[UInt8.toNat_ofNat'];omega
    have hz:(bs ([UInt8.ofNat (n / 256),UInt8.ofNat n]++[UInt8.ofNat c.toNat])).size=3:=rfl
    have z0:∀h,((bs ([UInt8.ofNat (n / 256),UInt8.ofNat n]++[UInt8.ofNat c.toNat]))[0]'h).toNat=n / 256:=fun _=>q0
    have z1:∀h,((bs ([UInt8.ofNat (n / 256),UInt8.ofNat n]++[UInt8.ofNat c.toNat]))[1]'h).toNat=n%256:=fun _=>q1
    have z2:∀h,((bs ([UInt8.ofNat (n / 256),UInt8.ofNat n]++[UInt8.ofNat c.toNat]))[2]'h).toNat=c.toNat:=fun _=>q2
    generalize bs ([UInt8.ofNat (n / 256),UInt8.ofNat n]++[UInt8.ofNat c.toNat])=Z at *
    obtain⟨x,hx⟩:∃x,n / 256=x:=⟨_,rfl⟩
    obtain⟨y,hy⟩:∃y,n%256=y:=⟨_,rfl⟩
    have hxy:(x:Int)*256+(y:Int)=(n:Int):=by omega
    rw[hx] at z0
    rw[hy] at z1
    obtain⟨d,hd⟩:∃d:Nat,c=d:=⟨c.toNat,by omega⟩
    have x0:(x:Int) < 256:=by omega
    have y0:(y:Int) < 256:=by omega
    subst hd
    have d0:(d:Int) < 256:=by omega
    rw[Int.toNat_natCast] at z2
    have HX:=Lib.hid hxy
    replace B5:=Lib.hid B5
    replace B4:=Lib.hid B4
    replace MY:=Lib.hid MY
    clear hm mz hn1 h0 hn hc q0 q1 q2 hx hy c0 c1 hxy
    go_enter Try.func3,Try.ntmps3
    go_wp2_with fail
    refine(q6if _).mono ?_
    rintro e W ⟨rfl,hb⟩
    have L1:=Lib.hid hb
    clear hb
    go_wp2_with fail
    refine(PI.out _).mono ?_
    rintro e W' ⟨rfl,rfl⟩
    have L2:=Lib.hid (qxh2 L1.out (LB.out W))
    have G2:=Lib.hid (setRow_heap _ _ _ D _ _ (heap_alloc_new W (.cells pkZ 31)))
    go_wp2_with (first
     | (refine wpList_buildTo rfl 31 _ rfl (some _) rfl D (by rw[←HD.out];kernel_rfl) ?_)
     | (refine wpList_store_row rfl _ _ _ rfl W.heap.size D rfl rfl 31 _ (heap_alloc_new W _) (by rw[HD1.out];exact q5nr) (by rw[HZ.out,HD1.out]) HD2.out ?_)
     | (refine wpList_load_row rfl _ _ rfl W.heap.size rfl 31 D (0,0) _ G2.out Try.underlying31 rfl (by rw[HD1.out];exact q5nr) ?_))
    refine(B5.out _).mono ?_
    rintro e W3 ⟨rfl,hb⟩
    have L3:=Lib.hid (qxh2 L2.out hb)
    have G3:=Lib.hid ((hb.block _ (lt_of_block G2.out)).trans G2.out)
    clear hb
    go_wp2_with (refine wpList_load_row rfl _ _ rfl W.heap.size rfl 31 D (0,0) _ G3.out Try.underlying31 rfl (by rw[HD1.out];exact q5nr) ?_)
    refine(B4.out _).mono ?_
    rintro e W4 ⟨rfl,hb⟩
    have L4:=Lib.hid (qxh2 L3.out hb)
    have G4:=Lib.hid ((hb.block _ (lt_of_block G3.out)).trans G3.out)
    have k0:W4.cell? ⟨W.heap.size,0,none⟩=some (.int .i64 (4+r)):=(cell_of_row _ _ 0 _ _ _ G4.out).trans (by rw[←HD.out];rfl)
    clear hb L1 L2 L3 G2 G3
    go_wp2_with fail
    refine(MY.out _).mono ?_
    rintro e W5 ⟨rfl,hb⟩
    have L5:=Lib.hid (qxh2 L4.out hb)
    clear hb k0
    go_upto_region 10 with fail
    have hxy:=HX.out
    go_quiet (fail)
    go_wp2_with fail
    go_ret
    exact⟨rfl,qnpu L5.out _⟩
end Go.Proofs.Ythhdhagenmcbeaa
