/- The contracts of the reference's Size and Read (layer 2). No condition but the length of a string. -/
import Derived.Deep.LoopGhost
import Derived.Test.YtbklidpadffpgaaGreatK19
import Derived.Test.YtbklidpadffpgaaGreatK08
set_option maxHeartbeats 2000000
set_option maxRecDepth 100000
namespace Go.Proofs.YtbklidpadffpgaaGreat
open Go.RowKit
theorem qvd7(n:Int)(w:World) :
 Calls Tryz.prog 159 #[.int .i64 n] w fun e w'=>e = .returned (.int .i64 (sz n))∧w=w':=by
 by_cases h1:n < 0
 ·rw[qbck.2 (.inl h1)]
  have hd:decide (n < 0)=true:=by simpa using h1
  go_enter Tryz.func159,Tryz.ntmps159
  go_wp2
  go_ret
  exact⟨rfl,rfl⟩
 have hd:decide (n < 0)=false:=by simpa using h1
 by_cases h2:268435455 < n
 ·rw[qbck.2 (.inr h2)]
  have hd2:decide (268435455 < n)=true:=by simpa using h2
  go_enter Tryz.func159,Tryz.ntmps159
  go_wp2
  go_ret
  exact⟨rfl,rfl⟩
 have hd2:decide (268435455 < n)=false:=by simpa using h2
 have h0:¬(n < 0∨268435455 < n):=by omega
 by_cases h3:n < 128
 ·have e:sz n=1:=by unfold sz;rw[if_neg h0,if_pos h3]
  rw[e];clear e h0 h1 h2
  have hd3:decide (n < 128)=true:=by simpa using h3
  go_enter Tryz.func159,Tryz.ntmps159
  go_wp2
  go_ret
  exact⟨rfl,rfl⟩
 have hd3:decide (n < 128)=false:=by simpa using h3
 by_cases h4:n < 16384
 ·have e:sz n=2:=by unfold sz;rw[if_neg h0,if_neg h3,if_pos h4]
  rw[e];clear e h0 h1 h2
  have hd4:decide (n < 16384)=true:=by simpa using h4
  go_enter Tryz.func159,Tryz.ntmps159
  go_wp2
  go_ret
  exact⟨rfl,rfl⟩
 have hd4:decide (n < 16384)=false:=by simpa using h4
 by_cases h5:n < 2097152
 ·have e:sz n=3:=by unfold sz;rw[if_neg h0,if_neg h3,if_neg h4,if_pos h5]
  rw[e];clear e h0 h1 h2
  have hd5:decide (n < 2097152)=true:=by simpa using h5
  go_enter Tryz.func159,Tryz.ntmps159
  go_wp2
  go_ret
  exact⟨rfl,rfl⟩
 ·have e:sz n=4:=by unfold sz;rw[if_neg h0,if_neg h3,if_neg h4,if_neg h5]
  rw[e];clear e h0 h1 h2
  have hd5:decide (n < 2097152)=false:=by simpa using h5
  go_enter Tryz.func159,Tryz.ntmps159
  go_wp2
  go_ret
  exact⟨rfl,rfl⟩
def qwlf(l:List UInt8)(w:World)(e:Ending)(w':World):Prop:=e=q51h l∧w=w'
def qghk(l:List UInt8)(k v:Nat):Prop:=v < 128^k∧((k < 4∧run 0 0 l=run v k (l.drop k))∨(k=4∧(run 0 0 l).2.2=2))
theorem qtpo(s:ByteArray)(w:World)(hm:s.size≤9223372036854775807) :
 Calls Tryz.prog 128 #[.string s] w (qwlf s.data.toList w):=by
 go_enter Tryz.func128,Tryz.ntmps128
 go_wp2
 go_loop [5,6,7] (fun n t i=>∃k v:Nat,k≤4∧k≤s.size∧n = .int .i64 v∧t = .int .i64 ((128^k:Nat):Int)∧i = .int .i64 k∧qghk s.data.toList k v) (fun _ _ i=>4 - (intOf i).toNat)
 case atStart=>exact⟨0,0,by decide,Nat.zero_le _,rfl,rfl,rfl,by decide,.inl ⟨by decide,rfl⟩⟩
 case round=>
  obtain⟨k,v,hk,hks,rfl,rfl,rfl,hv,hrun⟩:=hrel
  by_cases h4:k=4
  ·subst h4
   have h2:(run 0 0 s.data.toList).2.2=2:=by
    rcases hrun with ⟨h,_⟩ | ⟨_,h⟩
    ·omega
    ·exact h
   have RR:=Lib.hid (qxud (l:=s.data.toList) (st:=2) (a:=0) (b:=0) (c:=5) (by rw[←h2]) rfl rfl rfl)
   clear hrun h2
   go_wp2
   go_ret3
   exact⟨RR.out,rfl⟩
  have hrun0:run 0 0 s.data.toList=run v k (s.data.toList.drop k):=by
   rcases hrun with ⟨_,h⟩ | ⟨h,_⟩
   ·exact h
   ·exact absurd h h4
  clear hrun
  by_cases hlt:k < s.size
  ·have hd:=qe0g s k hlt
   have RUN:=Lib.hid hrun0
   have D:=Lib.hid hd
   clear hrun0 hd
   have hlt256:=s[k].toNat_lt
   obtain rfl | rfl | rfl | rfl:k=0∨k=1∨k=2∨k=3:=by omega
   ·have hv1:(v:Int) < 1:=Int.ofNat_lt.2 (show v < 1 from hv)
    have HV:=Lib.hid hv
    have hne:¬s=ByteArray.empty:=fun e=>by rw[e] at hlt;exact absurd hlt (by decide)
    obtain⟨r,hr⟩:∃r,s[0].toNat=r:=⟨_,rfl⟩
    have h256:(r:Int) < 256:=by omega
    clear hv h4 hlt256
    have e0:((128^0:Nat):Int)=1:=by decide
    rw[e0];clear e0
    by_cases hb:r < 128
    ·have hx:nxt s[0] (0+1)=1:=qicf.2 ⟨by omega,.inr (by decide)⟩
     have hbd:decide ((r:Int) < 128)=true:=decide_eq_true (by omega)
     have RR:=Lib.hid (qxud (l:=s.data.toList) (v:=grow v 0 s[0]) (n:=0+1) (st:=1) (a:=(v:Int)+(r:Int)%128) (b:=1) (c:=0) (by rw[RUN.out,D.out,q408 _ (by rw[hx];decide),hx]) (by simp[grow,hr]) rfl rfl)
     clear hx hb
     go_wp2
     go_ret3
     exact⟨RR.out,rfl⟩
    ·have hbd:decide ((r:Int) < 128)=false:=decide_eq_false (by omega)
     have HB:=Lib.hid (show 128≤s[0].toNat by omega)
     have HG:=Lib.hid (show(v:Int)+(r:Int)%128=(grow v 0 s[0]:Nat) by simp[grow,hr])
     clear hb
     go_wp2
     go_round
     case rel=>exact⟨1,grow v 0 s[0],by decide,by omega,congrArg (Value.int .i64) HG.out,congrArg (Value.int .i64) (by decide),rfl,qpfr _ HV.out,.inl ⟨by decide,by rw[RUN.out,D.out,qomx _ (qv8z.2 ⟨HB.out,by decide⟩)]⟩⟩
     case measure=>simp[intOf]
   ·have hv1:(v:Int) < 128:=Int.ofNat_lt.2 (show v < 128 from hv)
    have HV:=Lib.hid hv
    have hge:decide ((s.size:Int)≤1)=false:=decide_eq_false (by omega)
    obtain⟨r,hr⟩:∃r,s[1].toNat=r:=⟨_,rfl⟩
    have h256:(r:Int) < 256:=by omega
    clear hv h4 hlt256
    have e0:((128^1:Nat):Int)=128:=by decide
    rw[e0];clear e0
    by_cases hb:r < 128
    ·by_cases hz:r=0
     ·subst hz
      have hx:nxt s[1] (1+1)=2:=qt6b.2 (.inr ⟨hr,by decide⟩)
      have RR:=Lib.hid (qxud (l:=s.data.toList) (v:=grow v 1 s[1]) (n:=1+1) (st:=2) (a:=0) (b:=0) (c:=5) (by rw[RUN.out,D.out,q408 _ (by rw[hx];decide),hx]) rfl rfl rfl)
      clear hx hb
      go_wp2
      go_ret3
      exact⟨RR.out,rfl⟩
     ·have hx:nxt s[1] (1+1)=1:=qicf.2 ⟨by omega,.inl (by omega)⟩
      have hzz:((r:Int)==0)=false:=by simp;omega
      have hbd:decide ((r:Int) < 128)=true:=decide_eq_true (by omega)
      have RR:=Lib.hid (qxud (l:=s.data.toList) (v:=grow v 1 s[1]) (n:=1+1) (st:=1) (a:=(v:Int)+(r:Int)%128*128) (b:=2) (c:=0) (by rw[RUN.out,D.out,q408 _ (by rw[hx];decide),hx]) (by simp[grow,hr]) rfl rfl)
      clear hx hb hz
      go_wp2
      go_ret3
      exact⟨RR.out,rfl⟩
    ·have hbd:decide ((r:Int) < 128)=false:=decide_eq_false (by omega)
     have HB:=Lib.hid (show 128≤s[1].toNat by omega)
     have HG:=Lib.hid (show(v:Int)+(r:Int)%128*128=(grow v 1 s[1]:Nat) by simp[grow,hr])
     clear hb
     go_wp2
     go_round
     case rel=>exact⟨2,grow v 1 s[1],by decide,by omega,congrArg (Value.int .i64) HG.out,congrArg (Value.int .i64) (by decide),rfl,qpfr _ HV.out,.inl ⟨by decide,by rw[RUN.out,D.out,qomx _ (qv8z.2 ⟨HB.out,by decide⟩)]⟩⟩
     case measure=>simp[intOf]
   ·have hv1:(v:Int) < 16384:=Int.ofNat_lt.2 (show v < 16384 from hv)
    have HV:=Lib.hid hv
    have hge:decide ((s.size:Int)≤2)=false:=decide_eq_false (by omega)
    obtain⟨r,hr⟩:∃r,s[2].toNat=r:=⟨_,rfl⟩
    have h256:(r:Int) < 256:=by omega
    clear hv h4 hlt256
    have e0:((128^2:Nat):Int)=16384:=by decide
    rw[e0];clear e0
    by_cases hb:r < 128
    ·by_cases hz:r=0
     ·subst hz
      have hx:nxt s[2] (2+1)=2:=qt6b.2 (.inr ⟨hr,by decide⟩)
      have RR:=Lib.hid (qxud (l:=s.data.toList) (v:=grow v 2 s[2]) (n:=2+1) (st:=2) (a:=0) (b:=0) (c:=5) (by rw[RUN.out,D.out,q408 _ (by rw[hx];decide),hx]) rfl rfl rfl)
      clear hx hb
      go_wp2
      go_ret3
      exact⟨RR.out,rfl⟩
     ·have hx:nxt s[2] (2+1)=1:=qicf.2 ⟨by omega,.inl (by omega)⟩
      have hzz:((r:Int)==0)=false:=by simp;omega
      have hbd:decide ((r:Int) < 128)=true:=decide_eq_true (by omega)
      have RR:=Lib.hid (qxud (l:=s.data.toList) (v:=grow v 2 s[2]) (n:=2+1) (st:=1) (a:=(v:Int)+(r:Int)%128*16384) (b:=3) (c:=0) (by rw[RUN.out,D.out,q408 _ (by rw[hx];decide),hx]) (by simp[grow,hr]) rfl rfl)
      clear hx hb hz
      go_wp2
      go_ret3
      exact⟨RR.out,rfl⟩
    ·have hbd:decide ((r:Int) < 128)=false:=decide_eq_false (by omega)
     have HB:=Lib.hid (show 128≤s[2].toNat by omega)
     have HG:=Lib.hid (show(v:Int)+(r:Int)%128*16384=(grow v 2 s[2]:Nat) by simp[grow,hr])
     clear hb
     go_wp2
     go_round
     case rel=>exact⟨3,grow v 2 s[2],by decide,by omega,congrArg (Value.int .i64) HG.out,congrArg (Value.int .i64) (by decide),rfl,qpfr _ HV.out,.inl ⟨by decide,by rw[RUN.out,D.out,qomx _ (qv8z.2 ⟨HB.out,by decide⟩)]⟩⟩
     case measure=>simp[intOf]
   ·have hv1:(v:Int) < 2097152:=Int.ofNat_lt.2 (show v < 2097152 from hv)
    have HV:=Lib.hid hv
    have hge:decide ((s.size:Int)≤3)=false:=decide_eq_false (by omega)
    obtain⟨r,hr⟩:∃r,s[3].toNat=r:=⟨_,rfl⟩
    have h256:(r:Int) < 256:=by omega
    clear hv h4 hlt256
    have e0:((128^3:Nat):Int)=2097152:=by decide
    rw[e0];clear e0
    by_cases hb:r < 128
    ·by_cases hz:r=0
     ·subst hz
      have hx:nxt s[3] (3+1)=2:=qt6b.2 (.inr ⟨hr,by decide⟩)
      have RR:=Lib.hid (qxud (l:=s.data.toList) (v:=grow v 3 s[3]) (n:=3+1) (st:=2) (a:=0) (b:=0) (c:=5) (by rw[RUN.out,D.out,q408 _ (by rw[hx];decide),hx]) rfl rfl rfl)
      clear hx hb
      go_wp2
      go_ret3
      exact⟨RR.out,rfl⟩
     ·have hx:nxt s[3] (3+1)=1:=qicf.2 ⟨by omega,.inl (by omega)⟩
      have hzz:((r:Int)==0)=false:=by simp;omega
      have hbd:decide ((r:Int) < 128)=true:=decide_eq_true (by omega)
      have RR:=Lib.hid (qxud (l:=s.data.toList) (v:=grow v 3 s[3]) (n:=3+1) (st:=1) (a:=(v:Int)+(r:Int)%128*2097152) (b:=4) (c:=0) (by rw[RUN.out,D.out,q408 _ (by rw[hx];decide),hx]) (by simp[grow,hr]) rfl rfl)
      clear hx hb hz
      go_wp2
      go_ret3
      exact⟨RR.out,rfl⟩
    ·have hbd:decide ((r:Int) < 128)=false:=decide_eq_false (by omega)
     have HB:=Lib.hid (show 128≤s[3].toNat by omega)
     have HG:=Lib.hid (show(v:Int)+(r:Int)%128*2097152=(grow v 3 s[3]:Nat) by simp[grow,hr])
     clear hb
     go_wp2
     go_round
     case rel=>exact⟨4,grow v 3 s[3],by decide,by omega,congrArg (Value.int .i64) HG.out,congrArg (Value.int .i64) (by decide),rfl,qpfr _ HV.out,.inr ⟨rfl,by rw[RUN.out,D.out,q408 _ (by rw[qt6b.2 (.inl ⟨HB.out,rfl⟩)];decide)];exact qt6b.2 (.inl ⟨HB.out,rfl⟩)⟩⟩
     case measure=>simp[intOf]
  ·obtain rfl:k=s.size:=by omega
   have RR:=Lib.hid (qxud (l:=s.data.toList) (v:=v) (n:=s.size) (st:=0) (by rw[hrun0,qhwc];rfl) rfl rfl rfl)
   clear hrun0
   go_wp2
   go_ret3
   exact⟨RR.out,rfl⟩
def qnlp(l:List Fi):Nat:=(l.map fun f=>f.topic.length).sum
theorem q8f1(l:List Fi)(f:Fi):qnlp (l++[f])=qnlp l+f.topic.length:=by simp[qnlp]
def q3em(p:Pk):Nat:=p.topic.length+p.payload.length+p.client.length+p.user.length+p.pass.length+p.wTopic.length+p.wPayload.length
def qa3g(p:Pk):Bool:=q2y5 p.props&&q2y5 p.wProps&&decide (p.codes.length≤60)&&decide (p.filters.length≤60)&&decide (q3em p+qnlp p.filters≤140000)
theorem q2qrt{p:Pk}(h:qa3g p=true):p.codes.length≤60∧p.filters.length≤60∧p.props.length≤1010∧p.wProps.length≤1010:=by
 unfold qa3g q2y5 at h
 simp only[Bool.and_eq_true,decide_eq_true_eq] at h
 omega
theorem q1dl(p:Pk)(a:Ad)(w:World)(hp:PkAt w p a)(ok:PkOk p) :
 Calls Tryz.prog 13 #[pkV p a] w fun e w'=>e = .returned (.bool (qa3g p))∧Below w.heap.size w w':=by
 have HP:=Lib.hid hp
 have OK:=Lib.hid ok
 have hbx:Below w.heap.size w (w.alloc (.cells (pkC p a) 35)):=qybm _
 have L1:=fun m=>q3f7 a.ps _ a.pc p.props ((w.alloc (.cells (pkC p a) 35)).drewN m) (HP.out.ps.below (qnpu hbx m)) rfl (fun x hx=>(OK.out.pps x hx).2)
 have L2:=fun m=>q3f7 a.w _ a.wc p.wProps ((w.alloc (.cells (pkC p a) 35)).drewN m) (HP.out.w.below (qnpu hbx m)) rfl (fun x hx=>(OK.out.wps x hx).2)
 have HB:=Lib.hid (fun m=>qnpu hbx m)
 have HF:=Lib.hid (fun m=>HP.out.fs.below (qnpu hbx m))
 clear hbx hp ok
 unfold pkV
 have c5:(pkC p a)[5]? = some (.string (bs p.topic)):=rfl
 have c6:(pkC p a)[6]? = some (.string (bs p.payload)):=rfl
 have c9:(pkC p a)[9]? = some (.string (bs p.client)):=rfl
 have c11:(pkC p a)[11]? = some (.string (bs p.user)):=rfl
 have c13:(pkC p a)[13]? = some (.string (bs p.pass)):=rfl
 have c15:(pkC p a)[15]? = some (.string (bs p.wTopic)):=rfl
 have c16:(pkC p a)[16]? = some (.string (bs p.wPayload)):=rfl
 have c19:(pkC p a)[19]? = some (.slice a.w p.wProps.length a.wc):=rfl
 have c22:(pkC p a)[22]? = some (.slice a.cs p.codes.length a.cc):=rfl
 have c23:(pkC p a)[23]? = some (.slice a.fs p.filters.length a.fc):=rfl
 have c24:(pkC p a)[24]? = some (.slice a.ps p.props.length a.pc):=rfl
 generalize pkC p a=C at *
 have L1:=Lib.hid L1
 have L2:=Lib.hid L2
 obtain⟨R,hR⟩:∃R,qa3g p=R:=⟨_,rfl⟩
 rw[hR]
 unfold qa3g at hR
 have HR:=Lib.hid hR
 clear hR
 cases hl1:q2y5 p.props
 ·have hr:R=false:=by rw[←HR.out,hl1];rfl
  rw[hl1] at L1
  subst hr
  clear hl1
  go_enter Tryz.func13,Tryz.ntmps13
  go_wp2_with fail
  refine(L1.out 0).mono ?_
  rintro e w1 ⟨rfl,m,rfl⟩
  go_wp2_with fail
  go_ret
  exact⟨rfl,HB.out _⟩
 rw[hl1] at L1
 cases hl2:q2y5 p.wProps
 ·have hr:R=false:=by rw[←HR.out,hl1,hl2];rfl
  rw[hl2] at L2
  subst hr
  clear hl1 hl2
  go_enter Tryz.func13,Tryz.ntmps13
  go_wp2_with fail
  refine(L1.out 0).mono ?_
  rintro e w1 ⟨rfl,m,rfl⟩
  go_wp2_with fail
  refine(L2.out _).mono ?_
  rintro e w1 ⟨rfl,m',rfl⟩
  go_wp2_with fail
  go_ret
  exact⟨rfl,by have:=HB.out (m+m');exact this⟩
 rw[hl2] at L2
 by_cases h3:p.codes.length≤60
 ·by_cases h4:p.filters.length≤60
  ·have hr:decide (q3em p+qnlp p.filters≤140000)=R:=by rw[←HR.out,hl1,hl2,decide_eq_true h3,decide_eq_true h4];rfl
   have HR2:=Lib.hid hr
   have g3:¬60 < (p.codes.length:Int):=by omega
   have g4:¬60 < (p.filters.length:Int):=by omega
   have z0:=qkrc p.topic
   have y0:=OK.out.texts p.topic (by simp[Pk.texts])
   obtain⟨t0,ht0⟩:∃t:Int,((bs p.topic).size:Int)=t:=⟨_,rfl⟩
   have z1:=qkrc p.payload
   have y1:=OK.out.texts p.payload (by simp[Pk.texts])
   obtain⟨t1,ht1⟩:∃t:Int,((bs p.payload).size:Int)=t:=⟨_,rfl⟩
   have z2:=qkrc p.client
   have y2:=OK.out.texts p.client (by simp[Pk.texts])
   obtain⟨t2,ht2⟩:∃t:Int,((bs p.client).size:Int)=t:=⟨_,rfl⟩
   have z3:=qkrc p.user
   have y3:=OK.out.texts p.user (by simp[Pk.texts])
   obtain⟨t3,ht3⟩:∃t:Int,((bs p.user).size:Int)=t:=⟨_,rfl⟩
   have z4:=qkrc p.pass
   have y4:=OK.out.texts p.pass (by simp[Pk.texts])
   obtain⟨t4,ht4⟩:∃t:Int,((bs p.pass).size:Int)=t:=⟨_,rfl⟩
   have z5:=qkrc p.wTopic
   have y5:=OK.out.texts p.wTopic (by simp[Pk.texts])
   obtain⟨t5,ht5⟩:∃t:Int,((bs p.wTopic).size:Int)=t:=⟨_,rfl⟩
   have z6:=qkrc p.wPayload
   have y6:=OK.out.texts p.wPayload (by simp[Pk.texts])
   obtain⟨t6,ht6⟩:∃t:Int,((bs p.wPayload).size:Int)=t:=⟨_,rfl⟩
   obtain⟨s1,hs1⟩:∃s,t0+t1=s:=⟨_,rfl⟩
   have e0:IntKind.i64.wrap (t0+t1)=s1:=by simp only[IntKind.wrap_i64];omega
   obtain⟨s2,hs2⟩:∃s,s1+t2=s:=⟨_,rfl⟩
   have e1:IntKind.i64.wrap (s1+t2)=s2:=by simp only[IntKind.wrap_i64];omega
   obtain⟨s3,hs3⟩:∃s,s2+t3=s:=⟨_,rfl⟩
   have e2:IntKind.i64.wrap (s2+t3)=s3:=by simp only[IntKind.wrap_i64];omega
   obtain⟨s4,hs4⟩:∃s,s3+t4=s:=⟨_,rfl⟩
   have e3:IntKind.i64.wrap (s3+t4)=s4:=by simp only[IntKind.wrap_i64];omega
   obtain⟨s5,hs5⟩:∃s,s4+t5=s:=⟨_,rfl⟩
   have e4:IntKind.i64.wrap (s4+t5)=s5:=by simp only[IntKind.wrap_i64];omega
   obtain⟨s6,hs6⟩:∃s,s5+t6=s:=⟨_,rfl⟩
   have e5:IntKind.i64.wrap (s5+t6)=s6:=by simp only[IntKind.wrap_i64];omega
   have hT:s6=(q3em p:Nat):=by unfold q3em;omega
   have hTle:q3em p≤985162418458624:=by unfold q3em;omega
   clear z0 y0 z1 y1 z2 y2 z3 y3 z4 y4 z5 y5 z6 y6
   generalize bs p.topic=u0 at *
   generalize bs p.payload=u1 at *
   generalize bs p.client=u2 at *
   generalize bs p.user=u3 at *
   generalize bs p.pass=u4 at *
   generalize bs p.wTopic=u5 at *
   generalize bs p.wPayload=u6 at *
   rw[hT] at e5
   clear hs1 hs2 hs3 hs4 hs5 hs6 hT
   generalize q3em p=T0 at *
   obtain⟨n,hn⟩:∃n,p.filters.length=n:=⟨_,rfl⟩
   have HN:=Lib.hid hn
   rw[hn] at c23 g4 h4
   have q0:(n:Int)≤60:=by omega
   have HT:=Lib.hid hTle
   clear hr hn hl1 hl2 h3 h4 hTle
   go_enter Tryz.func13,Tryz.ntmps13
   go_wp2_with fail
   refine(L1.out 0).mono ?_
   rintro e w1 ⟨rfl,m,rfl⟩
   go_wp2_with fail
   refine(L2.out _).mono ?_
   rintro e w1 ⟨rfl,m',hw1⟩
   have c23':w1.cell? ⟨w.heap.size,23,none⟩=some (.slice a.fs n a.fc):=by rw[hw1];exact(World.cell?_alloc_at _ _ _ _ rfl).trans c23
   have c22':w1.cell? ⟨w.heap.size,22,none⟩=some (.slice a.cs p.codes.length a.cc):=by rw[hw1];exact(World.cell?_alloc_at _ _ _ _ rfl).trans c22
   have c5':w1.cell? ⟨w.heap.size,5,none⟩=some (.string u0):=by rw[hw1];exact(World.cell?_alloc_at _ _ _ _ rfl).trans c5
   have c6':w1.cell? ⟨w.heap.size,6,none⟩=some (.string u1):=by rw[hw1];exact(World.cell?_alloc_at _ _ _ _ rfl).trans c6
   have c9':w1.cell? ⟨w.heap.size,9,none⟩=some (.string u2):=by rw[hw1];exact(World.cell?_alloc_at _ _ _ _ rfl).trans c9
   have c11':w1.cell? ⟨w.heap.size,11,none⟩=some (.string u3):=by rw[hw1];exact(World.cell?_alloc_at _ _ _ _ rfl).trans c11
   have c13':w1.cell? ⟨w.heap.size,13,none⟩=some (.string u4):=by rw[hw1];exact(World.cell?_alloc_at _ _ _ _ rfl).trans c13
   have c15':w1.cell? ⟨w.heap.size,15,none⟩=some (.string u5):=by rw[hw1];exact(World.cell?_alloc_at _ _ _ _ rfl).trans c15
   have c16':w1.cell? ⟨w.heap.size,16,none⟩=some (.string u6):=by rw[hw1];exact(World.cell?_alloc_at _ _ _ _ rfl).trans c16
   have HB1:=Lib.hid (show Below w.heap.size w w1 by rw[hw1];exact qnpu (HB.out m) m')
   have HF1:=Lib.hid (show CL w1 a.fs (fcs p.filters) by rw[hw1];exact(HF.out m).below (qnpu (Below.refl _ _) m'))
   clear hw1 c19 c22 c23 c24 c5 c6 c9 c11 c13 c15 c16
   go_wp2_with fail
   clear c5' c6' c9' c11' c13' c15' c16' c22'
   clear e0 e1 e2 e3 e4 e5 ht0 ht1 ht2 ht3 ht4 ht5 ht6
   go_loopg [4,3] n (fun gk i s wr=>∃k t:Nat,k≤n∧gk=n - k∧i = .int .i64 (k:Int)∧s = .int .i64 (t:Int)∧t=T0+qnlp (p.filters.take k)∧t≤985162418458624+k*140737488351232∧w1=wr)
   case atStart=>exact⟨0,T0,Nat.zero_le _,rfl,rfl,rfl,rfl,by have:=HT.out;omega,rfl⟩
   case round=>
    obtain⟨k,t,hk,rfl,rfl,rfl,ht,ht2,rfl⟩:=hrel
    by_cases hlt:k < n
    ·obtain⟨f,hf⟩:∃f,p.filters[k]? = some f:=⟨_,List.getElem?_eq_getElem (by rw[HN.out];exact hlt)⟩
     obtain⟨g',i',e',_,a0,_,_,_,_⟩:=HF1.out.fi hf
     have hz:=qkrc f.topic
     have hfl:=OK.out.fis f (List.mem_of_getElem? hf)
     obtain⟨x,hx⟩:∃x:Int,((bs f.topic).size:Int)=x:=⟨_,rfl⟩
     have hwr:IntKind.i64.wrap ((t:Int)+x)=((t+f.topic.length:Nat):Int):=by simp only[IntKind.wrap_i64];omega
     have htk:T0+qnlp (p.filters.take (k+1))=t+f.topic.length:=by rw[List.take_add_one,hf,ht];simp only[Option.toList_some];rw[q8f1];omega
     have HK:=Lib.hid htk
     have hb2:t+f.topic.length≤985162418458624+(k+1)*140737488351232:=by omega
     have HB2:=Lib.hid hb2
     have HL:=Lib.hid hlt
     have g1:(k:Int) < (n:Int):=by omega
     have g1n:k < n:=hlt
     rw[e'] at c23'
     generalize bs f.topic=u at *
     clear hz hfl htk hb2 ht ht2 hf hlt hk
     obtain⟨t2,ht2⟩:∃t2,t+f.topic.length=t2:=⟨_,rfl⟩
     rw[ht2] at hwr HK HB2
     clear ht2
     go_wp2_with fail
     go_roundg (n - (k+1))
     case measure=>have:=HL.out;omega
     case rel=>exact⟨k+1,t2,by have:=HL.out;omega,rfl,by go_num,rfl,HK.out.symm,HB2.out,rfl⟩
    ·obtain rfl:k=n:=by omega
     have hfin:decide ((t:Int)≤140000)=R:=by
      rw[←HR2.out,ht,show p.filters.take k=p.filters from List.take_of_length_le (by rw[HN.out];omega),decide_eq_decide];omega
     have HFIN:=Lib.hid hfin
     clear hfin ht ht2 hk hlt
     go_wp2_with fail
     go_ret
     exact⟨congrArg (fun b=>Ending.returned (Value.bool b)) HFIN.out,HB1.out⟩
  ·have hr:R=false:=by rw[←HR.out,hl1,hl2,decide_eq_true h3,decide_eq_false h4];rfl
   have g3:¬60 < (p.codes.length:Int):=by omega
   have g4:60 < (p.filters.length:Int):=by omega
   subst hr
   clear hl1 hl2 h3 h4
   go_enter Tryz.func13,Tryz.ntmps13
   go_wp2_with fail
   refine(L1.out 0).mono ?_
   rintro e w1 ⟨rfl,m,rfl⟩
   go_wp2_with fail
   refine(L2.out _).mono ?_
   rintro e w1 ⟨rfl,m',rfl⟩
   go_wp2_with fail
   go_ret
   exact⟨rfl,by have:=HB.out (m+m');exact this⟩
 ·have hr:R=false:=by rw[←HR.out,hl1,hl2,decide_eq_false h3];rfl
  have g3:60 < (p.codes.length:Int):=by omega
  subst hr
  clear hl1 hl2 h3
  go_enter Tryz.func13,Tryz.ntmps13
  go_wp2_with fail
  refine(L1.out 0).mono ?_
  rintro e w1 ⟨rfl,m,rfl⟩
  go_wp2_with fail
  refine(L2.out _).mono ?_
  rintro e w1 ⟨rfl,m',rfl⟩
  go_wp2_with fail
  go_ret
  exact⟨rfl,by have:=HB.out (m+m');exact this⟩
end Go.Proofs.YtbklidpadffpgaaGreat
