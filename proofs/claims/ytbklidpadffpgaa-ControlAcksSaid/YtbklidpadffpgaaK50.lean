/- The chapter's example of layer 12: polyglotlaw12.lives; a packet that has only a kind and a code. No condition. -/
import Derived.Deep.DeepCutAuto
import Derived.Great.BuildSlice
import Derived.Test.YtbklidpadffpgaaK49
import Derived.Test.YtbklidpadffpgaaK18
import Derived.Test.YtbklidpadffpgaaK44
import Derived.Test.YtbklidpadffpgaaK15
import Derived.Test.YtbklidpadffpgaaK32
import Derived.Test.YtbklidpadffpgaaK48
set_option maxRecDepth 100000
set_option maxHeartbeats 2000000
namespace Go.Proofs.Ytbklidpadffpgaa
open Go.RowKit
theorem qd1l{k c:Int}(hk:0≤k∧k≤255):PkOk (numK k c):=by
 refine⟨by show _≤k∧k≤_;omega,by show _≤(0:Int)∧(0:Int)≤_;decide,fun t ht=>?_,fun x hx=>(nomatch hx),fun x hx=>(nomatch hx),fun x hx=>(nomatch hx)⟩
 have:t=[]:=by simpa [Pk.texts,Pk.zero,numK] using ht
 rw[this];decide
theorem qau5{k c:Int}(v:Int)(hk:0≤k∧k≤255)(w:World):Calls Try.prog 7 #[.int .i64 v,.agg (pkC (numK k c) adZ)] w fun e w'=>e = .returned (.tuple #[.string (bs (q2jl v (numK k c)).1),.int .i64 ((q2jl v (numK k c)).2:Nat)])∧Below w.heap.size w w':=
 qck4 v (numK k c) adZ w (qx9v _ w ⟨rfl,rfl,rfl,rfl⟩) ⟨Nat.zero_le _,Nat.zero_le _,Nat.zero_le _,Nat.zero_le _⟩ (qd1l hk) (Nat.zero_le _)
theorem qpnd(w:World):Calls Try.prog 5 #[] w fun e w'=>e = .returned (.bool true)∧Below w.heap.size w w':=by
 have B1:=fun W=>qau5 (k:=14) (c:=0) 5 (by decide) W
 have B2:=fun W=>qau5 (k:=14) (c:=4) 5 (by decide) W
 rw[qjrk] at B1
 rw[qlci] at B2
 obtain⟨D,hD⟩:∃D,pkC (numK 14 0) adZ=D:=⟨_,rfl⟩
 obtain⟨E,hE⟩:∃D,pkC (numK 14 4) adZ=D:=⟨_,rfl⟩
 rw[hD] at B1
 rw[hE] at B2
 have HD:=Lib.hid hD
 have HE:=Lib.hid hE
 replace B1:=Lib.hid B1
 replace B2:=Lib.hid B2
 have hzv:=qrai
 have hne:¬pkZ=#[]:=by intro h;have:=qbwp;rw[h] at this;cases this
 clear hD hE
 go_enter Try.func5,Try.ntmps5
 go_wp2_with (refine wpList_buildTo rfl 30 _ rfl (some _) rfl D (by rw[←HD.out];kernel_rfl) ?_)
 refine(B1.out _).mono ?_
 rintro e W ⟨rfl,hb⟩
 have L1:=Lib.hid hb
 clear hb
 go_wp2_with (refine wpList_buildTo rfl 30 _ rfl (some _) rfl E (by rw[←HE.out];kernel_rfl) ?_)
 refine(B2.out _).mono ?_
 rintro e W2 ⟨rfl,hb⟩
 have L2:=Lib.hid (qxh2 L1.out hb)
 clear hb
 have h1:((bs []).toList==[])=true:=by rw[q0c6];decide
 have h2:((bs [4]).toList==[4])=true:=by rw[q0c6];decide
 go_wp2_with fail
 go_ret
 exact⟨rfl,L2.out⟩
theorem qae8{v:Int}{p:Pk}(h:qryp v p=0):rawA v p=if necA p=0 then be p.id.toNat 2 else if necA p=1 then be p.id.toNat 2++be p.code.toNat 1 else be p.id.toNat 2++be p.code.toNat 1++(q5aq p.kind p.props).1:=by
 obtain⟨h0,hr⟩:=q858 h
 obtain⟨hv,_,_,h4,_⟩:=ok_a h0
 have ho:∀k:Nat,be k 1=[UInt8.ofNat k]:=fun k=>by simp[be]
 unfold rawA qzno necA
 by_cases hp:p.props=[]
 ·by_cases hc:p.code=0
  ·simp[hp,hc]
  ·have h5:v=5:=by
    rcases hv with e | e
    ·exact absurd (h4 e).1 hc
    ·exact e
   simp[hp,hc,h5,ho]
 ·have h5:v=5:=by
   rcases hv with e | e
   ·exact absurd (h4 e).2 hp
   ·exact e
  simp[hp,h5,ho]
def qgce(x y z:ByteArray):Prop:=x++y=z∧¬9223372036854775807 < x.size+y.size
def q51a(n:Nat):Prop:=(n:Int) < 65536
theorem q9ca(v:Int)(p:Pk)(a:Ad)(w:World)(hp:PkAt w p a)(sp:q21o p)(ok:PkOk p)(hc:p.props.length≤a.pc) :
 Calls Try.prog 10 #[.int .i64 v,.agg (pkC p a)] w fun e w'=>e = .returned (.tuple #[.string (bs (q04h v p).1),.int .i64 ((q04h v p).2:Nat)])∧Below w.heap.size w w':=by
 have S0:=Lib.hid (BxS.made w p a)
 have C1:=Lib.hid (qwmp p a)
 have VA:=fun W (h:BxS w p a W)=>(qat7 v p a W (hp.below h.low) sp ok hc).mono fun e W' hh=>(⟨hh.1,h.call hh.2⟩:_∧BxS w p a W')
 unfold q04h
 by_cases hv:qryp v p=0
 ·rw[if_neg (by simpa using hv),qae8 hv]
  rw[hv] at VA
  have NE:=Lib.hid (fun W (h:BxS w p a W)=>(q6c0 p a W).mono fun e W' hh=>(⟨hh.1,h.call hh.2⟩:_∧BxS w p a W'))
  obtain⟨ho,hr⟩:=q858 hv
  obtain⟨h45,-,-,h4,hi,hm⟩:=ok_a ho
  obtain⟨hc0,hc1⟩:=qaiv hm
  have hvp:qpyu p.kind p.props=0:=by
   rw[←hr]
   unfold qfk9
   by_cases h5:v=5
   ·rw[if_pos h5]
   ·rw[if_neg h5,(h4 (by omega)).2];rfl
  have lt:=qp2i (v:=5) (kind:=p.kind) (l:=p.props) (by unfold qfk9;rw[if_pos rfl];exact hvp)
  rw[qasq,if_pos rfl] at lt
  have BY:=fun W (h:BxS w p a W)=>(qs01 p.kind a.ps p.props.length a.pc p.props W ok.kind.1 ok.kind.2 (hp.below h.low).ps rfl hc (fun x hx=>(ok.pps x hx).1)).mono fun e W' hh=>(⟨hh.1,h.call hh.2⟩:_∧BxS w p a W')
  generalize (q5aq p.kind p.props).2=g at *
  generalize (q5aq p.kind p.props).1=T at *
  obtain⟨n,hn⟩:∃n:Nat,p.id=n:=⟨p.id.toNat,by omega⟩
  obtain⟨c,hcc⟩:∃n:Nat,p.code=n:=⟨p.code.toNat,by omega⟩
  have hn2:(n:Int) < 65536:=by omega
  have hc2:(c:Int) < 256:=by omega
  have PU:=Lib.hid (fun(k s:Nat) (hk:k < 65536) W (h:BxS w p a W)=>(qe3g k s W (by omega)).mono fun e W' hh=>(⟨hh.1,h.call hh.2⟩:_∧BxS w p a W'))
  have PI:=PU.out n 2 (by omega)
  have PC:=PU.out c 1 (by omega)
  rw[show((min ((2:Nat):Int) 16).toNat)=2 from rfl] at PI
  rw[show((min ((1:Nat):Int) 16).toNat)=1 from rfl] at PC
  have K0:=Lib.hid (fun W (h:BxS w p a W)=>(h.cell 0:W.cell? ⟨w.heap.size,0,none⟩=some (.int .i64 p.kind)))
  have K4:∀W,BxS w p a W→W.cell? ⟨w.heap.size,4,none⟩=some (.int .i64 p.id):=fun W h=>h.cell 4
  have K21:∀W,BxS w p a W→W.cell? ⟨w.heap.size,21,none⟩=some (.int .i64 p.code):=fun W h=>h.cell 21
  have K24:=Lib.hid (fun W (h:BxS w p a W)=>(h.cell 24:W.cell? ⟨w.heap.size,24,none⟩=some (.slice a.ps p.props.length a.pc)))
  rw[hn] at K4
  rw[hcc] at K21
  rw[hn,hcc,Int.toNat_natCast,Int.toNat_natCast]
  have e1:bs (be n 2)++bs (be c 1)=bs (be n 2++be c 1):=qyv7 _ _
  have e2:bs (be n 2++be c 1)++bs T=bs (be n 2++be c 1++T):=qyv7 _ _
  have s1:(bs (be n 2++be c 1)).size≤9223372036854775807:=by rw[q5zk,List.length_append,q0rl,q0rl];omega
  have s2:(bs (be n 2++be c 1++T)).size≤9223372036854775807:=by rw[q5zk,List.length_append,List.length_append,q0rl,q0rl];omega
  generalize hx1:bs (be n 2)=X1 at *
  generalize hx2:bs (be c 1)=X2 at *
  generalize hx3:bs (be n 2++be c 1)=X3 at *
  generalize hx4:bs T=X4 at *
  generalize hx5:bs (be n 2++be c 1++T)=X5 at *
  have E1:qgce X1 X2 X3:=⟨e1,by rw[←ByteArray.size_append,e1];omega⟩
  have E2:qgce X3 X4 X5:=⟨e2,by rw[←ByteArray.size_append,e2];omega⟩
  replace VA:=Lib.hid VA
  replace BY:=Lib.hid BY
  replace PI:=Lib.hid PI
  replace PC:=Lib.hid PC
  replace K4:=Lib.hid K4
  replace K21:=Lib.hid K21
  have HN:q51a n:=hn2
  have HC:q51a c:=show(c:Int) < 65536 by omega
  clear hn2 hc2
  have hk:=qxhf p
  clear hp sp ok hc hv ho hr h45 h4 hi hm hc0 hc1 hvp lt PU s1 s2 hn hcc e1 e2
  rcases hk with hk | hk | hk
  ·rw[hk] at NE ⊢
   rw[if_pos rfl,hx1]
   clear hx1 hx2 hx3 hx4 hx5
   go_enter Try.func10,Try.ntmps10
   go_wp2_with (refine wpList_load_row rfl _ _ rfl w.heap.size rfl 30 _ (0,0) _ S0.out.box Try.underlying30 rfl (by rw[C1.out];exact q5nr) ?_)
   refine(VA.out _ S0.out).mono ?_
   rintro e W ⟨rfl,hb⟩
   have S1:=Lib.hid hb
   have k4:W.cell? ⟨w.heap.size,4,none⟩=some (.int .i64 n):=K4.out W S1.out
   have hn2:(n:Int) < 65536:=HN
   clear hb S0
   go_wp2_with fail
   refine(PI.out _ S1.out).mono ?_
   rintro e W2 ⟨rfl,hb⟩
   have S2:=Lib.hid hb
   clear hb S1 k4 hn2
   go_wp2_with (refine wpList_load_row rfl _ _ rfl w.heap.size rfl 30 _ (0,0) _ S2.out.box Try.underlying30 rfl (by rw[C1.out];exact q5nr) ?_)
   refine(NE.out _ S2.out).mono ?_
   rintro e W3 ⟨rfl,hb⟩
   have LO:=Lib.hid hb.low
   clear hb
   go_wp2_with fail
   go_ret2
   exact⟨rfl,LO.out⟩
  ·rw[hk] at NE ⊢
   rw[if_neg (by decide),if_pos rfl,hx3]
   clear hx1 hx2 hx3 hx4 hx5
   go_enter Try.func10,Try.ntmps10
   go_wp2_with (refine wpList_load_row rfl _ _ rfl w.heap.size rfl 30 _ (0,0) _ S0.out.box Try.underlying30 rfl (by rw[C1.out];exact q5nr) ?_)
   refine(VA.out _ S0.out).mono ?_
   rintro e W ⟨rfl,hb⟩
   have S1:=Lib.hid hb
   have k4:W.cell? ⟨w.heap.size,4,none⟩=some (.int .i64 n):=K4.out W S1.out
   have hn2:(n:Int) < 65536:=HN
   clear hb S0
   go_wp2_with fail
   refine(PI.out _ S1.out).mono ?_
   rintro e W2 ⟨rfl,hb⟩
   have S2:=Lib.hid hb
   clear hb S1 k4 hn2
   go_wp2_with (refine wpList_load_row rfl _ _ rfl w.heap.size rfl 30 _ (0,0) _ S2.out.box Try.underlying30 rfl (by rw[C1.out];exact q5nr) ?_)
   refine(NE.out _ S2.out).mono ?_
   rintro e W3 ⟨rfl,hb⟩
   have S3:=Lib.hid hb
   have k21:W3.cell? ⟨w.heap.size,21,none⟩=some (.int .i64 c):=K21.out W3 S3.out
   have hc2:(c:Int) < 65536:=HC
   clear hb S2
   go_wp2_with fail
   refine(PC.out _ S3.out).mono ?_
   rintro e W4 ⟨rfl,hb⟩
   have e1:=E1.1
   have t1:=E1.2
   have LO:=Lib.hid hb.low
   clear hb
   go_wp2_with fail
   go_ret2
   exact⟨rfl,LO.out⟩
  ·rw[hk] at NE ⊢
   rw[if_neg (by decide),if_neg (by decide),hx5]
   clear hx1 hx2 hx3 hx4 hx5
   go_enter Try.func10,Try.ntmps10
   go_wp2_with (refine wpList_load_row rfl _ _ rfl w.heap.size rfl 30 _ (0,0) _ S0.out.box Try.underlying30 rfl (by rw[C1.out];exact q5nr) ?_)
   refine(VA.out _ S0.out).mono ?_
   rintro e W ⟨rfl,hb⟩
   have S1:=Lib.hid hb
   have k4:W.cell? ⟨w.heap.size,4,none⟩=some (.int .i64 n):=K4.out W S1.out
   have hn2:(n:Int) < 65536:=HN
   clear hb S0
   go_wp2_with fail
   refine(PI.out _ S1.out).mono ?_
   rintro e W2 ⟨rfl,hb⟩
   have S2:=Lib.hid hb
   clear hb S1 k4 hn2
   go_wp2_with (refine wpList_load_row rfl _ _ rfl w.heap.size rfl 30 _ (0,0) _ S2.out.box Try.underlying30 rfl (by rw[C1.out];exact q5nr) ?_)
   refine(NE.out _ S2.out).mono ?_
   rintro e W3 ⟨rfl,hb⟩
   have S3:=Lib.hid hb
   have k21:W3.cell? ⟨w.heap.size,21,none⟩=some (.int .i64 c):=K21.out W3 S3.out
   have hc2:(c:Int) < 65536:=HC
   clear hb S2
   go_wp2_with fail
   refine(PC.out _ S3.out).mono ?_
   rintro e W4 ⟨rfl,hb⟩
   have e1:=E1.1
   have t1:=E1.2
   have S4:=Lib.hid hb
   have k0:W4.cell? ⟨w.heap.size,0,none⟩=some (.int .i64 p.kind):=K0.out W4 S4.out
   have k24:W4.cell? ⟨w.heap.size,24,none⟩=some (.slice a.ps p.props.length a.pc):=K24.out W4 S4.out
   clear hb S3 k21 hc2
   go_wp2_with fail
   refine(BY.out _ S4.out).mono ?_
   rintro e W5 ⟨rfl,hb⟩
   clear t1
   have e2:=E2.1
   have t2:=E2.2
   have LO:=Lib.hid hb.low
   clear hb
   go_wp2_with fail
   go_ret2
   exact⟨rfl,LO.out⟩
 ·rw[if_pos hv]
  generalize qryp v p=R at *
  have hr1:((R:Int)==0)=false:=by simp;omega
  have hr2:((R:Int) != 0)=true:=by simp;omega
  replace VA:=Lib.hid VA
  clear hv hp sp ok hc
  go_enter Try.func10,Try.ntmps10
  go_wp2_with (refine wpList_load_row rfl _ _ rfl w.heap.size rfl 30 _ (0,0) _ S0.out.box Try.underlying30 rfl (by rw[C1.out];exact q5nr) ?_)
  refine(VA.out _ S0.out).mono ?_
  rintro e W ⟨rfl,hb⟩
  have LO:=Lib.hid hb.low
  clear hb
  go_wp2_with fail
  go_ret2
  exact⟨rfl,LO.out⟩
end Go.Proofs.Ytbklidpadffpgaa
