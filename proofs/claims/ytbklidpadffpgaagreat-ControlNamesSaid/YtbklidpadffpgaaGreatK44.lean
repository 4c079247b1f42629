/- The contracts of control.Valid, Tail and Body. Condition: the packet's fields are what their types hold; at most 70,000 properties, within their capacity. -/
import Derived.Deep.DeepCutAuto
import Derived.Great.BuildSlice
import Derived.Deep.QuietTactic
import Derived.WalkSmall
import Derived.Maps.AppendAt
import Derived.Deep.AppendLies
import Derived.Test.YtbklidpadffpgaaGreatK33
import Derived.Test.YtbklidpadffpgaaGreatK21
import Derived.Test.YtbklidpadffpgaaGreatK39
import Derived.Test.YtbklidpadffpgaaGreatK43
import Derived.Test.YtbklidpadffpgaaGreatK32
import Derived.Test.YtbklidpadffpgaaGreatK15
import Derived.Test.YtbklidpadffpgaaGreatK17
set_option maxRecDepth 100000
set_option maxHeartbeats 2000000
namespace Go.Proofs.YtbklidpadffpgaaGreat
open Go.RowKit
theorem qlag(v:Int)(p:Pk):q1ra v p=
 if (qyjk v p.kind).2≠0 then(qyjk v p.kind).2
 else if (decide (p=qtij (qyjk v p.kind).1 p)&&(!(qyjk v p.kind).1 || mayR p.kind p.code))=false then 2
 else qpyu p.kind p.props:=by
 unfold q1ra qyjk
 by_cases h1:(qulp v&&q5t0 p.kind)=false
 ·rw[if_pos h1,if_pos h1];rfl
 rw[if_neg h1,if_neg h1]
 by_cases h2:p.kind=15∧v=4
 ·rw[if_pos h2,if_pos h2];rfl
 rw[if_neg h2,if_neg h2]
 simp only[ne_eq,not_true_eq_false,if_false]
 rw[qt8s,Bool.not_not]
 by_cases h3:(decide (p=qtij (!q6gd v p.kind) p)&&(q6gd v p.kind || mayR p.kind p.code))=false
 ·rw[if_pos h3,if_pos h3]
 rw[if_neg h3,if_neg h3]
 unfold qfk9
 by_cases h5:v=5
 ·rw[if_pos h5]
 rw[if_neg h5]
 rw[Bool.not_eq_false,Bool.and_eq_true] at h1 h3
 simp only[qulp,q5t0,Bool.or_eq_true,Bool.and_eq_true,beq_iff_eq,decide_eq_true_eq] at h1
 have hp:q6gd v p.kind=true:=by
  cases hp:q6gd v p.kind with
  | true=>rfl
  | false=>exact absurd (qm9l h1.2 h1.1 h2 hp) h5
 have hu:=of_decide_eq_true h3.1
 rw[hp] at hu
 have:p.props=[]:=by rw[hu];rfl
 rw[this];rfl
theorem qcuz(v:Int)(p:Pk)(a:Ad)(w:World)(hp:PkAt w p a)(sp:q21o p)(ok:PkOk p)(hc:p.props.length≤a.pc):Calls Tryz.prog 11 #[.int .i64 v,.agg (pkC p a)] w fun e w'=>e = .returned (.int .i64 (q1ra v p:Nat))∧Below w.heap.size w w':=by
 have S0:=Lib.hid (BxS.made w p a)
 have C1:=Lib.hid (qwmp p a)
 have TL:=Lib.hid (fun W (h:BxS w p a W)=>(qkgb v p.kind W ok.kind.1 ok.kind.2).mono fun e W' hh=>(⟨hh.1,h.call hh.2⟩:_∧BxS w p a W'))
 have FI:=fun W (h:BxS w p a W)=>(qqfg (qyjk v p.kind).1 p a W (hp.below h.low) sp).mono fun e W' hh=>(⟨hh.1,h.call hh.2⟩:_∧BxS w p a W')
 have VA:=Lib.hid (fun W (h:BxS w p a W)=>(qirc p.kind a.ps p.props.length a.pc p.props W ok.kind.1 ok.kind.2 (hp.below h.low).ps rfl hc (fun x hx=>(ok.pps x hx).1)).mono fun e W' hh=>(⟨hh.1,h.call hh.2⟩:_∧BxS w p a W'))
 have k0:∀W,BxS w p a W→W.cell? ⟨w.heap.size,0,none⟩=some (.int .i64 p.kind):=fun W h=>h.cell 0
 have k24:∀W,BxS w p a W→W.cell? ⟨w.heap.size,24,none⟩=some (.slice a.ps p.props.length a.pc):=fun W h=>h.cell 24
 have K0:=Lib.hid k0
 have K24:=Lib.hid k24
 clear k0 k24
 rw[qlag]
 generalize qyjk v p.kind=T at *
 obtain⟨t,q⟩:=T
 simp only at FI TL ⊢
 generalize qpyu p.kind p.props=z at *
 generalize (decide (p=qtij t p)&&(!t || mayR p.kind p.code))=f at *
 have FI:=Lib.hid FI
 clear hp sp ok hc
 have k0:(w.alloc (.cells (pkC p a) 35)).cell? ⟨w.heap.size,0,none⟩=some (.int .i64 p.kind):=K0.out _ S0.out
 by_cases hq:q=0
 ·subst hq
  rw[if_neg (by simp)]
  cases f with
  | false=>
   rw[if_pos rfl]
   go_enter Tryz.func11,Tryz.ntmps11
   go_wp2_with fail
   refine(TL.out _ S0.out).mono ?_
   rintro e W ⟨rfl,hb⟩
   have S1:=Lib.hid hb
   clear hb S0 k0
   go_wp2_with (refine wpList_load_row rfl _ _ rfl w.heap.size rfl 35 _ (0,0) _ S1.out.box Tryz.underlying35 rfl (by rw[C1.out];exact q5nr) ?_)
   refine(FI.out _ S1.out).mono ?_
   rintro e W2 ⟨rfl,hb⟩
   have LO:=Lib.hid hb.low
   clear hb
   go_wp2_with fail
   go_ret
   exact⟨rfl,LO.out⟩
  | true=>
   rw[if_neg (by decide)]
   go_enter Tryz.func11,Tryz.ntmps11
   go_wp2_with fail
   refine(TL.out _ S0.out).mono ?_
   rintro e W ⟨rfl,hb⟩
   have S1:=Lib.hid hb
   clear hb S0 k0
   go_wp2_with (refine wpList_load_row rfl _ _ rfl w.heap.size rfl 35 _ (0,0) _ S1.out.box Tryz.underlying35 rfl (by rw[C1.out];exact q5nr) ?_)
   refine(FI.out _ S1.out).mono ?_
   rintro e W2 ⟨rfl,hb⟩
   have S2:=Lib.hid hb
   have k0:W2.cell? ⟨w.heap.size,0,none⟩=some (.int .i64 p.kind):=K0.out W2 S2.out
   have k24:W2.cell? ⟨w.heap.size,24,none⟩=some (.slice a.ps p.props.length a.pc):=K24.out W2 S2.out
   clear hb S1
   go_wp2_with fail
   refine(VA.out _ S2.out).mono ?_
   rintro e W3 ⟨rfl,hb⟩
   have LO:=Lib.hid hb.low
   clear hb
   go_wp2_with fail
   go_ret
   exact⟨rfl,LO.out⟩
 ·rw[if_pos hq]
  have q1:((q:Int)==0)=false:=by simp;omega
  have q2:((q:Int) != 0)=true:=by simp;omega
  clear hq FI VA
  go_enter Tryz.func11,Tryz.ntmps11
  go_wp2_with fail
  refine(TL.out _ S0.out).mono ?_
  rintro e W ⟨rfl,hb⟩
  have LO:=Lib.hid hb.low
  clear hb S0 k0
  go_wp2_with fail
  go_ret
  exact⟨rfl,LO.out⟩
theorem qncj(kind:Int)(l:List Pr):(q5aq kind l).2=qpyu kind l:=by
 unfold q5aq
 split
 ·rfl
 ·rename_i h;simp only[ne_eq,Decidable.not_not] at h;exact h.symm
def q62v(x y z:ByteArray):Prop:=x++y=z∧¬9223372036854775807 < x.size+y.size
def qrjh(n:Nat):Prop:=(n:Int) < 65536
theorem qqt1(kind:Int)(c:Nat)(hc:c < 256)(l:List Pr)(hv:qpyu kind l=0) :
 q4py c l kind=if l=[] then(if c=0 then [] else be c 1) else be c 1++(q5aq kind l).1:=by
 have ho:be c 1=[UInt8.ofNat c]:=by simp[be]
 unfold q4py
 rw[if_neg (by
  rintro(h | h | h)
  ·omega
  ·omega
  ·exact h hv),ho]
 unfold qzno
 by_cases hl:l=[]
 ·by_cases hz:c=0
  ·simp[hl,hz]
  ·simp[hl,hz]
 ·simp[hl]
theorem qvrf(code kind:Int)(A:Option Addr)(n c:Nat)(l:List Pr)(w:World)(hi:-9223372036854775808≤kind)(hj:kind≤9223372036854775807)(hl:PL w A l)(hn:l.length=n)(hc:n≤c)(ok:∀p∈l,PrOk p) :
 Calls Tryz.prog 12 #[.int .i64 code,.slice A n c,.int .i64 kind] w fun e w'=>e = .returned (.string (bs (q4py code l kind)))∧Below w.heap.size w w':=by
 have BY:=qs01 kind A n c l w hi hj hl hn hc ok
 rw[qncj] at BY
 by_cases h0:code < 0
 ·have e:q4py code l kind=[]:=if_pos (.inl h0)
  rw[e]
  have g1:decide (code < 0)=true:=decide_eq_true h0
  clear e h0 BY hl hn hc ok hi hj
  go_enter Tryz.func12,Tryz.ntmps12
  go_wp2_with fail
  go_ret
  exact⟨rfl,Below.refl _ _⟩
 by_cases h1:255 < code
 ·have e:q4py code l kind=[]:=if_pos (.inr (.inl h1))
  rw[e]
  have g1:decide (code < 0)=false:=decide_eq_false h0
  have g2:decide (255 < code)=true:=decide_eq_true h1
  clear e h0 h1 BY hl hn hc ok hi hj
  go_enter Tryz.func12,Tryz.ntmps12
  go_wp2_with fail
  go_ret
  exact⟨rfl,Below.refl _ _⟩
 obtain⟨k,rfl⟩:∃k:Nat,code=k:=⟨code.toNat,by omega⟩
 have g1:decide ((k:Int) < 0)=false:=decide_eq_false h0
 have g2:decide (255 < (k:Int))=false:=decide_eq_false h1
 have hk:k < 256:=by omega
 by_cases hv:qpyu kind l=0
 ·rw[qqt1 kind k hk l hv]
  rw[hv] at BY
  have PU:=(fun W=>qe3g k 1 W (by omega))
  rw[show((min (1:Int) 16).toNat)=1 from rfl] at PU
  have lt:=qp2i (v:=5) (kind:=kind) (l:=l) (by unfold qfk9;rw[if_pos rfl];exact hv)
  rw[qasq,if_pos rfl] at lt
  generalize (q5aq kind l).1=T at *
  have e1:bs (be k 1)++bs T=bs (be k 1++T):=qyv7 _ _
  have s1:(bs (be k 1++T)).size≤9223372036854775807:=by rw[q5zk,List.length_append,q0rl];omega
  have HK:qrjh k:=show(k:Int) < 65536 by omega
  have hnn:l=[]↔n=0:=by rw[←hn];exact List.length_eq_zero_iff.symm
  have hin:(if l=[] then(if k=0 then [] else be k 1) else be k 1++T)=if n=0 then(if k=0 then [] else be k 1) else be k 1++T:=by
   by_cases h:l=[]
   ·rw[if_pos h,if_pos (hnn.1 h)]
   ·rw[if_neg h,if_neg (fun e=>h (hnn.2 e))]
  rw[hin]
  clear hin hnn hl hn hc ok hi hj hv h0 h1 hk lt
  generalize hx1:bs (be k 1)=X1 at *
  generalize hx2:bs T=X2 at *
  generalize hx3:bs (be k 1++T)=X3 at *
  have E1:q62v X1 X2 X3:=⟨e1,by rw[←ByteArray.size_append,e1];omega⟩
  have BYH:=Lib.hid BY
  have PUH:=Lib.hid PU
  clear e1 s1 BY PU
  by_cases hn0:n=0
  ·subst hn0
   rw[if_pos rfl]
   by_cases hk0:k=0
   ·subst hk0
    rw[if_pos rfl]
    clear hx1 hx2 hx3 E1 HK g1 g2
    go_enter Tryz.func12,Tryz.ntmps12
    go_wp2_with fail
    refine(BYH.out).mono ?_
    rintro e W ⟨rfl,hb⟩
    have LO:=Lib.hid hb
    clear hb
    go_wp2_with fail
    go_ret
    exact⟨rfl,LO.out⟩
   ·rw[if_neg hk0,hx1]
    have g3:((k:Int) != 0)=true:=by simp;omega
    clear hx1 hx2 hx3 E1 hk0
    go_enter Tryz.func12,Tryz.ntmps12
    go_wp2_with fail
    refine(BYH.out).mono ?_
    rintro e W ⟨rfl,hb⟩
    have LO:=Lib.hid hb
    have hk2:(k:Int) < 65536:=HK
    clear hb
    go_wp2_with fail
    refine(PUH.out _).mono ?_
    rintro e W2 ⟨rfl,hb⟩
    have LO2:=Lib.hid (qxh2 LO.out hb)
    clear hb
    go_wp2_with fail
    go_ret
    exact⟨rfl,LO2.out⟩
  ·rw[if_neg hn0,hx3]
   have g4:0 < n:=by omega
   clear hx1 hx2 hx3 hn0
   go_enter Tryz.func12,Tryz.ntmps12
   go_wp2_with fail
   refine(BYH.out).mono ?_
   rintro e W ⟨rfl,hb⟩
   have LO:=Lib.hid hb
   have hk2:(k:Int) < 65536:=HK
   clear hb
   go_wp2_with fail
   refine(PUH.out _).mono ?_
   rintro e W2 ⟨rfl,hb⟩
   have LO2:=Lib.hid (qxh2 LO.out hb)
   have e1:=E1.1
   have t1:=E1.2
   clear hb
   go_wp2_with fail
   go_ret
   exact⟨rfl,LO2.out⟩
 ·have e:q4py k l kind=[]:=if_pos (.inr (.inr hv))
  rw[e]
  generalize qpyu kind l=R at *
  have hr1:((R:Int)==0)=false:=by simp;omega
  have hr2:((R:Int) != 0)=true:=by simp;omega
  have BYH:=Lib.hid BY
  clear e h0 h1 BY hl hn hc ok hi hj hv hk
  go_enter Tryz.func12,Tryz.ntmps12
  go_wp2_with fail
  refine(BYH.out).mono ?_
  rintro e W ⟨rfl,hb⟩
  have LO:=Lib.hid hb
  clear hb
  go_wp2_with fail
  go_ret
  exact⟨rfl,LO.out⟩
theorem qv9d(code kind:Int)(p:Pk)(a:Ad)(w:World)(hp:PkAt w p a)(_:q21o p)(ok:PkOk p)(hc:p.props.length≤a.pc)(hk:-9223372036854775808≤kind∧kind≤9223372036854775807) :
 Calls Tryz.prog 12 #[.int .i64 code,.slice a.ps p.props.length a.pc,.int .i64 kind] w fun e w'=>e = .returned (.string (bs (q4py code p.props kind)))∧Below w.heap.size w w':=
 qvrf code kind a.ps p.props.length a.pc p.props w hk.1 hk.2 hp.ps rfl hc (fun x hx=>(ok.pps x hx).1)
theorem qck4(v:Int)(p:Pk)(a:Ad)(w:World)(hp:PkAt w p a)(sp:q21o p)(ok:PkOk p)(hc:p.props.length≤a.pc) :
 Calls Tryz.prog 7 #[.int .i64 v,.agg (pkC p a)] w fun e w'=>e = .returned (.tuple #[.string (bs (q2jl v p).1),.int .i64 ((q2jl v p).2:Nat)])∧Below w.heap.size w w':=by
 have S0:=Lib.hid (BxS.made w p a)
 have C1:=Lib.hid (qwmp p a)
 have VA:=fun W (h:BxS w p a W)=>(qcuz v p a W (hp.below h.low) sp ok hc).mono fun e W' hh=>(⟨hh.1,h.call hh.2⟩:_∧BxS w p a W')
 unfold q2jl
 by_cases hv:q1ra v p=0
 ·rw[if_neg (by simpa using hv),(qxi6 hv).1]
  rw[hv] at VA
  have TL:=Lib.hid (fun W (h:BxS w p a W)=>(qv9d p.code p.kind p a W (hp.below h.low) sp ok hc ok.kind).mono fun e W' hh=>(⟨hh.1,h.call hh.2⟩:_∧BxS w p a W'))
  have k0:∀W,BxS w p a W→W.cell? ⟨w.heap.size,0,none⟩=some (.int .i64 p.kind):=fun W h=>h.cell 0
  have k21:∀W,BxS w p a W→W.cell? ⟨w.heap.size,21,none⟩=some (.int .i64 p.code):=fun W h=>h.cell 21
  have k24:∀W,BxS w p a W→W.cell? ⟨w.heap.size,24,none⟩=some (.slice a.ps p.props.length a.pc):=fun W h=>h.cell 24
  have K0:=Lib.hid k0
  have K21:=Lib.hid k21
  have K24:=Lib.hid k24
  have VAH:=Lib.hid VA
  clear k0 k21 k24 hp sp ok hc hv VA
  generalize bs (q4py p.code p.props p.kind)=X at *
  go_enter Tryz.func7,Tryz.ntmps7
  go_wp2_with (refine wpList_load_row rfl _ _ rfl w.heap.size rfl 35 _ (0,0) _ S0.out.box Tryz.underlying35 rfl (by rw[C1.out];exact q5nr) ?_)
  refine(VAH.out _ S0.out).mono ?_
  rintro e W ⟨rfl,hb⟩
  have S1:=Lib.hid hb
  have k0:W.cell? ⟨w.heap.size,0,none⟩=some (.int .i64 p.kind):=K0.out W S1.out
  have k21:W.cell? ⟨w.heap.size,21,none⟩=some (.int .i64 p.code):=K21.out W S1.out
  have k24:W.cell? ⟨w.heap.size,24,none⟩=some (.slice a.ps p.props.length a.pc):=K24.out W S1.out
  clear hb S0
  go_wp2_with fail
  refine(TL.out _ S1.out).mono ?_
  rintro e W2 ⟨rfl,hb⟩
  have LO:=Lib.hid hb.low
  clear hb
  go_wp2_with fail
  go_ret2
  exact⟨rfl,LO.out⟩
 ·rw[if_pos hv]
  generalize q1ra v p=R at *
  have hr1:((R:Int)==0)=false:=by simp;omega
  have hr2:((R:Int) != 0)=true:=by simp;omega
  have VAH:=Lib.hid VA
  clear hv hp sp ok hc VA
  go_enter Tryz.func7,Tryz.ntmps7
  go_wp2_with (refine wpList_load_row rfl _ _ rfl w.heap.size rfl 35 _ (0,0) _ S0.out.box Tryz.underlying35 rfl (by rw[C1.out];exact q5nr) ?_)
  refine(VAH.out _ S0.out).mono ?_
  rintro e W ⟨rfl,hb⟩
  have LO:=Lib.hid hb.low
  clear hb
  go_wp2_with fail
  go_ret2
  exact⟨rfl,LO.out⟩
theorem qd1l{k c:Int}(hk:0≤k∧k≤255):PkOk (numK k c):=by
 refine⟨by show _≤k∧k≤_;omega,by show _≤(0:Int)∧(0:Int)≤_;decide,fun t ht=>?_,fun x hx=>(nomatch hx),fun x hx=>(nomatch hx),fun x hx=>(nomatch hx)⟩
 have:t=[]:=by simpa [Pk.texts,Pk.zero,numK] using ht
 rw[this];decide
theorem qau5{k c:Int}(v:Int)(hk:0≤k∧k≤255)(w:World):Calls Tryz.prog 7 #[.int .i64 v,.agg (pkC (numK k c) adZ)] w fun e w'=>e = .returned (.tuple #[.string (bs (q2jl v (numK k c)).1),.int .i64 ((q2jl v (numK k c)).2:Nat)])∧Below w.heap.size w w':=
 qck4 v (numK k c) adZ w (qx9v _ w ⟨rfl,rfl,rfl,rfl⟩) ⟨Nat.zero_le _,Nat.zero_le _,Nat.zero_le _,Nat.zero_le _⟩ (qd1l hk) (Nat.zero_le _)
theorem qpnd(w:World):Calls Tryz.prog 6 #[] w fun e w'=>e = .returned (.bool true)∧Below w.heap.size w w':=by
 have B1:=fun W=>qau5 (k:=14) (c:=0) 5 (by decide) W
 have B2:=fun W=>qau5 (k:=14) (c:=4) 5 (by decide) W
 rw[qjrk] at B1
 rw[qlci] at B2
 obtain⟨D,hD⟩:∃D,pkC (numK 14 0) adZ=D:=⟨_,rfl⟩
 obtain⟨E,hE⟩:∃D,pkC (numK 14 4) adZ=D:=⟨_,rfl⟩
 rw[hD] at B1
 rw[hE] at B2
 have HD:=Lib.hid hD
 have HE:=Lib.hid hE
 replace B1:=Lib.hid B1
 replace B2:=Lib.hid B2
 have hzv:=qrai
 have hne:¬pkZ=#[]:=by intro h;have:=qbwp;rw[h] at this;cases this
 clear hD hE
 go_enter Tryz.func6,Tryz.ntmps6
 go_wp2_with (refine wpList_buildTo rfl 35 _ rfl (some _) rfl D (by rw[←HD.out];kernel_rfl) ?_)
 refine(B1.out _).mono ?_
 rintro e W ⟨rfl,hb⟩
 have L1:=Lib.hid hb
 clear hb
 go_wp2_with (refine wpList_buildTo rfl 35 _ rfl (some _) rfl E (by rw[←HE.out];kernel_rfl) ?_)
 refine(B2.out _).mono ?_
 rintro e W2 ⟨rfl,hb⟩
 have L2:=Lib.hid (qxh2 L1.out hb)
 clear hb
 have h1:((bs []).toList==[])=true:=by rw[q0c6];decide
 have h2:((bs [4]).toList==[4])=true:=by rw[q0c6];decide
 go_wp2_with fail
 go_ret
 exact⟨rfl,L2.out⟩
theorem qvch:(Tryz.prog.info? 25).map (fun i=>(i.zero,i.size,i.bytes))=some (some (.agg #[.int .i64 0,.int .u32 0,.string .empty,.string .empty]),4,48):=by kernel_rfl
theorem q58f{W W':World}{base n size:Nat}{t:TypeId}{v:Value}{xs:List Value}(h:W.ownsRow base t size v n xs)(hg:W.grownBy W' v.ownBlock)(hb:base≤W.heap.size):Below base W W':=by
 rcases h.2 with ⟨rfl,_⟩ | ⟨g,cap,cur,rfl,hbg,_⟩
 ·exact⟨hg.os,hg.tape,hg.output,hg.size,fun k hk=>hg.block k (Nat.lt_of_lt_of_le hk hb) (fun e=>by cases e)⟩
 ·exact qwrj hg hb hbg
theorem PL.cells{W:World}{g i:Nat}{l:List Pr}(h:PL W (some ⟨g,i,none⟩) l):∀j u,(pcs l)[j]? = some u→W.cell? ((⟨g,i,none⟩:Addr).add j)=some u:=fun j u hu=>by
 have hj:j < l.length*4:=by
  have:=(List.getElem?_eq_some_iff.1 hu).1
  rwa [qv9di] at this
 obtain⟨p,hp⟩:∃p,l[j / 4]? = some p:=⟨_,List.getElem?_eq_getElem (by omega)⟩
 obtain⟨g',i',e',hg,a0,a1,a2,a3⟩:=h.at hp
 cases e'
 have e1:j=j / 4*4+j%4:=by omega
 have hq:(pcs l)[j]? = (pc p)[j%4]? := by
  have:=qsrc l (j / 4) (j%4) p hp (by omega)
  rwa [←e1] at this
 rw[hu] at hq
 rw[Addr.add_lit g i j]
 have hr:j%4=0∨j%4=1∨j%4=2∨j%4=3:=by omega
 rcases hr with h | h | h | h
 ·rw[h] at hq;rw[show i+j=i+j / 4*4 by omega,a0];exact hq.symm
 ·rw[h] at hq;rw[show i+j=i+j / 4*4+1 by omega,a1];exact hq.symm
 ·rw[h] at hq;rw[show i+j=i+j / 4*4+2 by omega,a2];exact hq.symm
 ·rw[h] at hq;rw[show i+j=i+j / 4*4+3 by omega,a3];exact hq.symm
theorem qyqq{W:World}{v:Value}{base nA g i m c:Nat}{L M:List Pr}(ty:TypeId)(hown:W.ownsRow base 25 4 v nA (pcs L))(hM:PL W (some ⟨g,i,none⟩) M)(hm:M.length=m)(hn:nA+m≤3000)(hb:base≤W.heap.size) :
 ∃v' w',(Builtin.append_ #[26,26] ty #[v,.slice (some ⟨g,i,none⟩) m c]).run Tryz.prog W = .ok v' w'∧w'.ownsRow base 25 4 v' (nA+m) (pcs (L++M))∧Below base W w':=by
 obtain⟨i0,hi,hz0,hz1,hz2⟩:=info_parts qvch
 obtain⟨v',w',hr,h2,h3,_,_⟩:=run_append_own_at (P:=Tryz.prog) W base 26 ty 25 i0 (.agg #[.int .i64 0,.int .u32 0,.string .empty,.string .empty]) 4 48 Tryz.underlying26 hi hz0 hz1 hz2 rfl (by decide) v nA (pcs L) hown ⟨g,i,none⟩ m c (pcs M) (by rw[qv9di,hm]) hM.cells (qtvz M) (by simp only[maxLen];omega) (by omega) hb
 rw[←qdoo] at h2
 exact⟨v',w',hr,h2,q58f hown h3 hb⟩
theorem q2qx{P:Program}{W:World}{o:Oper}{a:Act}{K:Act→World→Prop}{Q:Exit→Act→World→Prop}(s x:Operand)(t:TypeId)
 (ho:o.op = .call {callee := .builtin .append,args:=#[s,x],argTypes:=#[t,t]}) {v sl v':Value} {w':World} (hs:a.eval s=v) (hx:a.eval x=sl)
 (hr:(Builtin.append_ #[t,t] o.type #[v,sl]).run P W = .ok v' w') (h:K (a.put o.dst v') w'):o.wp P a W K Q:=by
 unfold Oper.wp execOp
 simp only[ho,resolve,invoke,builtin,Sem.run_bind,Sem.run_pure,Result.andThen_ok,List.map_toArray,List.map_cons,List.map_nil,hs,hx,hr]
 exact h
theorem qvgk{W:World}{o:Oper}{a:Act}{K:Act→World→Prop}{Q:Exit→Act→World→Prop}(s x:Operand)
 (ho:o.op = .call {callee := .builtin .append,args:=#[s,x],argTypes:=#[26,26]})
 {v:Value} {base nA g i m c:Nat} {L M:List Pr} (hs:a.eval s=v) (hx:a.eval x = .slice (some ⟨g,i,none⟩) m c) (hown:W.ownsRow base 25 4 v nA (pcs L)) (hM:PL W (some ⟨g,i,none⟩) M) (hm:M.length=m) (hn:nA+m≤3000) (hb:base≤W.heap.size)
 (h:∀v' w',w'.ownsRow base 25 4 v' (nA+m) (pcs (L++M))→Below base W w'→K (a.put o.dst v') w'):o.wp Tryz.prog a W K Q:=by
 obtain⟨v',w',hr,h2,h3⟩:=qyqq o.type hown hM hm hn hb
 exact q2qx s x _ ho hs hx hr (h v' w' h2 h3)
end Go.Proofs.YtbklidpadffpgaaGreat
