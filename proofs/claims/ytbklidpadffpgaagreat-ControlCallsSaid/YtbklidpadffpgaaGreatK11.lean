/- Plain facts: what control.Read does, part by part, is what the document says. No condition. -/
import Derived.Laws.ResultCell
import Derived.Test.YtbklidpadffpgaaGreatK10
import Derived.Test.YtbklidpadffpgaaGreatK03
import Derived.Test.YtbklidpadffpgaaGreatK04
namespace Go.Proofs.YtbklidpadffpgaaGreat
def pkT(kind:Int)(c:Nat)(l:List Pr):Pk:=pkB kind 0 c l
def qyjk(v k:Int):Bool×Nat:=if (qulp v&&q5t0 k)=false then(false,2) else if k=15∧v=4 then(false,8) else(!q6gd v k,0)
def q6u6(kind:Int)(l:List UInt8):(Nat×List Pr)×Nat:=
 match l with
 | []=>((0,[]),0)
 | b::t=>if t=[] then((b.toNat,[]),0) else((b.toNat,(qflw kind t).1),(qflw kind t).2.2)
def endK(kind:Int)(l:List UInt8):Nat:=
 if (q6u6 kind l).2≠0 then(q6u6 kind l).2 else if (q4py (q6u6 kind l).1.1 (q6u6 kind l).1.2 kind).length < l.length then 5 else 0
theorem qe40(k c:Int)(l:List Pr)(h0:¬(c=0∧l=[])):qzno 5 k c l=UInt8.ofNat c.toNat::(if l≠[] then(q5aq k l).1 else []):=by
 unfold qzno
 refine if_pos ⟨rfl,?_⟩
 by_cases h:c=0
 ·exact .inr fun e=>h0 ⟨h,e⟩
 ·exact .inl h
theorem qsg6(kind:Int)(l:List UInt8):(q6u6 kind l).1=((Cs.mk l 0).rest 5 kind).1∧
 ∀f,(qveh ((Cs.mk l 0).rest 5 kind).2 f).e=if endK kind l≠0 then endK kind l else f:=by
 unfold endK
 cases l with
 | nil=>
  refine⟨rfl,fun f=>?_⟩
  rw[qhjx]
  simp[Cs.rest,q6u6]
 | cons b t=>
  have hb0:=b.toNat_lt
  have hb:UInt8.ofNat ((b.toNat:Nat):Int).toNat=b:=by simp
  have hr:(Cs.mk (b::t) 0).rest 5 kind=((b.toNat,(if t=[] then([],Cs.mk t 0) else(Cs.mk t 0).props 5 kind).1),if (if t=[] then([],Cs.mk t 0) else(Cs.mk t 0).props 5 kind).2.e=0∧(if t=[] then([],Cs.mk t 0) else(Cs.mk t 0).props 5 kind).2.r=[]∧qzno 5 kind b.toNat (if t=[] then([],Cs.mk t 0) else(Cs.mk t 0).props 5 kind).1≠b::t then(if t=[] then([],Cs.mk t 0) else(Cs.mk t 0).props 5 kind).2.fail 5 else(if t=[] then([],Cs.mk t 0) else(Cs.mk t 0).props 5 kind).2):=by
   unfold Cs.rest
   rw[if_neg (by simp)]
   simp only[Cs.num_one]
  rw[hr]
  unfold q6u6
  by_cases ht:t=[]
  ·subst ht
   simp only[if_true]
   refine⟨trivial,fun f=>?_⟩
   rw[qhjx]
   have e:q4py (b.toNat:Nat) [] kind=qzno 5 kind (b.toNat:Nat) []:=by
    unfold q4py
    rw[if_neg (by
     rintro(h | h | h)
     ·omega
     ·omega
     ·exact h rfl)]
   rw[e]
   by_cases hz:b.toNat=0
   ·simp[qzno,hz,Cs.fail]
   ·simp[qzno,hz]
  ·simp only[if_neg ht]
   obtain⟨L,k,F,hq⟩:∃L k F,qflw kind t=(L,k,F):=⟨_,_,_,rfl⟩
   have hp:(Cs.mk t 0).props 5 kind=(L,⟨t.drop k,F⟩):=by simp[Cs.props,hq]
   rw[hp,hq]
   refine⟨rfl,fun f=>?_⟩
   rw[qhjx]
   by_cases hF:F=0
   ·subst hF
    obtain⟨hv,hk,hbk⟩:=qugf hq
    have e:q4py (b.toNat:Nat) L kind=qzno 5 kind (b.toNat:Nat) L:=by
     unfold q4py
     rw[if_neg (by
      rintro(h | h | h)
      ·omega
      ·omega
      ·exact h hv)]
    simp only[e]
    have hn:t.length≠0:=fun e=>ht (List.length_eq_zero_iff.1 e)
    by_cases hL:L=[]
    ·subst hL
     have hsl:(qzno 5 kind ((b.toNat:Nat):Int) []).length < t.length+1:=by
      unfold qzno
      split<;>simp<;>omega
     have hne:qzno 5 kind ((b.toNat:Nat):Int) []≠b::t:=fun e=>by
      rw[e] at hsl;simp at hsl
     by_cases hd:t.drop k=[]
     ·simp[hd,hne,hsl,Cs.fail]
     ·simp[hd,hsl]
    ·have hs:qzno 5 kind ((b.toNat:Nat):Int) L=b::t.take k:=by
      rw[qe40 _ _ _ (fun h=>hL h.2),if_pos hL,hb,hbk]
     rw[hs]
     by_cases hd:t.drop k=[]
     ·have htk:t.take k=t:=List.take_of_length_le (List.drop_eq_nil_iff.1 hd)
      simp[hd,htk]
     ·have hlt:k < t.length:=by
       rcases Nat.lt_or_ge k t.length with h | h
       ·exact h
       ·exact absurd (List.drop_eq_nil_iff.2 h) hd
      have hm:min k t.length < t.length:=by omega
      simp[hd,hm]
   ·simp[hF]
theorem q0pt(v kind:Int)(l:List UInt8)(hp:q6gd v kind=false)(h5:v=5):(q9kh v kind ⟨l,0⟩).1=pkT kind (q6u6 kind l).1.1 (q6u6 kind l).1.2:=by
 subst h5
 unfold q9kh
 rw[hp,if_neg (by decide),(qsg6 kind l).1]
 rfl
theorem q54j(v kind:Int)(l:List UInt8):qf4x v kind l=
 if (qyjk v kind).2≠0 then(Pk.zero,(qyjk v kind).2)
 else if (qyjk v kind).1=false∧l≠[] then(Pk.zero,5)
 else
  let x:=pkT kind (q6u6 kind l).1.1 (q6u6 kind l).1.2
  let e:=if endK kind l≠0 then endK kind l else validK v x
  if e≠0 then(Pk.zero,e) else(x,0):=by
 unfold qf4x qyjk
 by_cases h1:(qulp v&&q5t0 kind)=false
 ·rw[if_pos h1,if_pos h1];rfl
 rw[if_neg h1,if_neg h1]
 by_cases h2:kind=15∧v=4
 ·rw[if_pos h2,if_pos h2];rfl
 rw[if_neg h2,if_neg h2]
 simp only[ne_eq,not_true_eq_false,if_false]
 rw[Bool.not_eq_false,Bool.and_eq_true] at h1
 simp only[qulp,q5t0,Bool.or_eq_true,Bool.and_eq_true,beq_iff_eq,decide_eq_true_eq] at h1
 cases hp:q6gd v kind with
 | false=>
  have h5:=qm9l h1.2 h1.1 h2 hp
  have e:=qsg6 kind l
  have e2:(q9kh v kind ⟨l,0⟩).2=((Cs.mk l 0).rest 5 kind).2:=by
   unfold q9kh
   rw[hp,if_neg (by decide),h5]
  rw[q0pt v kind l hp h5,e2]
  simp only[e.2]
  simp
 | true=>
  have e1:q9kh v kind ⟨l,0⟩=({Pk.zero with kind:=kind},⟨l,0⟩):=by
   unfold q9kh
   rw[hp,if_pos rfl]
  rw[e1]
  simp only[qhjx]
  cases l with
  | nil=>
   have:pkT kind (q6u6 kind []).1.1 (q6u6 kind []).1.2={Pk.zero with kind:=kind}:=rfl
   have e0:endK kind []=0:=by
    have:=(qsg6 kind []).2 0
    rw[qhjx] at this
    by_cases h:endK kind []=0
    ·exact h
    ·rw[if_pos h] at this
     simp[Cs.rest] at this
     exact this
   simp[this,e0]
  | cons b t=>simp
end Go.Proofs.YtbklidpadffpgaaGreat
namespace Go.Proofs.YtbklidpadffpgaaGreat
open Go.RowKit
theorem qo4g{w W:World}{B b j:Nat}{u:Value}(h:Below B w W)(hb:B≤b):Below B w (W.setCell ⟨b,j,none⟩ u):=h.setCell (show B≤(⟨b,j,none⟩:Addr).block from hb) u
theorem qv6p{W:World}{b j:Nat}{u:Value}{C D:Array Value}{t:TypeId}(h:W.heap[b]? = some (.cells C t (0,0)))(he:C.setIfInBounds j u=D):(W.setCell ⟨b,j,none⟩ u).heap[b]? = some (.cells D t (0,0)):=by
 have:=qlvy h j u
 rw[he] at this
 exact this
theorem qacl{w W:World}{B:Nat}{r:Option Nat}(h:w.grownBy W r)(hB:w.heap.size≤B)(D:Array Value):w.grownBy (W.setRow B D) r:=
 ⟨h.os,h.tape,h.output,by have:=h.size;simpa [World.setRow] using this,fun k hk hne=>(setRow_other _ _ _ _ (by omega)).trans (h.block k hk hne)⟩
end Go.Proofs.YtbklidpadffpgaaGreat
