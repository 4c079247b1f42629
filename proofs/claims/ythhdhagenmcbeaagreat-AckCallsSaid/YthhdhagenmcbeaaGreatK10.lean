/- Plain facts: what ack.Read does, part by part, is what the document says. No condition. -/
import Derived.Laws.ResultCell
import Derived.Test.YthhdhagenmcbeaaGreatK09
import Derived.Test.YthhdhagenmcbeaaGreatK08
import Derived.Test.YthhdhagenmcbeaaGreatK04
import Derived.Test.YthhdhagenmcbeaaGreatK03
namespace Go.Proofs.YthhdhagenmcbeaaGreat
def necA(p:Pk):Nat:=if p.props≠[] then 2 else if p.code≠0 then 1 else 0
theorem qxhf(p:Pk):necA p=0∨necA p=1∨necA p=2:=by
 unfold necA
 by_cases h:p.props=[]
 ·by_cases h1:p.code=0<;>simp[h,h1]
 ·simp[h]
def qolc(kind:Int)(s:Cs):(Nat×List Pr×Nat)×Cs:=
 if s.r=[] then((0,[],0),s)
 else if (s.num 1).2.r=[] then(((s.num 1).1,[],1),(s.num 1).2)
 else(((s.num 1).1,(qflw kind (s.num 1).2.r).1,2),((s.num 1).2.take (qflw kind (s.num 1).2.r).2.1).2.fail (qflw kind (s.num 1).2.r).2.2)
def midB(v kind:Int)(s:Cs):(Nat×List Pr×Nat)×Cs:=if v=5∧s.e=0 then qolc kind s else((0,[],0),s)
def pkB(kind:Int)(i c:Nat)(l:List Pr):Pk:={Pk.zero with kind:=kind,id:=(i:Nat),code:=(c:Nat),props:=l}
def qts0(v kind:Int)(s:Cs):Pk×Cs:=
 let i:=s.num 2
 let t:=midB v kind i.2
 let p:=pkB kind i.1 t.1.1 t.1.2.1
 (p,if t.2.r≠[]∨necA p < t.1.2.2 then t.2.fail 5 else t.2)
theorem Cs.num_one{b:UInt8}{t:List UInt8}:(Cs.mk (b::t) 0).num 1=(b.toNat,⟨t,0⟩):=by
 have h:=Cs.num_app (k:=b.toNat) (c:=1) (t:=t) (by have:=b.toNat_lt;omega)
 have e:be b.toNat 1=[b]:=by simp[be]
 rw[e] at h
 exact h
theorem q1h8{kind:Int}{t:List UInt8}:((Cs.mk t 0).take (qflw kind t).2.1).2.fail (qflw kind t).2.2=⟨t.drop (qflw kind t).2.1,(qflw kind t).2.2⟩:=by
 have hle:(qflw kind t).2.1≤t.length:=by
  by_cases hF:(qflw kind t).2.2=0
  ·obtain⟨L,k,F,hq⟩:∃L k F,qflw kind t=(L,k,F):=⟨_,_,_,rfl⟩
   rw[hq] at hF ⊢
   have hF:F=0:=hF
   subst hF
   exact(qugf hq).2.1
  ·rw[qjfk hF];exact Nat.zero_le _
 have h:¬t.length < (qflw kind t).2.1:=by omega
 simp[Cs.take,Cs.fail,h]
theorem qhjx(x:Cs)(f:Nat):(qveh x f).e=if x.e≠0 then x.e else if x.r≠[] then 5 else f:=by
 unfold qveh Cs.fail
 by_cases he:x.e=0
 ·by_cases hr:x.r=[]
  ·simp[he,hr]
  ·simp[he,hr]
 ·simp[he]
def endB(p:Pk)(t:(Nat×List Pr×Nat)×Cs):Cs:=if t.2.r≠[]∨necA p < t.1.2.2 then t.2.fail 5 else t.2
theorem qiq9(y:Cs)(p:Pk)(f:Nat):(if y.e≠0 then y.e else if y.r≠[] then 5 else f)=if (endB p ((0,[],0),y)).e≠0 then(endB p ((0,[],0),y)).e else f:=by
 unfold endB Cs.fail
 by_cases he:y.e=0<;>by_cases hr:y.r=[]<;>simp[he,hr]
theorem qn1g(v kind:Int)(y:Cs):(midB v kind y).1.1=(y.rest v kind).1.1∧(midB v kind y).1.2.1=(y.rest v kind).1.2∧
 ∀i f,(if (y.rest v kind).2.e≠0 then(y.rest v kind).2.e else if (y.rest v kind).2.r≠[] then 5 else f)=
  if (endB (pkB kind i (midB v kind y).1.1 (midB v kind y).1.2.1) (midB v kind y)).e≠0 then(endB (pkB kind i (midB v kind y).1.1 (midB v kind y).1.2.1) (midB v kind y)).e else f:=by
 obtain⟨r,e⟩:=y
 unfold midB Cs.rest
 by_cases h5:v=5
 ·subst h5
  by_cases he:e=0
  ·subst he
   rw[if_pos ⟨rfl,rfl⟩]
   cases r with
   | nil=>
    rw[if_pos (.inr (.inr rfl))]
    exact⟨rfl,rfl,fun i f=>qiq9 _ _ _⟩
   | cons b t=>
    rw[if_neg (by simp)]
    unfold qolc
    rw[if_neg (show ¬(Cs.mk (b::t) 0).r=[] by simp)]
    simp only[Cs.num_one]
    cases t with
    | nil=>
     rw[if_pos rfl,if_pos rfl]
     refine⟨rfl,rfl,fun i f=>?_⟩
     unfold endB necA pkB qzno Cs.fail
     by_cases hz:b.toNat=0
     ·simp[hz]
     ·simp[hz]
    | cons c t=>
     rw[if_neg (by simp),if_neg (by simp),q1h8]
     obtain⟨L,k,F,hq⟩:∃L k F,qflw kind (c::t)=(L,k,F):=⟨_,_,_,rfl⟩
     have hp:(Cs.mk (c::t) 0).props 5 kind=(L,⟨(c::t).drop k,F⟩):=by simp[Cs.props,hq]
     rw[hp,hq]
     refine⟨rfl,rfl,fun i f=>?_⟩
     by_cases hF:F=0
     ·subst hF
      by_cases hd:(c::t).drop k=[]
      ·have hbk:=qugf hq
       have htk:(q5aq kind L).1=c::t:=by
        have h3:=hbk.2.2
        rw[List.take_of_length_le (List.drop_eq_nil_iff.1 hd)] at h3
        exact h3
       have hb:UInt8.ofNat ((b.toNat:Nat):Int).toNat=b:=by simp
       simp only[hd]
       unfold endB necA pkB qzno Cs.fail
       by_cases hL:L=[]
       ·subst hL
        by_cases hz:b.toNat=0
        ·simp[hz]
        ·simp[hz]
       ·have hs:(if (5:Int)=5∧(((b.toNat:Nat):Int)≠0∨L≠[]) then UInt8.ofNat ((b.toNat:Nat):Int).toNat::(if L≠[] then(q5aq kind L).1 else []) else [])=b::c::t:=by
         rw[if_pos ⟨rfl,.inr hL⟩,if_pos hL,hb,htk]
        rw[hs]
        simp[hL]
      ·unfold endB Cs.fail
       simp[hd]
     ·unfold endB Cs.fail
      simp[hF]
  ·rw[if_neg (fun h=>he h.2),if_pos (.inr (.inl he))]
   exact⟨rfl,rfl,fun i f=>qiq9 _ _ _⟩
 ·rw[if_neg (fun h=>h5 h.1),if_pos (.inl h5)]
  exact⟨rfl,rfl,fun i f=>qiq9 _ _ _⟩
theorem qye3(v kind:Int)(s:Cs):(qts0 v kind s).1=(qngm v kind s).1:=by
 obtain⟨h1,h2,_⟩:=qn1g v kind (s.num 2).2
 show pkB kind (s.num 2).1 (midB v kind (s.num 2).2).1.1 (midB v kind (s.num 2).2).1.2.1=pkB kind (s.num 2).1 ((s.num 2).2.rest v kind).1.1 ((s.num 2).2.rest v kind).1.2
 rw[h1,h2]
theorem q2qi(v kind:Int)(s:Cs)(f:Nat):(qveh (qngm v kind s).2 f).e=if (qts0 v kind s).2.e≠0 then(qts0 v kind s).2.e else f:=by
 rw[qhjx]
 exact(qn1g v kind (s.num 2).2).2.2 (s.num 2).1 f
theorem q96o(v kind:Int)(l:List UInt8):q9uf v kind l=if (versC v&&qvya kind)=false then(Pk.zero,2) else
 let x:=qts0 v kind ⟨l,0⟩
 let e:=if x.2.e=0 then qryp v x.1 else x.2.e
 if e≠0 then(Pk.zero,e) else(x.1,0):=by
 unfold q9uf
 split
 ·rfl
 ·simp only[q2qi,qye3]
  by_cases h:(qts0 v kind ⟨l,0⟩).2.e=0<;>simp[h]
end Go.Proofs.YthhdhagenmcbeaaGreat
namespace Go.Proofs.YthhdhagenmcbeaaGreat
open Go.RowKit
structure BxS(w:World)(p:Pk)(a:Ad)(W:World):Prop where
 low:Below w.heap.size w W
 box:W.heap[w.heap.size]? = some (.cells (pkC p a) 35 (0,0))
theorem BxS.made(w:World)(p:Pk)(a:Ad):BxS w p a (w.alloc (.cells (pkC p a) 35)):=⟨qybm _,heap_alloc_new _ _⟩
theorem BxS.call{w W W':World}{p:Pk}{a:Ad}(h:BxS w p a W)(hb:Below W.heap.size W W'):BxS w p a W':=⟨qxh2 h.low hb,(hb.block _ (lt_of_block h.box)).trans h.box⟩
theorem BxS.draw{w W:World}{p:Pk}{a:Ad}(h:BxS w p a W):BxS w p a W.drew:=⟨h.low.drew,h.box⟩
theorem BxS.cell{w W:World}{p:Pk}{a:Ad}(h:BxS w p a W)(j:Nat):W.cell? ⟨w.heap.size,j,none⟩=(pkC p a)[j]? := cell_of_row _ _ j _ _ _ h.box
theorem qo4g{w W:World}{B b j:Nat}{u:Value}(h:Below B w W)(hb:B≤b):Below B w (W.setCell ⟨b,j,none⟩ u):=h.setCell (show B≤(⟨b,j,none⟩:Addr).block from hb) u
theorem qv6p{W:World}{b j:Nat}{u:Value}{C D:Array Value}{t:TypeId}(h:W.heap[b]? = some (.cells C t (0,0)))(he:C.setIfInBounds j u=D):(W.setCell ⟨b,j,none⟩ u).heap[b]? = some (.cells D t (0,0)):=by
 have:=qlvy h j u
 rw[he] at this
 exact this
theorem qacl{w W:World}{B:Nat}{r:Option Nat}(h:w.grownBy W r)(hB:w.heap.size≤B)(D:Array Value):w.grownBy (W.setRow B D) r:=
 ⟨h.os,h.tape,h.output,by have:=h.size;simpa [World.setRow] using this,fun k hk hne=>(setRow_other _ _ _ _ (by omega)).trans (h.block k hk hne)⟩
end Go.Proofs.YthhdhagenmcbeaaGreat
