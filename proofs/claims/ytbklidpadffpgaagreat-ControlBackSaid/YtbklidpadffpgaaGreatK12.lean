/- Plain facts: what PINGREQ, PINGRESP, DISCONNECT and AUTH may hold, their bodies, what is read of them. No condition. -/
import Derived.Test.YtbklidpadffpgaaGreatK11
namespace Go.Proofs.YtbklidpadffpgaaGreat
def q5t0(k:Int):Bool:=decide (12≤k)&&decide (k≤15)
def q6gd(v k:Int):Bool:=k==12 || k==13 || (k==14&&v==4)
def usedK(v:Int)(p:Pk):Pk:={Pk.zero with kind:=p.kind,code:=if q6gd v p.kind then 0 else p.code,props:=if q6gd v p.kind then [] else p.props}
def q1ra(v:Int)(p:Pk):Nat:=
 if (qulp v&&q5t0 p.kind)=false then 2 else if p.kind=15∧v=4 then 8 else if (decide (p=usedK v p)&&(q6gd v p.kind || mayR p.kind p.code))=false then 2 else qfk9 v p.kind p.props
def q4py(code:Int)(l:List Pr)(kind:Int):List UInt8:=if code < 0∨255 < code∨qpyu kind l≠0 then [] else qzno 5 kind code l
def rawK(v:Int)(p:Pk):List UInt8:=if q6gd v p.kind then [] else q4py p.code p.props p.kind
def q2jl(v:Int)(p:Pk):List UInt8×Nat:=if q1ra v p≠0 then([],q1ra v p) else(rawK v p,0)
def q9kh(v kind:Int)(s:Cs):Pk×Cs:=
 if q6gd v kind then({Pk.zero with kind:=kind},s)
 else({Pk.zero with kind:=kind,code:=((s.rest v kind).1.1:Nat),props:=(s.rest v kind).1.2},(s.rest v kind).2)
def qf4x(v kind:Int)(l:List UInt8):Pk×Nat:=
 if (qulp v&&q5t0 kind)=false then(Pk.zero,2) else if kind=15∧v=4 then(Pk.zero,8)
 else
  let x:=q9kh v kind ⟨l,0⟩
  let s:=qveh x.2 (q1ra v x.1)
  if s.e≠0 then(Pk.zero,s.e) else(x.1,0)
theorem qi0l{v:Int}{p:Pk}(h:q1ra v p=0):(v=4∨v=5)∧(12≤p.kind∧p.kind≤15)∧¬(p.kind=15∧v=4)∧p=usedK v p∧(q6gd v p.kind=false→mayR p.kind p.code=true)∧qfk9 v p.kind p.props=0:=by
 unfold q1ra at h
 split at h
 ·cases h
 split at h
 ·cases h
 split at h
 ·cases h
 rename_i h1 h2 h3
 rw[Bool.not_eq_false,Bool.and_eq_true] at h1 h3
 simp only[qulp,q5t0,Bool.or_eq_true,Bool.and_eq_true,beq_iff_eq,decide_eq_true_eq] at h1 h3
 exact⟨h1.1,h1.2,h2,h3.1,fun e=>by have:=h3.2;rw[e] at this;simpa using this,h⟩
theorem qm9l{v k:Int}(hk:12≤k∧k≤15)(hv:v=4∨v=5)(h15:¬(k=15∧v=4))(h:q6gd v k=false):v=5:=by
 simp only[q6gd,Bool.or_eq_false_iff,Bool.and_eq_false_iff,beq_eq_false_iff_ne] at h
 omega
theorem qkt1{v:Int}{p:Pk}(h:q1ra v p=0):qf4x v p.kind (rawK v p)=(p,0):=by
 obtain⟨hv,hk,h15,hu,hm,hr⟩:=qi0l h
 have h1:(qulp v&&q5t0 p.kind)=true:=by
  rw[Bool.and_eq_true]
  exact⟨by rcases hv with rfl | rfl<;>rfl,by simp[q5t0,hk]⟩
 have hx:q9kh v p.kind ⟨rawK v p,0⟩=(p,⟨[],0⟩):=by
  unfold q9kh rawK
  cases hp:q6gd v p.kind with
  | true=>
   rw[if_pos rfl,if_pos rfl]
   refine Prod.ext ?_ rfl
   conv=>rhs;rw[hu,usedK,hp]
   rfl
  | false=>
   have h5:=qm9l hk hv h15 hp
   obtain⟨c0,c1⟩:=qaiv (hm hp)
   have hvp:qpyu p.kind p.props=0:=by rw[qfk9,if_pos h5] at hr;exact hr
   rw[if_neg (by decide),if_neg (by decide),q4py,if_neg (by omega)]
   have e:=q7a6 (v:=5) (k:=p.kind) (c:=p.code) (l:=p.props) c0 (by omega) (fun h=>absurd rfl h) (by rw[h5] at hr;exact hr)
   rw[h5,e]
   refine Prod.ext ?_ rfl
   have hc:((p.code.toNat:Nat):Int)=p.code:=by omega
   rw[hc]
   conv=>rhs;rw[hu,usedK,hp]
   rfl
 unfold qf4x
 rw[if_neg (by rw[h1];decide),if_neg h15]
 simp only[hx,h]
 simp[qveh,Cs.fail]
theorem qaiu{v k:Int}{s:Cs}(he:(s.rest v k).2.e=0)(hr:(s.rest v k).2.r=[]):s.e=0∧qzno v k ((s.rest v k).1.1:Nat) (s.rest v k).1.2=s.r:=by
 unfold Cs.rest at he hr ⊢
 by_cases hc:v≠5∨s.e≠0∨s.r=[]
 ·rw[if_pos hc] at he hr ⊢
  refine⟨he,?_⟩
  have hr:s.r=[]:=hr
  rw[hr]
  simp[qzno]
 ·rw[if_neg hc] at he hr ⊢
  simp only at he hr ⊢
  obtain⟨p,hp⟩:∃p,(if (s.num 1).2.r=[] then([],(s.num 1).2) else(s.num 1).2.props v k)=p:=⟨_,rfl⟩
  rw[hp] at he hr ⊢
  by_cases hw:p.2.e=0∧p.2.r=[]∧qzno v k ((s.num 1).1:Nat) p.1≠s.r
  ·rw[if_pos hw] at he
   exact absurd (qemw he).2 (by decide)
  ·rw[if_neg hw] at he hr
   refine⟨?_,?_⟩
   ·by_cases e:s.e=0
    ·exact e
    ·exact absurd (.inr (.inl e)) hc
   ·by_cases e:qzno v k ((s.num 1).1:Nat) p.1=s.r
    ·exact e
    ·exact absurd ⟨he,hr,e⟩ hw
theorem qpsx{v k:Int}{l:List UInt8}(h:(qf4x v k l).2=0):q1ra v (qf4x v k l).1=0∧rawK v (qf4x v k l).1=l∧(qf4x v k l).1.kind=k:=by
 unfold qf4x at h ⊢
 split at h
 ·cases h
 rename_i h1
 rw[if_neg h1]
 split at h
 ·cases h
 rename_i h15
 rw[if_neg h15]
 simp only at h ⊢
 split at h
 ·rename_i h2;exact absurd h h2
 rename_i h2
 rw[if_neg h2]
 have h2:(qveh (q9kh v k ⟨l,0⟩).2 (q1ra v (q9kh v k ⟨l,0⟩).1)).e=0:=by simpa using h2
 obtain⟨h3,h4,h5⟩:=q0lq h2
 have hkk:(q9kh v k ⟨l,0⟩).1.kind=k:=by unfold q9kh;split<;>rfl
 refine⟨h5,?_,hkk⟩
 unfold rawK
 rw[hkk]
 have hvk:=qi0l h5
 rw[hkk] at hvk
 unfold q9kh at h3 h4 h5 hvk ⊢
 cases hp:q6gd v k with
 | true=>
  rw[hp,if_pos rfl] at h4
  rw[if_pos rfl]
  exact h4.symm
 | false=>
  rw[hp,if_neg (by decide)] at h3 h4 hvk
  rw[if_neg (by decide),if_neg (by decide)]
  obtain⟨hv,hk,hn,_,hm,hr⟩:=hvk
  have hv5:=qm9l hk hv hn hp
  obtain⟨_,hs⟩:=qaiu h3 h4
  subst hv5
  have hvp:qpyu k ((Cs.mk l 0).rest 5 k).1.2=0:=hr
  obtain⟨c0,c1⟩:=qaiv (hm rfl)
  have c0:(0:Int)≤(((Cs.mk l 0).rest 5 k).1.1:Nat):=c0
  have c1:((((Cs.mk l 0).rest 5 k).1.1:Nat):Int) < 163:=c1
  show q4py (((Cs.mk l 0).rest 5 k).1.1:Nat) ((Cs.mk l 0).rest 5 k).1.2 k=l
  rw[q4py,if_neg (by omega)]
  exact hs
def numK(k c:Int):Pk:={Pk.zero with kind:=k,code:=c}
theorem qxi6{v:Int}{p:Pk}(h:q1ra v p=0):rawK v p=q4py p.code p.props p.kind∧(rawK v p=[]↔p.code=0∧p.props=[]):=by
 obtain⟨hv,hk,h15,hu,hm,hr⟩:=qi0l h
 unfold rawK
 cases hp:q6gd v p.kind with
 | true=>
  have hc:p.code=0:=by rw[hu,usedK,hp];rfl
  have hl:p.props=[]:=by rw[hu,usedK,hp];rfl
  rw[if_pos rfl,hc,hl]
  refine⟨?_,by simp⟩
  unfold q4py
  split
  ·rfl
  ·simp[qzno]
 | false=>
  have h5:=qm9l hk hv h15 hp
  obtain⟨c0,c1⟩:=qaiv (hm hp)
  have hvp:qpyu p.kind p.props=0:=by rw[qfk9,if_pos h5] at hr;exact hr
  rw[if_neg (by decide)]
  refine⟨rfl,?_⟩
  unfold q4py
  rw[if_neg (by
   rintro(h | h | h)
   ·omega
   ·omega
   ·exact h hvp)]
  unfold qzno
  by_cases hc:p.code=0<;>by_cases hl:p.props=[]<;>simp[hc,hl]
theorem qjrk:q2jl 5 (numK 14 0)=([],0):=by decide+kernel
theorem qlci:q2jl 5 (numK 14 4)=([4],0):=by decide+kernel
theorem qjfk{kind:Int}{s:List UInt8}(h:(qflw kind s).2.2≠0):qflw kind s=([],0,(qflw kind s).2.2):=by
 unfold qflw at *
 repeat' split
 all_goals first | rfl | skip
 all_goals
  rename_i h1 h2 h3 h4
  rw[if_neg h1,if_neg h2,if_neg h3,if_neg h4] at h
  exact absurd rfl h
def pkB(kind:Int)(i c:Nat)(l:List Pr):Pk:={Pk.zero with kind:=kind,id:=(i:Nat),code:=(c:Nat),props:=l}
theorem Cs.num_one{b:UInt8}{t:List UInt8}:(Cs.mk (b::t) 0).num 1=(b.toNat,⟨t,0⟩):=by
 have h:=Cs.num_app (k:=b.toNat) (c:=1) (t:=t) (by have:=b.toNat_lt;omega)
 have e:be b.toNat 1=[b]:=by simp[be]
 rw[e] at h
 exact h
theorem qhjx(x:Cs)(f:Nat):(qveh x f).e=if x.e≠0 then x.e else if x.r≠[] then 5 else f:=by
 unfold qveh Cs.fail
 by_cases he:x.e=0
 ·by_cases hr:x.r=[]
  ·simp[he,hr]
  ·simp[he,hr]
 ·simp[he]
def pkT(kind:Int)(c:Nat)(l:List Pr):Pk:=pkB kind 0 c l
def qyjk(v k:Int):Bool×Nat:=if (qulp v&&q5t0 k)=false then(false,2) else if k=15∧v=4 then(false,8) else(!q6gd v k,0)
def q6u6(kind:Int)(l:List UInt8):(Nat×List Pr)×Nat:=
 match l with
 | []=>((0,[]),0)
 | b::t=>if t=[] then((b.toNat,[]),0) else((b.toNat,(qflw kind t).1),(qflw kind t).2.2)
def endK(kind:Int)(l:List UInt8):Nat:=
 if (q6u6 kind l).2≠0 then(q6u6 kind l).2 else if (q4py (q6u6 kind l).1.1 (q6u6 kind l).1.2 kind).length < l.length then 5 else 0
theorem qe40(k c:Int)(l:List Pr)(h0:¬(c=0∧l=[])):qzno 5 k c l=UInt8.ofNat c.toNat::(if l≠[] then(q5aq k l).1 else []):=by
 unfold qzno
 refine if_pos ⟨rfl,?_⟩
 by_cases h:c=0
 ·exact .inr fun e=>h0 ⟨h,e⟩
 ·exact .inl h
theorem qsg6(kind:Int)(l:List UInt8):(q6u6 kind l).1=((Cs.mk l 0).rest 5 kind).1∧
 ∀f,(qveh ((Cs.mk l 0).rest 5 kind).2 f).e=if endK kind l≠0 then endK kind l else f:=by
 unfold endK
 cases l with
 | nil=>
  refine⟨rfl,fun f=>?_⟩
  rw[qhjx]
  simp[Cs.rest,q6u6]
 | cons b t=>
  have hb0:=b.toNat_lt
  have hb:UInt8.ofNat ((b.toNat:Nat):Int).toNat=b:=by simp
  have hr:(Cs.mk (b::t) 0).rest 5 kind=((b.toNat,(if t=[] then([],Cs.mk t 0) else(Cs.mk t 0).props 5 kind).1),if (if t=[] then([],Cs.mk t 0) else(Cs.mk t 0).props 5 kind).2.e=0∧(if t=[] then([],Cs.mk t 0) else(Cs.mk t 0).props 5 kind).2.r=[]∧qzno 5 kind b.toNat (if t=[] then([],Cs.mk t 0) else(Cs.mk t 0).props 5 kind).1≠b::t then(if t=[] then([],Cs.mk t 0) else(Cs.mk t 0).props 5 kind).2.fail 5 else(if t=[] then([],Cs.mk t 0) else(Cs.mk t 0).props 5 kind).2):=by
   unfold Cs.rest
   rw[if_neg (by simp)]
   simp only[Cs.num_one]
  rw[hr]
  unfold q6u6
  by_cases ht:t=[]
  ·subst ht
   simp only[if_true]
   refine⟨trivial,fun f=>?_⟩
   rw[qhjx]
   have e:q4py (b.toNat:Nat) [] kind=qzno 5 kind (b.toNat:Nat) []:=by
    unfold q4py
    rw[if_neg (by
     rintro(h | h | h)
     ·omega
     ·omega
     ·exact h rfl)]
   rw[e]
   by_cases hz:b.toNat=0
   ·simp[qzno,hz,Cs.fail]
   ·simp[qzno,hz]
  ·simp only[if_neg ht]
   obtain⟨L,k,F,hq⟩:∃L k F,qflw kind t=(L,k,F):=⟨_,_,_,rfl⟩
   have hp:(Cs.mk t 0).props 5 kind=(L,⟨t.drop k,F⟩):=by simp[Cs.props,hq]
   rw[hp,hq]
   refine⟨rfl,fun f=>?_⟩
   rw[qhjx]
   by_cases hF:F=0
   ·subst hF
    obtain⟨hv,hk,hbk⟩:=qugf hq
    have e:q4py (b.toNat:Nat) L kind=qzno 5 kind (b.toNat:Nat) L:=by
     unfold q4py
     rw[if_neg (by
      rintro(h | h | h)
      ·omega
      ·omega
      ·exact h hv)]
    simp only[e]
    have hn:t.length≠0:=fun e=>ht (List.length_eq_zero_iff.1 e)
    by_cases hL:L=[]
    ·subst hL
     have hsl:(qzno 5 kind ((b.toNat:Nat):Int) []).length < t.length+1:=by
      unfold qzno
      split<;>simp<;>omega
     have hne:qzno 5 kind ((b.toNat:Nat):Int) []≠b::t:=fun e=>by
      rw[e] at hsl;simp at hsl
     by_cases hd:t.drop k=[]
     ·simp[hd,hne,hsl,Cs.fail]
     ·simp[hd,hsl]
    ·have hs:qzno 5 kind ((b.toNat:Nat):Int) L=b::t.take k:=by
      rw[qe40 _ _ _ (fun h=>hL h.2),if_pos hL,hb,hbk]
     rw[hs]
     by_cases hd:t.drop k=[]
     ·have htk:t.take k=t:=List.take_of_length_le (List.drop_eq_nil_iff.1 hd)
      simp[hd,htk]
     ·have hlt:k < t.length:=by
       rcases Nat.lt_or_ge k t.length with h | h
       ·exact h
       ·exact absurd (List.drop_eq_nil_iff.2 h) hd
      have hm:min k t.length < t.length:=by omega
      simp[hd,hm]
   ·simp[hF]
theorem q0pt(v kind:Int)(l:List UInt8)(hp:q6gd v kind=false)(h5:v=5):(q9kh v kind ⟨l,0⟩).1=pkT kind (q6u6 kind l).1.1 (q6u6 kind l).1.2:=by
 subst h5
 unfold q9kh
 rw[hp,if_neg (by decide),(qsg6 kind l).1]
 rfl
theorem q54j(v kind:Int)(l:List UInt8):qf4x v kind l=
 if (qyjk v kind).2≠0 then(Pk.zero,(qyjk v kind).2)
 else if (qyjk v kind).1=false∧l≠[] then(Pk.zero,5)
 else
  let x:=pkT kind (q6u6 kind l).1.1 (q6u6 kind l).1.2
  let e:=if endK kind l≠0 then endK kind l else q1ra v x
  if e≠0 then(Pk.zero,e) else(x,0):=by
 unfold qf4x qyjk
 by_cases h1:(qulp v&&q5t0 kind)=false
 ·rw[if_pos h1,if_pos h1];rfl
 rw[if_neg h1,if_neg h1]
 by_cases h2:kind=15∧v=4
 ·rw[if_pos h2,if_pos h2];rfl
 rw[if_neg h2,if_neg h2]
 simp only[ne_eq,not_true_eq_false,if_false]
 rw[Bool.not_eq_false,Bool.and_eq_true] at h1
 simp only[qulp,q5t0,Bool.or_eq_true,Bool.and_eq_true,beq_iff_eq,decide_eq_true_eq] at h1
 cases hp:q6gd v kind with
 | false=>
  have h5:=qm9l h1.2 h1.1 h2 hp
  have e:=qsg6 kind l
  have e2:(q9kh v kind ⟨l,0⟩).2=((Cs.mk l 0).rest 5 kind).2:=by
   unfold q9kh
   rw[hp,if_neg (by decide),h5]
  rw[q0pt v kind l hp h5,e2]
  simp only[e.2]
  simp
 | true=>
  have e1:q9kh v kind ⟨l,0⟩=({Pk.zero with kind:=kind},⟨l,0⟩):=by
   unfold q9kh
   rw[hp,if_pos rfl]
  rw[e1]
  simp only[qhjx]
  cases l with
  | nil=>
   have:pkT kind (q6u6 kind []).1.1 (q6u6 kind []).1.2={Pk.zero with kind:=kind}:=rfl
   have e0:endK kind []=0:=by
    have:=(qsg6 kind []).2 0
    rw[qhjx] at this
    by_cases h:endK kind []=0
    ·exact h
    ·rw[if_pos h] at this
     simp[Cs.rest] at this
     exact this
   simp[this,e0]
  | cons b t=>simp
end Go.Proofs.YtbklidpadffpgaaGreat
