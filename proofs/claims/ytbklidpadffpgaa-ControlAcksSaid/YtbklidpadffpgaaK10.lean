/- Plain facts: what CONNECT and CONNACK may hold, their bodies, what is read of them. No condition. -/
import Derived.Test.YtbklidpadffpgaaK06
import Derived.Test.YtbklidpadffpgaaK09
import Derived.Test.YtbklidpadffpgaaK08
namespace Go.Proofs.Ytbklidpadffpgaa
def versC(v:Int):Bool:=v==4 || v==5
def qfk9(v kind:Int)(l:List Pr):Nat:=if v=5 then qpyu kind l else 0
def qasq(v kind:Int)(l:List Pr):List UInt8:=if v=5 then(q5aq kind l).1 else []
def q1f4:List UInt8:=[77,81,84,84]
structure Cs where
 r:List UInt8
 e:Nat
def Cs.fail(s:Cs)(e:Nat):Cs:=if s.e≠0 then s else⟨s.r,e⟩
def Cs.take(s:Cs)(n:Nat):List UInt8×Cs:=if s.e≠0 then([],s) else if s.r.length < n then([],⟨s.r,3⟩) else(s.r.take n,⟨s.r.drop n,0⟩)
def Cs.num(s:Cs)(n:Nat):Nat×Cs:=(Go.Proofs.Ytbklidpadffpgaa.num (s.take n).1,(s.take n).2)
def Cs.text(s:Cs):List UInt8×Cs:=if s.e≠0 then([],s) else((rdT s.r).1,⟨s.r.drop (rdT s.r).2.1,(rdT s.r).2.2⟩)
def Cs.props(s:Cs)(v kind:Int):List Pr×Cs:=if s.e≠0∨v≠5 then([],s) else((qflw kind s.r).1,⟨s.r.drop (qflw kind s.r).2.1,(qflw kind s.r).2.2⟩)
def Cs.name(s:Cs):Cs:=if (s.take 6).2.e=0∧(s.take 6).1≠enc2 q1f4 then(s.take 6).2.fail 5 else(s.take 6).2
def qzno(v kind code:Int)(l:List Pr):List UInt8:=
 if v=5∧(code≠0∨l≠[]) then UInt8.ofNat code.toNat::(if l≠[] then(q5aq kind l).1 else []) else []
def qiby(p:Pk):Pk:={Pk.zero with kind:=p.kind,id:=p.id,code:=p.code,props:=p.props}
def qvya(k:Int):Bool:=decide (4≤k)&&decide (k≤7)
def okA(v:Int)(p:Pk):Bool:=
 versC v&&qvya p.kind&&decide (p=qiby p)&&!(v==4&&!(p.code==0&&p.props.isEmpty))&&(decide (1≤p.id)&&decide (p.id≤65535))&&mayR p.kind p.code
def qryp(v:Int)(p:Pk):Nat:=if okA v p=false then 2 else qfk9 v p.kind p.props
def rawA(v:Int)(p:Pk):List UInt8:=be p.id.toNat 2++qzno v p.kind p.code p.props
def q04h(v:Int)(p:Pk):List UInt8×Nat:=if qryp v p≠0 then([],qryp v p) else(rawA v p,0)
def Cs.rest(s:Cs)(v kind:Int):(Nat×List Pr)×Cs:=
 if v≠5∨s.e≠0∨s.r=[] then((0,[]),s)
 else
  let c:=s.num 1
  let p:=if c.2.r=[] then([],c.2) else c.2.props v kind
  ((c.1,p.1),if p.2.e=0∧p.2.r=[]∧qzno v kind c.1 p.1≠s.r then p.2.fail 5 else p.2)
theorem qaiv{k c:Int}(h:mayR k c=true):0≤c∧c < 163:=by
 simp only[mayR,Bool.and_eq_true,decide_eq_true_eq] at h
 have:=q5yb (grp k) (qljz k) c.toNat (by simpa using h.2)
 omega
theorem ok_a{v:Int}{p:Pk}(h:okA v p=true):(v=4∨v=5)∧(4≤p.kind∧p.kind≤7)∧p=qiby p∧(v=4→p.code=0∧p.props=[])∧(1≤p.id∧p.id≤65535)∧mayR p.kind p.code=true:=by
 unfold okA at h
 simp only[Bool.and_eq_true,Bool.or_eq_true,beq_iff_eq,decide_eq_true_eq,versC,qvya] at h
 obtain⟨⟨⟨⟨⟨hv,hk⟩,hu⟩,h4⟩,hi⟩,hm⟩:=h
 refine⟨hv,hk,hu,fun e=>?_,hi,hm⟩
 subst e
 simpa using h4
theorem q858{v:Int}{p:Pk}(h:qryp v p=0):okA v p=true∧qfk9 v p.kind p.props=0:=by
 rw[qryp] at h
 split at h
 ·cases h
 ·rename_i h1;exact⟨by simpa using h1,h⟩
def q5t0(k:Int):Bool:=decide (12≤k)&&decide (k≤15)
def q6gd(v k:Int):Bool:=k==12 || k==13 || (k==14&&v==4)
def usedK(v:Int)(p:Pk):Pk:={Pk.zero with kind:=p.kind,code:=if q6gd v p.kind then 0 else p.code,props:=if q6gd v p.kind then [] else p.props}
def q1ra(v:Int)(p:Pk):Nat:=
 if (versC v&&q5t0 p.kind)=false then 2 else if p.kind=15∧v=4 then 8 else if (decide (p=usedK v p)&&(q6gd v p.kind || mayR p.kind p.code))=false then 2 else qfk9 v p.kind p.props
def q4py(code:Int)(l:List Pr)(kind:Int):List UInt8:=if code < 0∨255 < code∨qpyu kind l≠0 then [] else qzno 5 kind code l
def rawK(v:Int)(p:Pk):List UInt8:=if q6gd v p.kind then [] else q4py p.code p.props p.kind
def q2jl(v:Int)(p:Pk):List UInt8×Nat:=if q1ra v p≠0 then([],q1ra v p) else(rawK v p,0)
theorem qi0l{v:Int}{p:Pk}(h:q1ra v p=0):(v=4∨v=5)∧(12≤p.kind∧p.kind≤15)∧¬(p.kind=15∧v=4)∧p=usedK v p∧(q6gd v p.kind=false→mayR p.kind p.code=true)∧qfk9 v p.kind p.props=0:=by
 unfold q1ra at h
 split at h
 ·cases h
 split at h
 ·cases h
 split at h
 ·cases h
 rename_i h1 h2 h3
 rw[Bool.not_eq_false,Bool.and_eq_true] at h1 h3
 simp only[versC,q5t0,Bool.or_eq_true,Bool.and_eq_true,beq_iff_eq,decide_eq_true_eq] at h1 h3
 exact⟨h1.1,h1.2,h2,h3.1,fun e=>by have:=h3.2;rw[e] at this;simpa using this,h⟩
theorem qm9l{v k:Int}(hk:12≤k∧k≤15)(hv:v=4∨v=5)(h15:¬(k=15∧v=4))(h:q6gd v k=false):v=5:=by
 simp only[q6gd,Bool.or_eq_false_iff,Bool.and_eq_false_iff,beq_eq_false_iff_ne] at h
 omega
def numK(k c:Int):Pk:={Pk.zero with kind:=k,code:=c}
theorem qxi6{v:Int}{p:Pk}(h:q1ra v p=0):rawK v p=q4py p.code p.props p.kind∧(rawK v p=[]↔p.code=0∧p.props=[]):=by
 obtain⟨hv,hk,h15,hu,hm,hr⟩:=qi0l h
 unfold rawK
 cases hp:q6gd v p.kind with
 | true=>
  have hc:p.code=0:=by rw[hu,usedK,hp];rfl
  have hl:p.props=[]:=by rw[hu,usedK,hp];rfl
  rw[if_pos rfl,hc,hl]
  refine⟨?_,by simp⟩
  unfold q4py
  split
  ·rfl
  ·simp[qzno]
 | false=>
  have h5:=qm9l hk hv h15 hp
  obtain⟨c0,c1⟩:=qaiv (hm hp)
  have hvp:qpyu p.kind p.props=0:=by rw[qfk9,if_pos h5] at hr;exact hr
  rw[if_neg (by decide)]
  refine⟨rfl,?_⟩
  unfold q4py
  rw[if_neg (by
   rintro(h | h | h)
   ·omega
   ·omega
   ·exact h hvp)]
  unfold qzno
  by_cases hc:p.code=0<;>by_cases hl:p.props=[]<;>simp[hc,hl]
theorem qd90{p:Pk}(h:qryp 5 p=0):(rawA 5 p).drop 2=q4py p.code p.props p.kind∧2≤(rawA 5 p).length:=by
 unfold qryp at h
 split at h
 ·cases h
 rename_i ho
 rw[Bool.not_eq_false] at ho
 obtain⟨_,_,_,_,_,hm⟩:=ok_a ho
 obtain⟨c0,c1⟩:=qaiv hm
 have hvp:qpyu p.kind p.props=0:=by rw[qfk9,if_pos rfl] at h;exact h
 unfold rawA
 refine⟨?_,by rw[List.length_append,q0rl];omega⟩
 rw[List.drop_left' (q0rl _ _),q4py,if_neg (by
  rintro(h | h | h)
  ·omega
  ·omega
  ·exact h hvp)]
theorem qjrk:q2jl 5 (numK 14 0)=([],0):=by decide+kernel
theorem qlci:q2jl 5 (numK 14 4)=([4],0):=by decide+kernel
def necA(p:Pk):Nat:=if p.props≠[] then 2 else if p.code≠0 then 1 else 0
theorem qxhf(p:Pk):necA p=0∨necA p=1∨necA p=2:=by
 unfold necA
 by_cases h:p.props=[]
 ·by_cases h1:p.code=0<;>simp[h,h1]
 ·simp[h]
def qyjk(v k:Int):Bool×Nat:=if (versC v&&q5t0 k)=false then(false,2) else if k=15∧v=4 then(false,8) else(!q6gd v k,0)
end Go.Proofs.Ytbklidpadffpgaa
