/- Reason codes, as plain lists, and as bits of four words. Condition: none. No program. -/
import Derived.Below
import Derived.Test.YtbklidpadffpgaaGreatK06
import Derived.Test.YtbklidpadffpgaaGreatK12
import Derived.Test.YtbklidpadffpgaaGreatK11
namespace Go.Proofs.YtbklidpadffpgaaGreat
structure W4 where
 a:Nat
 b:Nat
 c:Nat
 d:Nat
def setc(s:W4)(n:Nat):W4:=
 if n < 64 then {s with a:=s.a ||| 2^(n%64)} else if n < 128 then {s with b:=s.b ||| 2^(n%64)} else if n < 192 then {s with c:=s.c ||| 2^(n%64)} else {s with d:=s.d ||| 2^(n%64)}
def addR(s:W4)(f:Nat):Nat→W4
 | 0=>s
 | n+1=>setc (addR s f n) (f+n)
def ofL(l:List Nat):W4:=l.foldl setc ⟨0,0,0,0⟩
def word(s:W4)(n:Nat):Nat:=if n < 64 then s.a else if n < 128 then s.b else if n < 192 then s.c else s.d
def hasW(s:W4)(n:Nat):Bool:=decide (n < 256)&&(word s n / 2^(n%64)%2==1)
structure OkW(s:W4):Prop where
 a:s.a < 18446744073709551616
 b:s.b < 18446744073709551616
 c:s.c < 18446744073709551616
 d:s.d < 18446744073709551616
theorem or_lt{x n:Nat}(hx:x < 18446744073709551616)(hn:n < 64):x ||| 2^n < 18446744073709551616:=
 Nat.or_lt_two_pow (n:=64) hx (Nat.pow_lt_pow_right (by decide) hn)
theorem OkW.setc{s:W4}(h:OkW s)(n:Nat):OkW (setc s n):=by
 have hn:n%64 < 64:=Nat.mod_lt _ (by decide)
 unfold Proofs.YtbklidpadffpgaaGreat.setc
 split
 ·exact⟨or_lt h.a hn,h.b,h.c,h.d⟩
 split
 ·exact⟨h.a,or_lt h.b hn,h.c,h.d⟩
 split
 ·exact⟨h.a,h.b,or_lt h.c hn,h.d⟩
 ·exact⟨h.a,h.b,h.c,or_lt h.d hn⟩
theorem OkW.addR{s:W4}(h:OkW s)(f:Nat):∀n,OkW (addR s f n)
 | 0=>h
 | n+1=>(OkW.addR h f n).setc _
theorem q4il:∀(l:List Nat) (s:W4),OkW s→OkW (l.foldl setc s)
 | [],_,h=>h
 | n::l,_,h=>q4il l _ (h.setc n)
theorem OkW.ofL(l:List Nat):OkW (ofL l):=q4il l _ ⟨by decide,by decide,by decide,by decide⟩
def grp(kind:Int):Nat:=
 if kind=2 then 1 else if kind=4∨kind=5 then 2 else if kind=6∨kind=7 then 3 else if kind=9 then 4 else if kind=11 then 5 else if kind=14 then 6 else if kind=15 then 7 else 0
def qedv:Nat→List Nat
 | 1=>[0,128,129,130,131,132,133,134,135,136,137,138,140,144,149,151,153,154,155,156,157,159]
 | 2=>[0,16,128,131,135,144,145,151,153]
 | 3=>[0,146]
 | 4=>[0,1,2,128,131,135,143,145,151,158,161,162]
 | 5=>[0,17,128,131,135,143,145]
 | 6=>[0,4,128,129,130,131,135,137,139,141,142,143,144,147,148,149,150,151,152,153,154,155,156,157,158,159,160,161,162]
 | 7=>[0,24,25]
 | _=>[]
def q71c:Nat→W4
 | 1=>addR (addR (ofL [0,140,144,149,151,159]) 128 11) 153 5
 | 2=>ofL [0,16,128,131,135,144,145,151,153]
 | 3=>ofL [0,146]
 | 4=>ofL [0,1,2,128,131,135,143,145,151,158,161,162]
 | 5=>ofL [0,17,128,131,135,143,145]
 | 6=>addR (addR (ofL [0,4,135,137,139,141,142,143,144]) 128 4) 147 16
 | 7=>ofL [0,24,25]
 | _=>⟨0,0,0,0⟩
theorem qljz(kind:Int):grp kind < 8:=by
 unfold grp
 repeat' (first | decide | split)
theorem qjuf:∀g,OkW (q71c g)
 | 0=>⟨by decide,by decide,by decide,by decide⟩
 | 1=>((OkW.ofL _).addR _ _).addR _ _
 | 2=>OkW.ofL _
 | 3=>OkW.ofL _
 | 4=>OkW.ofL _
 | 5=>OkW.ofL _
 | 6=>((OkW.ofL _).addR _ _).addR _ _
 | 7=>OkW.ofL _
 | n+8=>show OkW ⟨0,0,0,0⟩ from⟨by decide,by decide,by decide,by decide⟩
theorem qy5i:∀g < 8,∀n < 256,hasW (q71c g) n=(qedv g).contains n:=by decide+kernel
theorem q5yb:∀g < 8,∀n∈qedv g,n < 163:=by decide+kernel
theorem qi9u(kind:Int)(n:Nat):hasW (q71c (grp kind)) n=(qedv (grp kind)).contains n:=by
 by_cases hn:n < 256
 ·exact qy5i _ (qljz kind) n hn
 ·have h1:(qedv (grp kind)).contains n=false:=by
   rw[Bool.eq_false_iff]
   intro h
   have:=q5yb _ (qljz kind) n (List.contains_iff_mem.1 h)
   omega
  rw[h1]
  unfold hasW
  simp[hn]
def mayR(kind code:Int):Bool:=decide (0≤code)&&(qedv (grp kind)).contains code.toNat
def qulp(v:Int):Bool:=v==4 || v==5
def qfk9(v kind:Int)(l:List Pr):Nat:=if v=5 then qpyu kind l else 0
def qasq(v kind:Int)(l:List Pr):List UInt8:=if v=5 then(q5aq kind l).1 else []
def q1f4:List UInt8:=[77,81,84,84]
structure Cs where
 r:List UInt8
 e:Nat
def Cs.fail(s:Cs)(e:Nat):Cs:=if s.e≠0 then s else⟨s.r,e⟩
def Cs.take(s:Cs)(n:Nat):List UInt8×Cs:=if s.e≠0 then([],s) else if s.r.length < n then([],⟨s.r,3⟩) else(s.r.take n,⟨s.r.drop n,0⟩)
def Cs.num(s:Cs)(n:Nat):Nat×Cs:=(Go.Proofs.YtbklidpadffpgaaGreat.num (s.take n).1,(s.take n).2)
def Cs.text(s:Cs):List UInt8×Cs:=if s.e≠0 then([],s) else((rdT s.r).1,⟨s.r.drop (rdT s.r).2.1,(rdT s.r).2.2⟩)
def Cs.props(s:Cs)(v kind:Int):List Pr×Cs:=if s.e≠0∨v≠5 then([],s) else((qflw kind s.r).1,⟨s.r.drop (qflw kind s.r).2.1,(qflw kind s.r).2.2⟩)
theorem Cs.take_app{x t:List UInt8}{n:Nat}(h:x.length=n):(Cs.mk (x++t) 0).take n=(x,⟨t,0⟩):=by
 subst h
 simp[Cs.take]
theorem Cs.num_app{k c:Nat}{t:List UInt8}(h:k < 256^c):(Cs.mk (be k c++t) 0).num c=(k,⟨t,0⟩):=by
 rw[Cs.num,Cs.take_app (q0rl c k),q7wd,Nat.mod_eq_of_lt h]
def Cs.name(s:Cs):Cs:=if (s.take 6).2.e=0∧(s.take 6).1≠enc2 q1f4 then(s.take 6).2.fail 5 else(s.take 6).2
theorem Cs.fail_no{s:Cs}{e:Nat}(h:(s.fail e).e=0):s.e=0∧e=0:=by
 unfold Cs.fail at h
 split at h
 ·rename_i h1;exact absurd h h1
 ·rename_i h1;exact⟨by simpa using h1,h⟩
def qveh(x:Cs)(f:Nat):Cs:=(if x.e=0∧x.r≠[] then x.fail 5 else x).fail f
def qzno(v kind code:Int)(l:List Pr):List UInt8:=
 if v=5∧(code≠0∨l≠[]) then UInt8.ofNat code.toNat::(if l≠[] then(q5aq kind l).1 else []) else []
def Cs.rest(s:Cs)(v kind:Int):(Nat×List Pr)×Cs:=
 if v≠5∨s.e≠0∨s.r=[] then((0,[]),s)
 else
  let c:=s.num 1
  let p:=if c.2.r=[] then([],c.2) else c.2.props v kind
  ((c.1,p.1),if p.2.e=0∧p.2.r=[]∧qzno v kind c.1 p.1≠s.r then p.2.fail 5 else p.2)
theorem qaiv{k c:Int}(h:mayR k c=true):0≤c∧c < 163:=by
 simp only[mayR,Bool.and_eq_true,decide_eq_true_eq] at h
 have:=q5yb (grp k) (qljz k) c.toNat (by simpa using h.2)
 omega
def q5t0(k:Int):Bool:=decide (12≤k)&&decide (k≤15)
def q6gd(v k:Int):Bool:=k==12 || k==13 || (k==14&&v==4)
def usedK(v:Int)(p:Pk):Pk:={Pk.zero with kind:=p.kind,code:=if q6gd v p.kind then 0 else p.code,props:=if q6gd v p.kind then [] else p.props}
def q1ra(v:Int)(p:Pk):Nat:=
 if (qulp v&&q5t0 p.kind)=false then 2 else if p.kind=15∧v=4 then 8 else if (decide (p=usedK v p)&&(q6gd v p.kind || mayR p.kind p.code))=false then 2 else qfk9 v p.kind p.props
def q4py(code:Int)(l:List Pr)(kind:Int):List UInt8:=if code < 0∨255 < code∨qpyu kind l≠0 then [] else qzno 5 kind code l
def rawK(v:Int)(p:Pk):List UInt8:=if q6gd v p.kind then [] else q4py p.code p.props p.kind
def q2jl(v:Int)(p:Pk):List UInt8×Nat:=if q1ra v p≠0 then([],q1ra v p) else(rawK v p,0)
def q9kh(v kind:Int)(s:Cs):Pk×Cs:=
 if q6gd v kind then({Pk.zero with kind:=kind},s)
 else({Pk.zero with kind:=kind,code:=((s.rest v kind).1.1:Nat),props:=(s.rest v kind).1.2},(s.rest v kind).2)
def qf4x(v kind:Int)(l:List UInt8):Pk×Nat:=
 if (qulp v&&q5t0 kind)=false then(Pk.zero,2) else if kind=15∧v=4 then(Pk.zero,8)
 else
  let x:=q9kh v kind ⟨l,0⟩
  let s:=qveh x.2 (q1ra v x.1)
  if s.e≠0 then(Pk.zero,s.e) else(x.1,0)
theorem qi0l{v:Int}{p:Pk}(h:q1ra v p=0):(v=4∨v=5)∧(12≤p.kind∧p.kind≤15)∧¬(p.kind=15∧v=4)∧p=usedK v p∧(q6gd v p.kind=false→mayR p.kind p.code=true)∧qfk9 v p.kind p.props=0:=by
 unfold q1ra at h
 split at h
 ·cases h
 split at h
 ·cases h
 split at h
 ·cases h
 rename_i h1 h2 h3
 rw[Bool.not_eq_false,Bool.and_eq_true] at h1 h3
 simp only[qulp,q5t0,Bool.or_eq_true,Bool.and_eq_true,beq_iff_eq,decide_eq_true_eq] at h1 h3
 exact⟨h1.1,h1.2,h2,h3.1,fun e=>by have:=h3.2;rw[e] at this;simpa using this,h⟩
theorem qm9l{v k:Int}(hk:12≤k∧k≤15)(hv:v=4∨v=5)(h15:¬(k=15∧v=4))(h:q6gd v k=false):v=5:=by
 simp only[q6gd,Bool.or_eq_false_iff,Bool.and_eq_false_iff,beq_eq_false_iff_ne] at h
 omega
def numK(k c:Int):Pk:={Pk.zero with kind:=k,code:=c}
theorem qxi6{v:Int}{p:Pk}(h:q1ra v p=0):rawK v p=q4py p.code p.props p.kind∧(rawK v p=[]↔p.code=0∧p.props=[]):=by
 obtain⟨hv,hk,h15,hu,hm,hr⟩:=qi0l h
 unfold rawK
 cases hp:q6gd v p.kind with
 | true=>
  have hc:p.code=0:=by rw[hu,usedK,hp];rfl
  have hl:p.props=[]:=by rw[hu,usedK,hp];rfl
  rw[if_pos rfl,hc,hl]
  refine⟨?_,by simp⟩
  unfold q4py
  split
  ·rfl
  ·simp[qzno]
 | false=>
  have h5:=qm9l hk hv h15 hp
  obtain⟨c0,c1⟩:=qaiv (hm hp)
  have hvp:qpyu p.kind p.props=0:=by rw[qfk9,if_pos h5] at hr;exact hr
  rw[if_neg (by decide)]
  refine⟨rfl,?_⟩
  unfold q4py
  rw[if_neg (by
   rintro(h | h | h)
   ·omega
   ·omega
   ·exact h hvp)]
  unfold qzno
  by_cases hc:p.code=0<;>by_cases hl:p.props=[]<;>simp[hc,hl]
def whyL:List Pr:=[⟨31,0,[120],[]⟩]
def whyK:Pk:={Pk.zero with kind:=15,code:=24,props:=whyL}
theorem qnq6:q2jl 5 whyK=([24,4,31,0,1,120],0):=by decide+kernel
theorem qpox:q4py 300 [] 15=[]:=by decide+kernel
theorem qnr5:q4py 24 [] 15=[24]:=by decide+kernel
theorem qhxn:q4py 0 [] 15=[]:=by decide+kernel
theorem qm07:q4py 0 whyL 12=[]:=by decide+kernel
theorem qjrk:q2jl 5 (numK 14 0)=([],0):=by decide+kernel
theorem qlci:q2jl 5 (numK 14 4)=([4],0):=by decide+kernel
theorem qjfk{kind:Int}{s:List UInt8}(h:(qflw kind s).2.2≠0):qflw kind s=([],0,(qflw kind s).2.2):=by
 unfold qflw at *
 repeat' split
 all_goals first | rfl | skip
 all_goals
  rename_i h1 h2 h3 h4
  rw[if_neg h1,if_neg h2,if_neg h3,if_neg h4] at h
  exact absurd rfl h
def pkB(kind:Int)(i c:Nat)(l:List Pr):Pk:={Pk.zero with kind:=kind,id:=(i:Nat),code:=(c:Nat),props:=l}
theorem Cs.num_one{b:UInt8}{t:List UInt8}:(Cs.mk (b::t) 0).num 1=(b.toNat,⟨t,0⟩):=by
 have h:=Cs.num_app (k:=b.toNat) (c:=1) (t:=t) (by have:=b.toNat_lt;omega)
 have e:be b.toNat 1=[b]:=by simp[be]
 rw[e] at h
 exact h
theorem qhjx(x:Cs)(f:Nat):(qveh x f).e=if x.e≠0 then x.e else if x.r≠[] then 5 else f:=by
 unfold qveh Cs.fail
 by_cases he:x.e=0
 ·by_cases hr:x.r=[]
  ·simp[he,hr]
  ·simp[he,hr]
 ·simp[he]
end Go.Proofs.YtbklidpadffpgaaGreat
