/- Reason codes, as plain lists, and as bits of four words. Condition: none. No program. -/
import Derived.Below
import Derived.Test.YthhdhagenmcbeaaGreatK06
import Derived.Test.YthhdhagenmcbeaaGreatK11
import Derived.Test.YthhdhagenmcbeaaGreatK10
namespace Go.Proofs.YthhdhagenmcbeaaGreat
structure W4 where
 a:Nat
 b:Nat
 c:Nat
 d:Nat
def setc(s:W4)(n:Nat):W4:=
 if n < 64 then {s with a:=s.a ||| 2^(n%64)} else if n < 128 then {s with b:=s.b ||| 2^(n%64)} else if n < 192 then {s with c:=s.c ||| 2^(n%64)} else {s with d:=s.d ||| 2^(n%64)}
def addR(s:W4)(f:Nat):Nat→W4
 | 0=>s
 | n+1=>setc (addR s f n) (f+n)
def ofL(l:List Nat):W4:=l.foldl setc ⟨0,0,0,0⟩
def word(s:W4)(n:Nat):Nat:=if n < 64 then s.a else if n < 128 then s.b else if n < 192 then s.c else s.d
def hasW(s:W4)(n:Nat):Bool:=decide (n < 256)&&(word s n / 2^(n%64)%2==1)
structure OkW(s:W4):Prop where
 a:s.a < 18446744073709551616
 b:s.b < 18446744073709551616
 c:s.c < 18446744073709551616
 d:s.d < 18446744073709551616
theorem or_lt{x n:Nat}(hx:x < 18446744073709551616)(hn:n < 64):x ||| 2^n < 18446744073709551616:=
 Nat.or_lt_two_pow (n:=64) hx (Nat.pow_lt_pow_right (by decide) hn)
theorem OkW.setc{s:W4}(h:OkW s)(n:Nat):OkW (setc s n):=by
 have hn:n%64 < 64:=Nat.mod_lt _ (by decide)
 unfold Proofs.YthhdhagenmcbeaaGreat.setc
 split
 ·exact⟨or_lt h.a hn,h.b,h.c,h.d⟩
 split
 ·exact⟨h.a,or_lt h.b hn,h.c,h.d⟩
 split
 ·exact⟨h.a,h.b,or_lt h.c hn,h.d⟩
 ·exact⟨h.a,h.b,h.c,or_lt h.d hn⟩
theorem OkW.addR{s:W4}(h:OkW s)(f:Nat):∀n,OkW (addR s f n)
 | 0=>h
 | n+1=>(OkW.addR h f n).setc _
theorem q4il:∀(l:List Nat) (s:W4),OkW s→OkW (l.foldl setc s)
 | [],_,h=>h
 | n::l,_,h=>q4il l _ (h.setc n)
theorem OkW.ofL(l:List Nat):OkW (ofL l):=q4il l _ ⟨by decide,by decide,by decide,by decide⟩
def grp(kind:Int):Nat:=
 if kind=2 then 1 else if kind=4∨kind=5 then 2 else if kind=6∨kind=7 then 3 else if kind=9 then 4 else if kind=11 then 5 else if kind=14 then 6 else if kind=15 then 7 else 0
def qedv:Nat→List Nat
 | 1=>[0,128,129,130,131,132,133,134,135,136,137,138,140,144,149,151,153,154,155,156,157,159]
 | 2=>[0,16,128,131,135,144,145,151,153]
 | 3=>[0,146]
 | 4=>[0,1,2,128,131,135,143,145,151,158,161,162]
 | 5=>[0,17,128,131,135,143,145]
 | 6=>[0,4,128,129,130,131,135,137,139,141,142,143,144,147,148,149,150,151,152,153,154,155,156,157,158,159,160,161,162]
 | 7=>[0,24,25]
 | _=>[]
def q71c:Nat→W4
 | 1=>addR (addR (ofL [0,140,144,149,151,159]) 128 11) 153 5
 | 2=>ofL [0,16,128,131,135,144,145,151,153]
 | 3=>ofL [0,146]
 | 4=>ofL [0,1,2,128,131,135,143,145,151,158,161,162]
 | 5=>ofL [0,17,128,131,135,143,145]
 | 6=>addR (addR (ofL [0,4,135,137,139,141,142,143,144]) 128 4) 147 16
 | 7=>ofL [0,24,25]
 | _=>⟨0,0,0,0⟩
theorem qljz(kind:Int):grp kind < 8:=by
 unfold grp
 repeat' (first | decide | split)
theorem qjuf:∀g,OkW (q71c g)
 | 0=>⟨by decide,by decide,by decide,by decide⟩
 | 1=>((OkW.ofL _).addR _ _).addR _ _
 | 2=>OkW.ofL _
 | 3=>OkW.ofL _
 | 4=>OkW.ofL _
 | 5=>OkW.ofL _
 | 6=>((OkW.ofL _).addR _ _).addR _ _
 | 7=>OkW.ofL _
 | n+8=>show OkW ⟨0,0,0,0⟩ from⟨by decide,by decide,by decide,by decide⟩
theorem qy5i:∀g < 8,∀n < 256,hasW (q71c g) n=(qedv g).contains n:=by decide+kernel
theorem q5yb:∀g < 8,∀n∈qedv g,n < 163:=by decide+kernel
theorem qi9u(kind:Int)(n:Nat):hasW (q71c (grp kind)) n=(qedv (grp kind)).contains n:=by
 by_cases hn:n < 256
 ·exact qy5i _ (qljz kind) n hn
 ·have h1:(qedv (grp kind)).contains n=false:=by
   rw[Bool.eq_false_iff]
   intro h
   have:=q5yb _ (qljz kind) n (List.contains_iff_mem.1 h)
   omega
  rw[h1]
  unfold hasW
  simp[hn]
def mayR(kind code:Int):Bool:=decide (0≤code)&&(qedv (grp kind)).contains code.toNat
def versC(v:Int):Bool:=v==4 || v==5
def qfk9(v kind:Int)(l:List Pr):Nat:=if v=5 then qpyu kind l else 0
def qasq(v kind:Int)(l:List Pr):List UInt8:=if v=5 then(q5aq kind l).1 else []
def q1f4:List UInt8:=[77,81,84,84]
structure Cs where
 r:List UInt8
 e:Nat
def Cs.fail(s:Cs)(e:Nat):Cs:=if s.e≠0 then s else⟨s.r,e⟩
def Cs.take(s:Cs)(n:Nat):List UInt8×Cs:=if s.e≠0 then([],s) else if s.r.length < n then([],⟨s.r,3⟩) else(s.r.take n,⟨s.r.drop n,0⟩)
def Cs.num(s:Cs)(n:Nat):Nat×Cs:=(Go.Proofs.YthhdhagenmcbeaaGreat.num (s.take n).1,(s.take n).2)
def Cs.text(s:Cs):List UInt8×Cs:=if s.e≠0 then([],s) else((rdT s.r).1,⟨s.r.drop (rdT s.r).2.1,(rdT s.r).2.2⟩)
def Cs.props(s:Cs)(v kind:Int):List Pr×Cs:=if s.e≠0∨v≠5 then([],s) else((qflw kind s.r).1,⟨s.r.drop (qflw kind s.r).2.1,(qflw kind s.r).2.2⟩)
theorem Cs.take_app{x t:List UInt8}{n:Nat}(h:x.length=n):(Cs.mk (x++t) 0).take n=(x,⟨t,0⟩):=by
 subst h
 simp[Cs.take]
theorem Cs.num_app{k c:Nat}{t:List UInt8}(h:k < 256^c):(Cs.mk (be k c++t) 0).num c=(k,⟨t,0⟩):=by
 rw[Cs.num,Cs.take_app (q0rl c k),q7wd,Nat.mod_eq_of_lt h]
def Cs.name(s:Cs):Cs:=if (s.take 6).2.e=0∧(s.take 6).1≠enc2 q1f4 then(s.take 6).2.fail 5 else(s.take 6).2
theorem Cs.fail_no{s:Cs}{e:Nat}(h:(s.fail e).e=0):s.e=0∧e=0:=by
 unfold Cs.fail at h
 split at h
 ·rename_i h1;exact absurd h h1
 ·rename_i h1;exact⟨by simpa using h1,h⟩
def qveh(x:Cs)(f:Nat):Cs:=(if x.e=0∧x.r≠[] then x.fail 5 else x).fail f
def qzno(v kind code:Int)(l:List Pr):List UInt8:=
 if v=5∧(code≠0∨l≠[]) then UInt8.ofNat code.toNat::(if l≠[] then(q5aq kind l).1 else []) else []
def qiby(p:Pk):Pk:={Pk.zero with kind:=p.kind,id:=p.id,code:=p.code,props:=p.props}
def qvya(k:Int):Bool:=decide (4≤k)&&decide (k≤7)
def okA(v:Int)(p:Pk):Bool:=
 versC v&&qvya p.kind&&decide (p=qiby p)&&!(v==4&&!(p.code==0&&p.props.isEmpty))&&(decide (1≤p.id)&&decide (p.id≤65535))&&mayR p.kind p.code
def qryp(v:Int)(p:Pk):Nat:=if okA v p=false then 2 else qfk9 v p.kind p.props
def rawA(v:Int)(p:Pk):List UInt8:=be p.id.toNat 2++qzno v p.kind p.code p.props
def q04h(v:Int)(p:Pk):List UInt8×Nat:=if qryp v p≠0 then([],qryp v p) else(rawA v p,0)
def Cs.rest(s:Cs)(v kind:Int):(Nat×List Pr)×Cs:=
 if v≠5∨s.e≠0∨s.r=[] then((0,[]),s)
 else
  let c:=s.num 1
  let p:=if c.2.r=[] then([],c.2) else c.2.props v kind
  ((c.1,p.1),if p.2.e=0∧p.2.r=[]∧qzno v kind c.1 p.1≠s.r then p.2.fail 5 else p.2)
def qngm(v kind:Int)(s:Cs):Pk×Cs:=
 let i:=s.num 2
 let r:=i.2.rest v kind
 ({Pk.zero with kind:=kind,id:=(i.1:Nat),code:=(r.1.1:Nat),props:=r.1.2},r.2)
def q9uf(v kind:Int)(l:List UInt8):Pk×Nat:=
 if (versC v&&qvya kind)=false then(Pk.zero,2)
 else
  let x:=qngm v kind ⟨l,0⟩
  let s:=qveh x.2 (qryp v x.1)
  if s.e≠0 then(Pk.zero,s.e) else(x.1,0)
def qo1u(p:Pk):Pk×Bool:=
 if p.kind=5∧p.code < 128 then({Pk.zero with kind:=6,id:=p.id},true) else if p.kind=6 then({Pk.zero with kind:=7,id:=p.id},true) else(Pk.zero,false)
theorem qaiv{k c:Int}(h:mayR k c=true):0≤c∧c < 163:=by
 simp only[mayR,Bool.and_eq_true,decide_eq_true_eq] at h
 have:=q5yb (grp k) (qljz k) c.toNat (by simpa using h.2)
 omega
theorem ok_a{v:Int}{p:Pk}(h:okA v p=true):(v=4∨v=5)∧(4≤p.kind∧p.kind≤7)∧p=qiby p∧(v=4→p.code=0∧p.props=[])∧(1≤p.id∧p.id≤65535)∧mayR p.kind p.code=true:=by
 unfold okA at h
 simp only[Bool.and_eq_true,Bool.or_eq_true,beq_iff_eq,decide_eq_true_eq,versC,qvya] at h
 obtain⟨⟨⟨⟨⟨hv,hk⟩,hu⟩,h4⟩,hi⟩,hm⟩:=h
 refine⟨hv,hk,hu,fun e=>?_,hi,hm⟩
 subst e
 simpa using h4
theorem q858{v:Int}{p:Pk}(h:qryp v p=0):okA v p=true∧qfk9 v p.kind p.props=0:=by
 rw[qryp] at h
 split at h
 ·cases h
 ·rename_i h1;exact⟨by simpa using h1,h⟩
theorem qjfk{kind:Int}{s:List UInt8}(h:(qflw kind s).2.2≠0):qflw kind s=([],0,(qflw kind s).2.2):=by
 unfold qflw at *
 repeat' split
 all_goals first | rfl | skip
 all_goals
  rename_i h1 h2 h3 h4
  rw[if_neg h1,if_neg h2,if_neg h3,if_neg h4] at h
  exact absurd rfl h
end Go.Proofs.YthhdhagenmcbeaaGreat
