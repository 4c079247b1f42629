/- Plain facts on lists of properties: which are as they should be, their bytes, and what is read of bytes: each undoes the other. No condition. -/
import Derived.Below
import Derived.Test.YtbecggefmbpnoaaGreatDoorK03
import Derived.Test.YtbecggefmbpnoaaGreatDoorK02
namespace Go.Proofs.YtbecggefmbpnoaaGreatDoor
def hasP(l:List Pr)(id:Int):Bool:=l.any fun p=>p.id==id
def qxv1(kind:Int)(l:List Pr)(id:Int):Bool:=hasP l id&&!quux kind id
def qwyx(l:List Pr):Bool:=hasP l 22&&!hasP l 21
def oneP(p:Pr):List UInt8:=UInt8.ofNat p.id.toNat::qgdb p
def q636(l:List Pr):List UInt8:=l.flatMap oneP
def q09m(kind:Int):List Pr→List Pr→Nat
 | _,[]=>0
 | pre,p::l=>if qr4y kind p≠0 then qr4y kind p else if qxv1 kind pre p.id then 9 else q09m kind (pre++[p]) l
def qpyu(kind:Int)(l:List Pr):Nat:=
 if 1000 < l.length then 4 else if q09m kind [] l≠0 then q09m kind [] l else if qwyx l then 9 else if 268435455 < (q636 l).length then 4 else 0
def q5aq(kind:Int)(l:List Pr):List UInt8×Nat:=
 if qpyu kind l≠0 then([],qpyu kind l) else(vb (q636 l).length (sz (q636 l).length)++q636 l,0)
def qwdr(kind:Int):Nat→List Pr→List UInt8→List Pr×Nat
 | 0,out,_=>(out,0)
 | f+1,out,s=>match s with
  | []=>(out,0)
  | b::r=>
   if mayP kind b.toNat=false then([],9)
   else if (qij7 b.toNat r).2.2≠0 then([],(qij7 b.toNat r).2.2)
   else if qr4y kind (qij7 b.toNat r).1≠0 then([],qr4y kind (qij7 b.toNat r).1)
   else if qxv1 kind out b.toNat then([],9)
   else if 1000≤out.length then([],4)
   else qwdr kind f (out++[(qij7 b.toNat r).1]) (r.drop (qij7 b.toNat r).2.1)
def qflw(kind:Int)(s:List UInt8):List Pr×Nat×Nat:=
 if rdE s≠0 then([],0,rdE s)
 else if s.length < rdN s+rdV s then([],0,3)
 else if (qwdr kind (rdV s) [] ((s.drop (rdN s)).take (rdV s))).2≠0 then([],0,(qwdr kind (rdV s) [] ((s.drop (rdN s)).take (rdV s))).2)
 else if qwyx (qwdr kind (rdV s) [] ((s.drop (rdN s)).take (rdV s))).1 then([],0,9)
 else((qwdr kind (rdV s) [] ((s.drop (rdN s)).take (rdV s))).1,rdN s+rdV s,0)
theorem qodo:q636 []=[]:=rfl
theorem qhx5(p:Pr)(l:List Pr):q636 (p::l)=oneP p++q636 l:=rfl
theorem qd67(a b:List Pr):q636 (a++b)=q636 a++q636 b:=by simp[q636]
theorem qnrl(p:Pr):(oneP p).length=(qgdb p).length+1:=rfl
theorem qpfx{kind:Int}{l:List Pr}(h:qpyu kind l=0):l.length≤1000∧q09m kind [] l=0∧qwyx l=false∧(q636 l).length≤268435455:=by
 unfold qpyu at h
 split at h
 ·cases h
 ·split at h
  ·rename_i h2;exact absurd h h2
  ·split at h
   ·cases h
   ·split at h
    ·cases h
    ·refine⟨by omega,by simp_all,by simp_all,by omega⟩
theorem qjrn{id:Int}{c k:Nat}{r:List UInt8}{p:Pr}(h:numP id c r=(p,k,0)):p=⟨id,num (r.take c),[],[]⟩∧k=c∧c≤r.length∧be (num (r.take c)) c=r.take c:=by
 unfold numP at h
 split at h
 ·simp at h
 ·rename_i hl
  simp only[Prod.mk.injEq,and_true] at h
  obtain⟨rfl,rfl⟩:=h
  refine⟨rfl,rfl,by omega,?_⟩
  have:=qz9g (r.take c)
  rwa [List.length_take,Nat.min_eq_left (by omega)] at this
theorem qkkc{data:Bool}{r t:List UInt8}{k:Nat}(h:q91e data r=(t,k,0)):r.take k=enc2 t∧k≤r.length∧k=(enc2 t).length∧(data=false→qecx t=true)∧t.length≤65535:=by
 unfold q91e at h
 rcases qsrz r with ⟨h1,h2,h3,h4,h5⟩ | h1
 ·rw[if_neg (by simp[h1])] at h
  split at h
  ·rename_i hv
   simp only[Prod.mk.injEq,and_true] at h
   obtain⟨rfl,rfl⟩:=h
   refine⟨h5,h3,by rw[qnp6];omega,fun e=>by simpa [e] using hv,by omega⟩
  ·simp at h
 ·rw[h1] at h;simp at h
theorem q5uz{id:Int}{r:List UInt8}{p:Pr}{k:Nat}(_hs:1≤qwgc id)(h:qij7 id r=(p,k,0)):p.id=id∧k≤r.length∧qgdb p=r.take k:=by
 unfold qij7 at h
 unfold qgdb
 by_cases s1:qwgc id=1
 ·rw[if_pos s1] at h
  obtain⟨rfl,rfl,hl,hb⟩:=qjrn h
  exact⟨rfl,hl,by simp only[s1,if_true];exact hb⟩
 by_cases s2:qwgc id=2
 ·rw[if_neg s1,if_pos s2] at h
  obtain⟨rfl,rfl,hl,hb⟩:=qjrn h
  exact⟨rfl,hl,by simp only[s2,if_true,show ¬(2:Nat)=1 by decide,if_false];exact hb⟩
 by_cases s3:qwgc id=3
 ·rw[if_neg s1,if_neg s2,if_pos s3] at h
  obtain⟨rfl,rfl,hl,hb⟩:=qjrn h
  exact⟨rfl,hl,by simp only[s3,if_true,show ¬(3:Nat)=1 by decide,show ¬(3:Nat)=2 by decide,if_false];exact hb⟩
 by_cases s4:qwgc id=4
 ·rw[if_neg s1,if_neg s2,if_neg s3,if_pos s4] at h
  split at h
  ·rename_i hne;simp only[Prod.mk.injEq] at h;exact absurd h.2.2 (by decide)
  ·rename_i hz
   simp only[Prod.mk.injEq,and_true] at h
   obtain⟨rfl,rfl⟩:=h
   obtain⟨v,n,st,hr⟩:∃v n st,run 0 0 r=(v,n,st):=⟨_,_,_,rfl⟩
   obtain⟨e1,e2,e3⟩:=qa1w hr
   have hst:st=1:=by
    rw[e3] at hz
    rcases qh9e r 0 0 with h0 | h0 | h0
    all_goals (rw[hr] at h0;simp only at h0;subst h0)
    ·simp at hz
    ·rfl
    ·simp at hz
   subst hst
   obtain⟨b1,b2,b3,b4⟩:=qvpf r v n hr
   simp only[if_true] at e1 e2
   rw[e1,e2]
   refine⟨rfl,b3,?_⟩
   simp only[s4,if_true,show ¬(4:Nat)=1 by decide,show ¬(4:Nat)=2 by decide,show ¬(4:Nat)=3 by decide,if_false]
   rw[←b2,b4]
 rw[if_neg s1,if_neg s2,if_neg s3,if_neg s4] at h
 by_cases s7:qwgc id=7
 ·rw[if_pos s7] at h
  split at h
  ·rename_i hne;simp only[Prod.mk.injEq] at h;exact absurd h.2.2 hne
  ·rename_i hz1
   split at h
   ·rename_i hne;simp only[Prod.mk.injEq] at h;exact absurd h.2.2 hne
   ·rename_i hz2
    simp only[Prod.mk.injEq,and_true] at h
    obtain⟨rfl,rfl⟩:=h
    simp only[ne_eq,Decidable.not_not] at hz1 hz2
    obtain⟨a1,a2,a3,_,_⟩:=qkkc (data:=false) (r:=r) (t:=(q91e false r).1) (k:=(q91e false r).2.1) (by rw[←hz1])
    obtain⟨c1,c2,c3,_,_⟩:=qkkc (data:=false) (r:=r.drop (q91e false r).2.1) (t:=(q91e false (r.drop (q91e false r).2.1)).1) (k:=(q91e false (r.drop (q91e false r).2.1)).2.1) (by rw[←hz2])
    rw[List.length_drop] at c2
    refine⟨rfl,by omega,?_⟩
    simp only[s7,if_true,show ¬(7:Nat)=1 by decide,show ¬(7:Nat)=2 by decide,show ¬(7:Nat)=3 by decide,show ¬(7:Nat)=4 by decide,if_false]
    rw[←a1,←c1,List.take_add]
 ·rw[if_neg s7] at h
  split at h
  ·rename_i hne;simp only[Prod.mk.injEq] at h;exact absurd h.2.2 hne
  ·rename_i hz1
   simp only[Prod.mk.injEq,and_true] at h
   obtain⟨rfl,rfl⟩:=h
   simp only[ne_eq,Decidable.not_not] at hz1
   obtain⟨a1,a2,a3,_,_⟩:=qkkc (data:=(qwgc id==6)) (r:=r) (t:=(q91e (qwgc id==6) r).1) (k:=(q91e (qwgc id==6) r).2.1) (by rw[←hz1])
   refine⟨rfl,a2,?_⟩
   show(if qwgc id=1 then _ else _)=_
   rw[if_neg s1,if_neg s2,if_neg s3,if_neg s4,if_neg s7]
   exact a1.symm
theorem qsu0(kind:Int):∀(f:Nat) (out:List Pr) (s:List UInt8) (l:List Pr),s.length≤f→out.length≤1000→qwdr kind f out s=(l,0)→∃m,l=out++m∧q09m kind out m=0∧q636 m=s∧l.length≤1000
 | 0,out,s,l,hf,ho,h=>by
  have:s=[]:=List.eq_nil_of_length_eq_zero (by omega)
  subst this
  simp only[qwdr,Prod.mk.injEq,and_true] at h
  subst h
  exact⟨[],by simp,rfl,rfl,ho⟩
 | f+1,out,[],l,hf,ho,h=>by
  simp only[qwdr,Prod.mk.injEq,and_true] at h
  subst h
  exact⟨[],by simp,rfl,rfl,ho⟩
 | f+1,out,b::r,l,hf,ho,h=>by
  rw[qwdr] at h
  split at h
  ·simp at h
  ·rename_i hm
   have hm:mayP kind b.toNat=true:=by simpa using hm
   split at h
   ·rename_i hne;simp only[Prod.mk.injEq] at h;exact absurd h.2 hne
   ·rename_i hn0
    split at h
    ·rename_i hne;simp only[Prod.mk.injEq] at h;exact absurd h.2 hne
    ·rename_i hc
     split at h
     ·simp at h
     ·rename_i ht
      split at h
      ·simp at h
      ·rename_i hl
       have hs1:=(qznl hm).1
       obtain⟨e1,e2,e3⟩:=q5uz (id:=b.toNat) (r:=r) (p:=(qij7 b.toNat r).1) (k:=(qij7 b.toNat r).2.1) hs1 (by
        have:(qij7 b.toNat r).2.2=0:=by simpa using hn0
        rw[←this])
       generalize (qij7 b.toNat r).1=p at *
       generalize (qij7 b.toNat r).2.1=k at *
       have hc:qr4y kind p=0:=by simpa using hc
       obtain⟨m,k1,k2,k3,k4⟩:=qsu0 kind f (out++[p]) (r.drop k) l (by rw[List.length_drop];simp at hf;omega) (by simp;omega) h
       refine⟨p::m,by rw[k1];simp,?_,?_,k4⟩
       ·rw[q09m,if_neg (by simp[hc]),e1,if_neg ht]
        exact k2
       ·rw[qhx5,k3]
        unfold oneP
        rw[e1,e3]
        simp
theorem qugf{kind:Int}{s:List UInt8}{l:List Pr}{n:Nat}(h:qflw kind s=(l,n,0)):qpyu kind l=0∧n≤s.length∧(q5aq kind l).1=s.take n:=by
 unfold qflw at h
 split at h
 ·rename_i hne;simp only[Prod.mk.injEq] at h;exact absurd h.2.2 hne
 ·rename_i h0
  split at h
  ·simp at h
  ·rename_i hle
   split at h
   ·rename_i hne;simp only[Prod.mk.injEq] at h;exact absurd h.2.2 hne
   ·rename_i hf
    split at h
    ·simp at h
    ·rename_i hlo
     simp only[Prod.mk.injEq,and_true] at h
     obtain⟨rfl,rfl⟩:=h
     obtain⟨v,c,st,hr⟩:∃v n st,run 0 0 s=(v,n,st):=⟨_,_,_,rfl⟩
     obtain⟨e1,e2,e3⟩:=qa1w hr
     have hst:st=1:=by
      rw[e3] at h0
      rcases qh9e s 0 0 with h1 | h1 | h1
      all_goals (rw[hr] at h1;simp only at h1;subst h1)
      ·simp at h0
      ·rfl
      ·simp at h0
     subst hst
     obtain⟨b1,b2,b3,b4⟩:=qvpf s v c hr
     simp only[if_true] at e1 e2
     rw[e1,e2] at hle hf hlo
     rw[e1,e2]
     obtain⟨m,k1,k2,k3,k4⟩:=qsu0 kind v [] ((s.drop c).take v) (qwdr kind v [] ((s.drop c).take v)).1 (by rw[List.length_take];omega) (by simp) (by
      have:(qwdr kind v [] ((s.drop c).take v)).2=0:=by simpa using hf
      rw[←this])
     rw[List.nil_append] at k1
     rw[k1] at hlo k4 ⊢
     have hlen:(q636 m).length=v:=by rw[k3,List.length_take,List.length_drop];omega
     have hv:qpyu kind m=0:=by
      unfold qpyu
      rw[if_neg (by omega),if_neg (by simp[k2]),if_neg hlo,if_neg (by omega)]
     refine⟨hv,by omega,?_⟩
     unfold q5aq
     rw[if_neg (by simp[hv])]
     show vb (q636 m).length (sz (q636 m).length)++q636 m=_
     rw[hlen,←b2,←b4,k3,List.take_add]
structure W4 where
 a:Nat
 b:Nat
 c:Nat
 d:Nat
def setc(s:W4)(n:Nat):W4:=
 if n < 64 then {s with a:=s.a ||| 2^(n%64)} else if n < 128 then {s with b:=s.b ||| 2^(n%64)} else if n < 192 then {s with c:=s.c ||| 2^(n%64)} else {s with d:=s.d ||| 2^(n%64)}
def addR(s:W4)(f:Nat):Nat→W4
 | 0=>s
 | n+1=>setc (addR s f n) (f+n)
def ofL(l:List Nat):W4:=l.foldl setc ⟨0,0,0,0⟩
def word(s:W4)(n:Nat):Nat:=if n < 64 then s.a else if n < 128 then s.b else if n < 192 then s.c else s.d
def hasW(s:W4)(n:Nat):Bool:=decide (n < 256)&&(word s n / 2^(n%64)%2==1)
structure OkW(s:W4):Prop where
 a:s.a < 18446744073709551616
 b:s.b < 18446744073709551616
 c:s.c < 18446744073709551616
 d:s.d < 18446744073709551616
theorem or_lt{x n:Nat}(hx:x < 18446744073709551616)(hn:n < 64):x ||| 2^n < 18446744073709551616:=
 Nat.or_lt_two_pow (n:=64) hx (Nat.pow_lt_pow_right (by decide) hn)
theorem OkW.setc{s:W4}(h:OkW s)(n:Nat):OkW (setc s n):=by
 have hn:n%64 < 64:=Nat.mod_lt _ (by decide)
 unfold Proofs.YtbecggefmbpnoaaGreatDoor.setc
 split
 ·exact⟨or_lt h.a hn,h.b,h.c,h.d⟩
 split
 ·exact⟨h.a,or_lt h.b hn,h.c,h.d⟩
 split
 ·exact⟨h.a,h.b,or_lt h.c hn,h.d⟩
 ·exact⟨h.a,h.b,h.c,or_lt h.d hn⟩
theorem OkW.addR{s:W4}(h:OkW s)(f:Nat):∀n,OkW (addR s f n)
 | 0=>h
 | n+1=>(OkW.addR h f n).setc _
theorem q4il:∀(l:List Nat) (s:W4),OkW s→OkW (l.foldl setc s)
 | [],_,h=>h
 | n::l,_,h=>q4il l _ (h.setc n)
theorem OkW.ofL(l:List Nat):OkW (ofL l):=q4il l _ ⟨by decide,by decide,by decide,by decide⟩
def grp(kind:Int):Nat:=
 if kind=2 then 1 else if kind=4∨kind=5 then 2 else if kind=6∨kind=7 then 3 else if kind=9 then 4 else if kind=11 then 5 else if kind=14 then 6 else if kind=15 then 7 else 0
def qedv:Nat→List Nat
 | 1=>[0,128,129,130,131,132,133,134,135,136,137,138,140,144,149,151,153,154,155,156,157,159]
 | 2=>[0,16,128,131,135,144,145,151,153]
 | 3=>[0,146]
 | 4=>[0,1,2,128,131,135,143,145,151,158,161,162]
 | 5=>[0,17,128,131,135,143,145]
 | 6=>[0,4,128,129,130,131,135,137,139,141,142,143,144,147,148,149,150,151,152,153,154,155,156,157,158,159,160,161,162]
 | 7=>[0,24,25]
 | _=>[]
def q71c:Nat→W4
 | 1=>addR (addR (ofL [0,140,144,149,151,159]) 128 11) 153 5
 | 2=>ofL [0,16,128,131,135,144,145,151,153]
 | 3=>ofL [0,146]
 | 4=>ofL [0,1,2,128,131,135,143,145,151,158,161,162]
 | 5=>ofL [0,17,128,131,135,143,145]
 | 6=>addR (addR (ofL [0,4,135,137,139,141,142,143,144]) 128 4) 147 16
 | 7=>ofL [0,24,25]
 | _=>⟨0,0,0,0⟩
theorem qljz(kind:Int):grp kind < 8:=by
 unfold grp
 repeat' (first | decide | split)
theorem qjuf:∀g,OkW (q71c g)
 | 0=>⟨by decide,by decide,by decide,by decide⟩
 | 1=>((OkW.ofL _).addR _ _).addR _ _
 | 2=>OkW.ofL _
 | 3=>OkW.ofL _
 | 4=>OkW.ofL _
 | 5=>OkW.ofL _
 | 6=>((OkW.ofL _).addR _ _).addR _ _
 | 7=>OkW.ofL _
 | n+8=>show OkW ⟨0,0,0,0⟩ from⟨by decide,by decide,by decide,by decide⟩
theorem qy5i:∀g < 8,∀n < 256,hasW (q71c g) n=(qedv g).contains n:=by decide+kernel
theorem q5yb:∀g < 8,∀n∈qedv g,n < 163:=by decide+kernel
theorem qi9u(kind:Int)(n:Nat):hasW (q71c (grp kind)) n=(qedv (grp kind)).contains n:=by
 by_cases hn:n < 256
 ·exact qy5i _ (qljz kind) n hn
 ·have h1:(qedv (grp kind)).contains n=false:=by
   rw[Bool.eq_false_iff]
   intro h
   have:=q5yb _ (qljz kind) n (List.contains_iff_mem.1 h)
   omega
  rw[h1]
  unfold hasW
  simp[hn]
def mayR(kind code:Int):Bool:=decide (0≤code)&&(qedv (grp kind)).contains code.toNat
def qw69(code:Int):Bool:=code==0 || code==1 || code==2 || code==128
def bitC(b:Bool)(n:Nat):Nat:=if b then n else 0
def versC(v:Int):Bool:=v==4 || v==5
def qfk9(v kind:Int)(l:List Pr):Nat:=if v=5 then qpyu kind l else 0
def qasq(v kind:Int)(l:List Pr):List UInt8:=if v=5 then(q5aq kind l).1 else []
def q1f4:List UInt8:=[77,81,84,84]
structure Cs where
 r:List UInt8
 e:Nat
def Cs.fail(s:Cs)(e:Nat):Cs:=if s.e≠0 then s else⟨s.r,e⟩
def Cs.take(s:Cs)(n:Nat):List UInt8×Cs:=if s.e≠0 then([],s) else if s.r.length < n then([],⟨s.r,3⟩) else(s.r.take n,⟨s.r.drop n,0⟩)
def Cs.num(s:Cs)(n:Nat):Nat×Cs:=(Go.Proofs.YtbecggefmbpnoaaGreatDoor.num (s.take n).1,(s.take n).2)
def Cs.text(s:Cs):List UInt8×Cs:=if s.e≠0 then([],s) else((rdT s.r).1,⟨s.r.drop (rdT s.r).2.1,(rdT s.r).2.2⟩)
def Cs.props(s:Cs)(v kind:Int):List Pr×Cs:=if s.e≠0∨v≠5 then([],s) else((qflw kind s.r).1,⟨s.r.drop (qflw kind s.r).2.1,(qflw kind s.r).2.2⟩)
def Cs.name(s:Cs):Cs:=if (s.take 6).2.e=0∧(s.take 6).1≠enc2 q1f4 then(s.take 6).2.fail 5 else(s.take 6).2
def fl(u a r w c:Bool)(q:Nat):Nat:=bitC u 128+bitC a 64+bitC r 32+8*q+bitC w 4+bitC c 2
theorem Cs.take_back{s:Cs}{n:Nat}(h:(s.take n).2.e=0):s.e=0∧s.r=(s.take n).1++(s.take n).2.r∧(s.take n).1.length=n:=by
 unfold Cs.take at h ⊢
 split at h
 ·rename_i h1;exact absurd h h1
 ·rename_i h1
  split at h
  ·cases h
  ·rename_i h2
   rw[if_neg h1,if_neg h2]
   refine⟨by simpa using h1,(List.take_append_drop n s.r).symm,by simp;omega⟩
theorem Cs.num_back{s:Cs}{n:Nat}(h:(s.num n).2.e=0):s.e=0∧s.r=be (s.num n).1 n++(s.num n).2.r∧(s.num n).1 < 256^n:=by
 obtain⟨h1,h2,h3⟩:=Cs.take_back (s:=s) (n:=n) h
 refine⟨h1,?_,?_⟩
 ·show s.r=be (Go.Proofs.YtbecggefmbpnoaaGreatDoor.num (s.take n).1) n++(s.take n).2.r
  have:=qz9g (s.take n).1
  rw[h3] at this
  rw[this]
  exact h2
 ·have:=qn9h (s.take n).1
  rw[h3] at this
  exact this
theorem Cs.text_back{s:Cs}(h:s.text.2.e=0):s.e=0∧s.r=enc2 s.text.1++s.text.2.r∧qecx s.text.1=true:=by
 unfold Cs.text at h ⊢
 split at h
 ·rename_i h1;exact absurd h h1
 ·rename_i h1
  rw[if_neg h1]
  have h:(rdT s.r).2.2=0:=h
  show s.e=0∧s.r=enc2 (rdT s.r).1++s.r.drop (rdT s.r).2.1∧qecx (rdT s.r).1=true
  rw[rdT] at h ⊢
  split at h
  ·cases h
  ·rename_i h2
   split at h
   ·rename_i h3
    rw[if_neg h2,if_pos h3]
    rcases qsrz s.r with ⟨_,_,_,_,h5⟩ | h5
    ·exact⟨by simpa using h1,by rw[←h5,List.take_append_drop],h3⟩
    ·rw[h5] at h2;exact absurd (by decide) h2
   ·cases h
theorem qpzx{k:Nat}:be k 1=[UInt8.ofNat k]:=by simp[be]
theorem Cs.fail_no{s:Cs}{e:Nat}(h:(s.fail e).e=0):s.e=0∧e=0:=by
 unfold Cs.fail at h
 split at h
 ·rename_i h1;exact absurd h h1
 ·rename_i h1;exact⟨by simpa using h1,h⟩
def qveh(x:Cs)(f:Nat):Cs:=(if x.e=0∧x.r≠[] then x.fail 5 else x).fail f
section
variable{s:List UInt8}(hn:q95c s=true)(hs:s.length≤200)
end
def share:List UInt8:=[36,115,104,97,114,101]
def qar3(s:List UInt8):List UInt8×List UInt8×Bool:=
 match lvls s with
 | h::g::f::ls=>if qecx s=true∧h=share∧g≠[]∧(43:UInt8)∉g∧(35:UInt8)∉g∧qw8n (q8nq (f::ls))=true then(g,q8nq (f::ls),true) else([],[],false)
 | _=>([],[],false)
theorem qt0s:(47:UInt8)∉share:=by decide
theorem qe2w(s:List UInt8):(∃g f,qar3 s=(g,f,true)∧s=share++47::(g++47::f)∧g≠[]∧qw8n f=true∧qecx s=true∧(43:UInt8)∉g∧(35:UInt8)∉g∧(47:UInt8)∉g)∨qar3 s=([],[],false):=by
 unfold qar3
 have hj:=qz8l s
 have hf:=qxp9 s
 split
 ·rename_i h g f ls e
  rw[e] at hj hf
  split
  ·rename_i hc
   obtain⟨h1,rfl,h3,h4,h5,h6⟩:=hc
   refine .inl ⟨g,q8nq (f::ls),rfl,?_,h3,h6,h1,h4,h5,hf g (by simp)⟩
   rw[←hj,qcnz _ (by simp),qcnz g (by simp)]
  ·exact .inr rfl
 ·exact .inr rfl
def qsfj(k:Int):Bool:=k==8 || k==10
def qfws(k:Int):Bool:=decide (8≤k)&&decide (k≤11)
def qumw(v:Int)(p:Pk):Pk:={Pk.zero with kind:=p.kind,id:=p.id,props:=p.props,filters:=if qsfj p.kind then p.filters else [],codes:=if !qsfj p.kind&&(p.kind==9 || v==5) then p.codes else []}
def okS(v:Int)(p:Pk):Bool:=
 versC v&&qfws p.kind&&decide (p=qumw v p)&&(decide (1≤p.id)&&decide (p.id≤65535))&&!(v==4&&!p.props.isEmpty)&&!(p.filters.isEmpty&&p.codes.isEmpty&&!(p.kind==11&&v==4))
def q7yu(f:Fi):Fi:=⟨f.topic,0,false,false,0⟩
def optS(v kind:Int)(f:Fi):Bool:=
 if kind=10 then decide (f=q7yu f)
 else(decide (0≤f.qos)&&decide (f.qos≤2)&&(decide (0≤f.handling)&&decide (f.handling≤2)))&&if v=4 then !f.noLocal&&!f.asPub&&f.handling==0 else !f.noLocal || !(qar3 f.topic).2.2
def q190(v kind n:Int):Bool:=if v=4 then qw69 n else mayR kind n
def qlck(v kind:Int):List Fi→Nat
 | []=>0
 | f::l=>if qw8n f.topic=false then 10 else if optS v kind f=false then 2 else qlck v kind l
def qq92(v kind:Int):List Int→Nat
 | []=>0
 | c::l=>if q190 v kind c=false then 2 else qq92 v kind l
def q3m2(v:Int)(p:Pk):Nat:=
 if okS v p=false then 2 else if qfk9 v p.kind p.props≠0 then qfk9 v p.kind p.props else if qlck v p.kind p.filters≠0 then qlck v p.kind p.filters else qq92 v p.kind p.codes
def qang(f:Fi):Nat:=(f.qos%4).toNat+16*(f.handling%4).toNat+bitC f.noLocal 4+bitC f.asPub 8
def qjk5(kind:Int)(f:Fi):List UInt8:=enc2 f.topic++if kind=8 then [UInt8.ofNat (qang f)] else []
def q56c(l:List Int):List UInt8:=l.map fun c=>UInt8.ofNat c.toNat
def rawS(v:Int)(p:Pk):List UInt8:=be p.id.toNat 2++(qasq v p.kind p.props++(p.filters.flatMap (qjk5 p.kind)++q56c p.codes))
def qktk(v:Int)(p:Pk):List UInt8×Nat:=if q3m2 v p≠0 then([],q3m2 v p) else(rawS v p,0)
def q7vq(t:List UInt8)(n:Nat):Fi:=⟨t,(n%4:Nat),n / 4%2==1,n / 8%2==1,(n / 16%4:Nat)⟩
def Cs.filt(s:Cs)(v kind:Int):Fi×Cs:=
 let t:=s.text
 if kind=10 then(⟨t.1,0,false,false,0⟩,t.2)
 else
  let n:=t.2.num 1
  (q7vq t.1 n.1,if 63 < n.1∨(v=4∧3 < n.1) then n.2.fail 7 else n.2)
def Cs.filts(v kind:Int):Nat→Cs→List Fi×Cs
 | 0,s=>([],s)
 | n+1,s=>if s.e≠0∨s.r=[] then([],s) else((s.filt v kind).1::(Cs.filts v kind n (s.filt v kind).2).1,(Cs.filts v kind n (s.filt v kind).2).2)
def Cs.codes(s:Cs):List Int×Cs:=if s.e≠0 then([],s) else(s.r.map (fun b=>((b.toNat:Nat):Int)),⟨[],0⟩)
def q7qx(v kind:Int)(s:Cs):Pk×Cs:=
 let i:=s.num 2
 let p:=i.2.props v kind
 if qsfj kind then
  let f:=Cs.filts v kind p.2.r.length p.2
  ({Pk.zero with kind:=kind,id:=(i.1:Nat),props:=p.1,filters:=f.1},f.2)
 else({Pk.zero with kind:=kind,id:=(i.1:Nat),props:=p.1,codes:=p.2.codes.1},p.2.codes.2)
def q98d(v kind:Int)(l:List UInt8):Pk×Nat:=
 if (versC v&&qfws kind)=false then(Pk.zero,2)
 else
  let x:=q7qx v kind ⟨l,0⟩
  let s:=qveh x.2 (q3m2 v x.1)
  if s.e≠0 then(Pk.zero,s.e) else(x.1,0)
def qoit(v:Int)(p q:Pk):Bool:=
 qsfj p.kind&&q.kind==p.kind+1&&decide (q3m2 v p=0)&&decide (q3m2 v q=0)&&p.id==q.id&&(q.kind==11&&v==4 || q.codes.length==p.filters.length)
theorem q7kh(t:List UInt8){n:Nat}(h:n≤63):qang (q7vq t n)=n:=by
 have h2:∀m,m < 64→qang (q7vq [] m)=m:=by decide+kernel
 have:=h2 n (by omega)
 exact this
theorem qme0{t:List UInt8}(h:qw8n t=true):qecx t=true:=by
 simp only[qw8n,Bool.and_eq_true] at h
 exact h.1.2
theorem q267{v kind:Int}:∀{l:List Fi},qlck v kind l=0→∀f∈l,qw8n f.topic=true∧optS v kind f=true
 | [],_,f,hf=>by cases hf
 | g::l,h,f,hf=>by
  unfold qlck at h
  split at h
  ·cases h
  split at h
  ·cases h
  rename_i h1 h2
  rcases List.mem_cons.1 hf with rfl | hf
  ·exact⟨by simpa using h1,by simpa using h2⟩
  ·exact q267 h f hf
theorem q6r9{v kind:Int}:∀{l:List Int},qq92 v kind l=0→∀c∈l,q190 v kind c=true
 | [],_,f,hf=>by cases hf
 | g::l,h,f,hf=>by
  unfold qq92 at h
  split at h
  ·cases h
  rename_i h1
  rcases List.mem_cons.1 hf with rfl | hf
  ·simpa using h1
  ·exact q6r9 h f hf
theorem qzk9{v kind c:Int}(h:q190 v kind c=true):0≤c∧c < 163:=by
 unfold q190 at h
 split at h
 ·simp only[qw69,Bool.or_eq_true,beq_iff_eq] at h
  omega
 ·simp only[mayR,Bool.and_eq_true,decide_eq_true_eq] at h
  have:=q5yb (grp kind) (qljz kind) c.toNat (by simpa using h.2)
  omega
theorem ok_s{v:Int}{p:Pk}(h:okS v p=true):(v=4∨v=5)∧(8≤p.kind∧p.kind≤11)∧p=qumw v p∧(1≤p.id∧p.id≤65535)∧(v=4→p.props=[])∧(p.filters=[]→p.codes=[]→p.kind=11∧v=4):=by
 unfold okS at h
 simp only[Bool.and_eq_true,Bool.or_eq_true,beq_iff_eq,decide_eq_true_eq,versC,qfws] at h
 obtain⟨⟨⟨⟨⟨hv,hk⟩,hu⟩,hi⟩,h4⟩,he⟩:=h
 refine⟨hv,hk,hu,hi,fun e=>?_,fun e1 e2=>?_⟩
 ·subst e
  simpa using h4
 ·rw[e1,e2] at he
  simpa using he
theorem q87v{v:Int}{p:Pk}(h:q3m2 v p=0):okS v p=true∧qfk9 v p.kind p.props=0∧qlck v p.kind p.filters=0∧qq92 v p.kind p.codes=0:=by
 unfold q3m2 at h
 split at h
 ·cases h
 split at h
 ·rename_i h1 h2;exact absurd h h2
 split at h
 ·rename_i h1 h2 h3;exact absurd h h3
 rename_i h1 h2 h3
 exact⟨by simpa using h1,by simpa using h2,by simpa using h3,h⟩
theorem q9zy{k:Int}(hk:8≤k∧k≤11):(qsfj k=true∧(k=8∨k=10))∨(qsfj k=false∧(k=9∨k=11)):=by
 obtain rfl | rfl | rfl | rfl:k=8∨k=9∨k=10∨k=11:=by omega
 ·exact .inl ⟨rfl,.inl rfl⟩
 ·exact .inr ⟨rfl,.inl rfl⟩
 ·exact .inl ⟨rfl,.inr rfl⟩
 ·exact .inr ⟨rfl,.inr rfl⟩
theorem qmqi{v:Int}{p:Pk}(hu:p=qumw v p):(qsfj p.kind=true→p.codes=[])∧(qsfj p.kind=false→p.filters=[]):=by
 constructor
 ·intro h
  have:=congrArg Pk.codes hu
  rw[qumw,h] at this
  simpa using this
 ·intro h
  have:=congrArg Pk.filters hu
  rw[qumw,h] at this
  simpa using this
theorem q0ul(kind:Int)(f:Fi):qjk5 kind f≠[]:=by
 intro e
 have:=congrArg List.length e
 rw[qjk5,List.length_append,qnp6,List.length_nil] at this
 omega
theorem q749{s:Cs}{v kind:Int}(hk:kind=8∨kind=10)(h:(s.filt v kind).2.e=0):s.e=0∧s.r=qjk5 kind (s.filt v kind).1++(s.filt v kind).2.r:=by
 rcases hk with rfl | rfl
 ·unfold Cs.filt at h ⊢
  simp only[show ¬((8:Int)=10) by decide,if_false] at h ⊢
  obtain⟨n,hn⟩:∃n,s.text.2.num 1=n:=⟨_,rfl⟩
  rw[hn] at h ⊢
  by_cases hb:63 < n.1∨(v=4∧3 < n.1)
  ·rw[if_pos hb] at h
   exact absurd (Cs.fail_no h).2 (by decide)
  ·rw[if_neg hb] at h ⊢
   have h1:=Cs.num_back (s:=s.text.2) (n:=1) (by rw[hn];exact h)
   rw[hn,qpzx] at h1
   obtain⟨h2,h3,_⟩:=h1
   obtain⟨h4,h5,_⟩:=Cs.text_back h2
   refine⟨h4,?_⟩
   have hx:n.1≤63:=by
    rcases Nat.lt_or_ge 63 n.1 with h | h
    ·exact absurd (.inl h) hb
    ·exact h
   show s.r=qjk5 8 (q7vq s.text.1 n.1)++n.2.r
   rw[qjk5,if_pos rfl,q7kh _ hx]
   show s.r=enc2 s.text.1++[UInt8.ofNat n.1]++n.2.r
   rw[List.append_assoc,←h3]
   exact h5
 ·unfold Cs.filt at h ⊢
  simp only[if_true] at h ⊢
  obtain⟨h4,h5,_⟩:=Cs.text_back h
  refine⟨h4,?_⟩
  rw[qjk5,if_neg (by decide),List.append_nil]
  exact h5
end Go.Proofs.YtbecggefmbpnoaaGreatDoor
