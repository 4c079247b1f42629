/- Plain facts on lists of properties: which are as they should be, their bytes, and what is read of bytes: each undoes the other. No condition. -/
import Derived.Below
import Derived.Test.YtbklidpadffpgaaGreatK10
import Derived.Test.YtbklidpadffpgaaGreatK06
import Derived.Test.YtbklidpadffpgaaGreatK09
namespace Go.Proofs.YtbklidpadffpgaaGreat
def hasP(l:List Pr)(id:Int):Bool:=l.any fun p=>p.id==id
def qxv1(kind:Int)(l:List Pr)(id:Int):Bool:=hasP l id&&!quux kind id
def qwyx(l:List Pr):Bool:=hasP l 22&&!hasP l 21
def oneP(p:Pr):List UInt8:=UInt8.ofNat p.id.toNat::qgdb p
def q636(l:List Pr):List UInt8:=l.flatMap oneP
def q09m(kind:Int):List Pr→List Pr→Nat
 | _,[]=>0
 | pre,p::l=>if qr4y kind p≠0 then qr4y kind p else if qxv1 kind pre p.id then 9 else q09m kind (pre++[p]) l
def qpyu(kind:Int)(l:List Pr):Nat:=
 if 1000 < l.length then 4 else if q09m kind [] l≠0 then q09m kind [] l else if qwyx l then 9 else if 268435455 < (q636 l).length then 4 else 0
def q5aq(kind:Int)(l:List Pr):List UInt8×Nat:=
 if qpyu kind l≠0 then([],qpyu kind l) else(vb (q636 l).length (sz (q636 l).length)++q636 l,0)
def qwdr(kind:Int):Nat→List Pr→List UInt8→List Pr×Nat
 | 0,out,_=>(out,0)
 | f+1,out,s=>match s with
  | []=>(out,0)
  | b::r=>
   if mayP kind b.toNat=false then([],9)
   else if (qij7 b.toNat r).2.2≠0 then([],(qij7 b.toNat r).2.2)
   else if qr4y kind (qij7 b.toNat r).1≠0 then([],qr4y kind (qij7 b.toNat r).1)
   else if qxv1 kind out b.toNat then([],9)
   else if 1000≤out.length then([],4)
   else qwdr kind f (out++[(qij7 b.toNat r).1]) (r.drop (qij7 b.toNat r).2.1)
def qflw(kind:Int)(s:List UInt8):List Pr×Nat×Nat:=
 if rdE s≠0 then([],0,rdE s)
 else if s.length < rdN s+rdV s then([],0,3)
 else if (qwdr kind (rdV s) [] ((s.drop (rdN s)).take (rdV s))).2≠0 then([],0,(qwdr kind (rdV s) [] ((s.drop (rdN s)).take (rdV s))).2)
 else if qwyx (qwdr kind (rdV s) [] ((s.drop (rdN s)).take (rdV s))).1 then([],0,9)
 else((qwdr kind (rdV s) [] ((s.drop (rdN s)).take (rdV s))).1,rdN s+rdV s,0)
theorem qodo:q636 []=[]:=rfl
theorem qhx5(p:Pr)(l:List Pr):q636 (p::l)=oneP p++q636 l:=rfl
theorem qd67(a b:List Pr):q636 (a++b)=q636 a++q636 b:=by simp[q636]
theorem qnrl(p:Pr):(oneP p).length=(qgdb p).length+1:=rfl
theorem qk6g{kind:Int}{p:Pr}(h:mayP kind p.id=true):(((UInt8.ofNat p.id.toNat).toNat:Nat):Int)=p.id:=by
 have:=qilb h
 rw[UInt8.toNat_ofNat']
 omega
theorem qx4m(kind:Int):∀(l pre:List Pr) (f:Nat),q09m kind pre l=0→pre.length+l.length≤1000→(q636 l).length≤f→qwdr kind f pre (q636 l)=(pre++l,0)
 | [],pre,f,_,_,_=>by
  cases f with
  | zero=>simp[qwdr]
  | succ f=>simp[qwdr,qodo]
 | p::l,pre,f,he,hl,hf=>by
  rw[q09m] at he
  split at he
  ·rename_i h;exact absurd he h
  ·rename_i hc
   have hc:qr4y kind p=0:=by simpa using hc
   split at he
   ·cases he
   ·rename_i ht
    have hm:=(qo1o hc).1
    have hid:=qk6g hm
    rw[qhx5,List.length_append,qnrl] at hf
    cases f with
    | zero=>omega
    | succ f=>
     have hn:=qszc hc (q636 l)
     rw[qhx5]
     show qwdr kind (f+1) pre (UInt8.ofNat p.id.toNat::(qgdb p++q636 l))=_
     rw[qwdr]
     simp only[hid,hn,hm]
     rw[if_neg (by simp),if_neg (by simp),if_neg (by simp[hc]),if_neg ht,if_neg (by simp at hl;omega)]
     rw[List.drop_left,qx4m kind l (pre++[p]) f he (by simp at hl ⊢;omega) (by omega)]
     simp
theorem qpfx{kind:Int}{l:List Pr}(h:qpyu kind l=0):l.length≤1000∧q09m kind [] l=0∧qwyx l=false∧(q636 l).length≤268435455:=by
 unfold qpyu at h
 split at h
 ·cases h
 ·split at h
  ·rename_i h2;exact absurd h h2
  ·split at h
   ·cases h
   ·split at h
    ·cases h
    ·refine⟨by omega,by simp_all,by simp_all,by omega⟩
theorem qyqt{kind:Int}{l:List Pr}(h:qpyu kind l=0)(t:List UInt8):qflw kind ((q5aq kind l).1++t)=(l,(q5aq kind l).1.length,0):=by
 obtain⟨h1,h2,h3,h4⟩:=qpfx h
 have hb:(q5aq kind l).1=vb (q636 l).length (sz (q636 l).length)++q636 l:=by unfold q5aq;rw[if_neg (by simp[h])]
 rw[hb,List.append_assoc]
 have hr:=qvwp (q636 l).length h4 (q636 l++t)
 obtain⟨e1,e2,e3⟩:=qa1w hr
 simp only[if_true] at e1 e2
 have e3':rdE (vb (q636 l).length (sz (q636 l).length)++(q636 l++t))=0:=by rw[e3];rfl
 have e4:((vb (q636 l).length (sz (q636 l).length)++(q636 l++t)).drop (sz (q636 l).length)).take (q636 l).length=q636 l:=by
  rw[List.drop_append_of_le_length (by rw[q8sw];exact Nat.le_refl _),List.drop_of_length_le (by rw[q8sw];exact Nat.le_refl _),List.nil_append]
  simp
 unfold qflw
 rw[e1,e2,e3',e4,qx4m kind l [] _ h2 (by simpa using h1) (Nat.le_refl _)]
 simp only[ne_eq,not_true_eq_false,if_false,List.nil_append,h3,Bool.false_eq_true]
 rw[if_neg (by simp[q8sw])]
 simp[q8sw]
theorem qjrn{id:Int}{c k:Nat}{r:List UInt8}{p:Pr}(h:numP id c r=(p,k,0)):p=⟨id,num (r.take c),[],[]⟩∧k=c∧c≤r.length∧be (num (r.take c)) c=r.take c:=by
 unfold numP at h
 split at h
 ·simp at h
 ·rename_i hl
  simp only[Prod.mk.injEq,and_true] at h
  obtain⟨rfl,rfl⟩:=h
  refine⟨rfl,rfl,by omega,?_⟩
  have:=qz9g (r.take c)
  rwa [List.length_take,Nat.min_eq_left (by omega)] at this
theorem qkkc{data:Bool}{r t:List UInt8}{k:Nat}(h:q91e data r=(t,k,0)):r.take k=enc2 t∧k≤r.length∧k=(enc2 t).length∧(data=false→qecx t=true)∧t.length≤65535:=by
 unfold q91e at h
 rcases qsrz r with ⟨h1,h2,h3,h4,h5⟩ | h1
 ·rw[if_neg (by simp[h1])] at h
  split at h
  ·rename_i hv
   simp only[Prod.mk.injEq,and_true] at h
   obtain⟨rfl,rfl⟩:=h
   refine⟨h5,h3,by rw[qnp6];omega,fun e=>by simpa [e] using hv,by omega⟩
  ·simp at h
 ·rw[h1] at h;simp at h
theorem q5uz{id:Int}{r:List UInt8}{p:Pr}{k:Nat}(_hs:1≤qwgc id)(h:qij7 id r=(p,k,0)):p.id=id∧k≤r.length∧qgdb p=r.take k:=by
 unfold qij7 at h
 unfold qgdb
 by_cases s1:qwgc id=1
 ·rw[if_pos s1] at h
  obtain⟨rfl,rfl,hl,hb⟩:=qjrn h
  exact⟨rfl,hl,by simp only[s1,if_true];exact hb⟩
 by_cases s2:qwgc id=2
 ·rw[if_neg s1,if_pos s2] at h
  obtain⟨rfl,rfl,hl,hb⟩:=qjrn h
  exact⟨rfl,hl,by simp only[s2,if_true,show ¬(2:Nat)=1 by decide,if_false];exact hb⟩
 by_cases s3:qwgc id=3
 ·rw[if_neg s1,if_neg s2,if_pos s3] at h
  obtain⟨rfl,rfl,hl,hb⟩:=qjrn h
  exact⟨rfl,hl,by simp only[s3,if_true,show ¬(3:Nat)=1 by decide,show ¬(3:Nat)=2 by decide,if_false];exact hb⟩
 by_cases s4:qwgc id=4
 ·rw[if_neg s1,if_neg s2,if_neg s3,if_pos s4] at h
  split at h
  ·rename_i hne;simp only[Prod.mk.injEq] at h;exact absurd h.2.2 (by decide)
  ·rename_i hz
   simp only[Prod.mk.injEq,and_true] at h
   obtain⟨rfl,rfl⟩:=h
   obtain⟨v,n,st,hr⟩:∃v n st,run 0 0 r=(v,n,st):=⟨_,_,_,rfl⟩
   obtain⟨e1,e2,e3⟩:=qa1w hr
   have hst:st=1:=by
    rw[e3] at hz
    rcases qh9e r 0 0 with h0 | h0 | h0
    all_goals (rw[hr] at h0;simp only at h0;subst h0)
    ·simp at hz
    ·rfl
    ·simp at hz
   subst hst
   obtain⟨b1,b2,b3,b4⟩:=qvpf r v n hr
   simp only[if_true] at e1 e2
   rw[e1,e2]
   refine⟨rfl,b3,?_⟩
   simp only[s4,if_true,show ¬(4:Nat)=1 by decide,show ¬(4:Nat)=2 by decide,show ¬(4:Nat)=3 by decide,if_false]
   rw[←b2,b4]
 rw[if_neg s1,if_neg s2,if_neg s3,if_neg s4] at h
 by_cases s7:qwgc id=7
 ·rw[if_pos s7] at h
  split at h
  ·rename_i hne;simp only[Prod.mk.injEq] at h;exact absurd h.2.2 hne
  ·rename_i hz1
   split at h
   ·rename_i hne;simp only[Prod.mk.injEq] at h;exact absurd h.2.2 hne
   ·rename_i hz2
    simp only[Prod.mk.injEq,and_true] at h
    obtain⟨rfl,rfl⟩:=h
    simp only[ne_eq,Decidable.not_not] at hz1 hz2
    obtain⟨a1,a2,a3,_,_⟩:=qkkc (data:=false) (r:=r) (t:=(q91e false r).1) (k:=(q91e false r).2.1) (by rw[←hz1])
    obtain⟨c1,c2,c3,_,_⟩:=qkkc (data:=false) (r:=r.drop (q91e false r).2.1) (t:=(q91e false (r.drop (q91e false r).2.1)).1) (k:=(q91e false (r.drop (q91e false r).2.1)).2.1) (by rw[←hz2])
    rw[List.length_drop] at c2
    refine⟨rfl,by omega,?_⟩
    simp only[s7,if_true,show ¬(7:Nat)=1 by decide,show ¬(7:Nat)=2 by decide,show ¬(7:Nat)=3 by decide,show ¬(7:Nat)=4 by decide,if_false]
    rw[←a1,←c1,List.take_add]
 ·rw[if_neg s7] at h
  split at h
  ·rename_i hne;simp only[Prod.mk.injEq] at h;exact absurd h.2.2 hne
  ·rename_i hz1
   simp only[Prod.mk.injEq,and_true] at h
   obtain⟨rfl,rfl⟩:=h
   simp only[ne_eq,Decidable.not_not] at hz1
   obtain⟨a1,a2,a3,_,_⟩:=qkkc (data:=(qwgc id==6)) (r:=r) (t:=(q91e (qwgc id==6) r).1) (k:=(q91e (qwgc id==6) r).2.1) (by rw[←hz1])
   refine⟨rfl,a2,?_⟩
   show(if qwgc id=1 then _ else _)=_
   rw[if_neg s1,if_neg s2,if_neg s3,if_neg s4,if_neg s7]
   exact a1.symm
theorem qsu0(kind:Int):∀(f:Nat) (out:List Pr) (s:List UInt8) (l:List Pr),s.length≤f→out.length≤1000→qwdr kind f out s=(l,0)→∃m,l=out++m∧q09m kind out m=0∧q636 m=s∧l.length≤1000
 | 0,out,s,l,hf,ho,h=>by
  have:s=[]:=List.eq_nil_of_length_eq_zero (by omega)
  subst this
  simp only[qwdr,Prod.mk.injEq,and_true] at h
  subst h
  exact⟨[],by simp,rfl,rfl,ho⟩
 | f+1,out,[],l,hf,ho,h=>by
  simp only[qwdr,Prod.mk.injEq,and_true] at h
  subst h
  exact⟨[],by simp,rfl,rfl,ho⟩
 | f+1,out,b::r,l,hf,ho,h=>by
  rw[qwdr] at h
  split at h
  ·simp at h
  ·rename_i hm
   have hm:mayP kind b.toNat=true:=by simpa using hm
   split at h
   ·rename_i hne;simp only[Prod.mk.injEq] at h;exact absurd h.2 hne
   ·rename_i hn0
    split at h
    ·rename_i hne;simp only[Prod.mk.injEq] at h;exact absurd h.2 hne
    ·rename_i hc
     split at h
     ·simp at h
     ·rename_i ht
      split at h
      ·simp at h
      ·rename_i hl
       have hs1:=(qznl hm).1
       obtain⟨e1,e2,e3⟩:=q5uz (id:=b.toNat) (r:=r) (p:=(qij7 b.toNat r).1) (k:=(qij7 b.toNat r).2.1) hs1 (by
        have:(qij7 b.toNat r).2.2=0:=by simpa using hn0
        rw[←this])
       generalize (qij7 b.toNat r).1=p at *
       generalize (qij7 b.toNat r).2.1=k at *
       have hc:qr4y kind p=0:=by simpa using hc
       obtain⟨m,k1,k2,k3,k4⟩:=qsu0 kind f (out++[p]) (r.drop k) l (by rw[List.length_drop];simp at hf;omega) (by simp;omega) h
       refine⟨p::m,by rw[k1];simp,?_,?_,k4⟩
       ·rw[q09m,if_neg (by simp[hc]),e1,if_neg ht]
        exact k2
       ·rw[qhx5,k3]
        unfold oneP
        rw[e1,e3]
        simp
theorem qugf{kind:Int}{s:List UInt8}{l:List Pr}{n:Nat}(h:qflw kind s=(l,n,0)):qpyu kind l=0∧n≤s.length∧(q5aq kind l).1=s.take n:=by
 unfold qflw at h
 split at h
 ·rename_i hne;simp only[Prod.mk.injEq] at h;exact absurd h.2.2 hne
 ·rename_i h0
  split at h
  ·simp at h
  ·rename_i hle
   split at h
   ·rename_i hne;simp only[Prod.mk.injEq] at h;exact absurd h.2.2 hne
   ·rename_i hf
    split at h
    ·simp at h
    ·rename_i hlo
     simp only[Prod.mk.injEq,and_true] at h
     obtain⟨rfl,rfl⟩:=h
     obtain⟨v,c,st,hr⟩:∃v n st,run 0 0 s=(v,n,st):=⟨_,_,_,rfl⟩
     obtain⟨e1,e2,e3⟩:=qa1w hr
     have hst:st=1:=by
      rw[e3] at h0
      rcases qh9e s 0 0 with h1 | h1 | h1
      all_goals (rw[hr] at h1;simp only at h1;subst h1)
      ·simp at h0
      ·rfl
      ·simp at h0
     subst hst
     obtain⟨b1,b2,b3,b4⟩:=qvpf s v c hr
     simp only[if_true] at e1 e2
     rw[e1,e2] at hle hf hlo
     rw[e1,e2]
     obtain⟨m,k1,k2,k3,k4⟩:=qsu0 kind v [] ((s.drop c).take v) (qwdr kind v [] ((s.drop c).take v)).1 (by rw[List.length_take];omega) (by simp) (by
      have:(qwdr kind v [] ((s.drop c).take v)).2=0:=by simpa using hf
      rw[←this])
     rw[List.nil_append] at k1
     rw[k1] at hlo k4 ⊢
     have hlen:(q636 m).length=v:=by rw[k3,List.length_take,List.length_drop];omega
     have hv:qpyu kind m=0:=by
      unfold qpyu
      rw[if_neg (by omega),if_neg (by simp[k2]),if_neg hlo,if_neg (by omega)]
     refine⟨hv,by omega,?_⟩
     unfold q5aq
     rw[if_neg (by simp[hv])]
     show vb (q636 m).length (sz (q636 m).length)++q636 m=_
     rw[hlen,←b2,←b4,k3,List.take_add]
structure W4 where
 a:Nat
 b:Nat
 c:Nat
 d:Nat
def setc(s:W4)(n:Nat):W4:=
 if n < 64 then {s with a:=s.a ||| 2^(n%64)} else if n < 128 then {s with b:=s.b ||| 2^(n%64)} else if n < 192 then {s with c:=s.c ||| 2^(n%64)} else {s with d:=s.d ||| 2^(n%64)}
def addR(s:W4)(f:Nat):Nat→W4
 | 0=>s
 | n+1=>setc (addR s f n) (f+n)
def ofL(l:List Nat):W4:=l.foldl setc ⟨0,0,0,0⟩
def word(s:W4)(n:Nat):Nat:=if n < 64 then s.a else if n < 128 then s.b else if n < 192 then s.c else s.d
def hasW(s:W4)(n:Nat):Bool:=decide (n < 256)&&(word s n / 2^(n%64)%2==1)
structure OkW(s:W4):Prop where
 a:s.a < 18446744073709551616
 b:s.b < 18446744073709551616
 c:s.c < 18446744073709551616
 d:s.d < 18446744073709551616
theorem or_lt{x n:Nat}(hx:x < 18446744073709551616)(hn:n < 64):x ||| 2^n < 18446744073709551616:=
 Nat.or_lt_two_pow (n:=64) hx (Nat.pow_lt_pow_right (by decide) hn)
theorem OkW.setc{s:W4}(h:OkW s)(n:Nat):OkW (setc s n):=by
 have hn:n%64 < 64:=Nat.mod_lt _ (by decide)
 unfold Proofs.YtbklidpadffpgaaGreat.setc
 split
 ·exact⟨or_lt h.a hn,h.b,h.c,h.d⟩
 split
 ·exact⟨h.a,or_lt h.b hn,h.c,h.d⟩
 split
 ·exact⟨h.a,h.b,or_lt h.c hn,h.d⟩
 ·exact⟨h.a,h.b,h.c,or_lt h.d hn⟩
theorem OkW.addR{s:W4}(h:OkW s)(f:Nat):∀n,OkW (addR s f n)
 | 0=>h
 | n+1=>(OkW.addR h f n).setc _
theorem q4il:∀(l:List Nat) (s:W4),OkW s→OkW (l.foldl setc s)
 | [],_,h=>h
 | n::l,_,h=>q4il l _ (h.setc n)
theorem OkW.ofL(l:List Nat):OkW (ofL l):=q4il l _ ⟨by decide,by decide,by decide,by decide⟩
def grp(kind:Int):Nat:=
 if kind=2 then 1 else if kind=4∨kind=5 then 2 else if kind=6∨kind=7 then 3 else if kind=9 then 4 else if kind=11 then 5 else if kind=14 then 6 else if kind=15 then 7 else 0
def qedv:Nat→List Nat
 | 1=>[0,128,129,130,131,132,133,134,135,136,137,138,140,144,149,151,153,154,155,156,157,159]
 | 2=>[0,16,128,131,135,144,145,151,153]
 | 3=>[0,146]
 | 4=>[0,1,2,128,131,135,143,145,151,158,161,162]
 | 5=>[0,17,128,131,135,143,145]
 | 6=>[0,4,128,129,130,131,135,137,139,141,142,143,144,147,148,149,150,151,152,153,154,155,156,157,158,159,160,161,162]
 | 7=>[0,24,25]
 | _=>[]
def q71c:Nat→W4
 | 1=>addR (addR (ofL [0,140,144,149,151,159]) 128 11) 153 5
 | 2=>ofL [0,16,128,131,135,144,145,151,153]
 | 3=>ofL [0,146]
 | 4=>ofL [0,1,2,128,131,135,143,145,151,158,161,162]
 | 5=>ofL [0,17,128,131,135,143,145]
 | 6=>addR (addR (ofL [0,4,135,137,139,141,142,143,144]) 128 4) 147 16
 | 7=>ofL [0,24,25]
 | _=>⟨0,0,0,0⟩
theorem qljz(kind:Int):grp kind < 8:=by
 unfold grp
 repeat' (first | decide | split)
theorem qjuf:∀g,OkW (q71c g)
 | 0=>⟨by decide,by decide,by decide,by decide⟩
 | 1=>((OkW.ofL _).addR _ _).addR _ _
 | 2=>OkW.ofL _
 | 3=>OkW.ofL _
 | 4=>OkW.ofL _
 | 5=>OkW.ofL _
 | 6=>((OkW.ofL _).addR _ _).addR _ _
 | 7=>OkW.ofL _
 | n+8=>show OkW ⟨0,0,0,0⟩ from⟨by decide,by decide,by decide,by decide⟩
theorem qy5i:∀g < 8,∀n < 256,hasW (q71c g) n=(qedv g).contains n:=by decide+kernel
theorem q5yb:∀g < 8,∀n∈qedv g,n < 163:=by decide+kernel
theorem qi9u(kind:Int)(n:Nat):hasW (q71c (grp kind)) n=(qedv (grp kind)).contains n:=by
 by_cases hn:n < 256
 ·exact qy5i _ (qljz kind) n hn
 ·have h1:(qedv (grp kind)).contains n=false:=by
   rw[Bool.eq_false_iff]
   intro h
   have:=q5yb _ (qljz kind) n (List.contains_iff_mem.1 h)
   omega
  rw[h1]
  unfold hasW
  simp[hn]
def mayR(kind code:Int):Bool:=decide (0≤code)&&(qedv (grp kind)).contains code.toNat
def qulp(v:Int):Bool:=v==4 || v==5
def qfk9(v kind:Int)(l:List Pr):Nat:=if v=5 then qpyu kind l else 0
def qasq(v kind:Int)(l:List Pr):List UInt8:=if v=5 then(q5aq kind l).1 else []
def q1f4:List UInt8:=[77,81,84,84]
structure Cs where
 r:List UInt8
 e:Nat
def Cs.fail(s:Cs)(e:Nat):Cs:=if s.e≠0 then s else⟨s.r,e⟩
def Cs.take(s:Cs)(n:Nat):List UInt8×Cs:=if s.e≠0 then([],s) else if s.r.length < n then([],⟨s.r,3⟩) else(s.r.take n,⟨s.r.drop n,0⟩)
def Cs.num(s:Cs)(n:Nat):Nat×Cs:=(Go.Proofs.YtbklidpadffpgaaGreat.num (s.take n).1,(s.take n).2)
def Cs.text(s:Cs):List UInt8×Cs:=if s.e≠0 then([],s) else((rdT s.r).1,⟨s.r.drop (rdT s.r).2.1,(rdT s.r).2.2⟩)
def Cs.props(s:Cs)(v kind:Int):List Pr×Cs:=if s.e≠0∨v≠5 then([],s) else((qflw kind s.r).1,⟨s.r.drop (qflw kind s.r).2.1,(qflw kind s.r).2.2⟩)
theorem Cs.take_app{x t:List UInt8}{n:Nat}(h:x.length=n):(Cs.mk (x++t) 0).take n=(x,⟨t,0⟩):=by
 subst h
 simp[Cs.take]
theorem Cs.num_app{k c:Nat}{t:List UInt8}(h:k < 256^c):(Cs.mk (be k c++t) 0).num c=(k,⟨t,0⟩):=by
 rw[Cs.num,Cs.take_app (q0rl c k),q7wd,Nat.mod_eq_of_lt h]
theorem Cs.props_app{v kind:Int}{l:List Pr}{t:List UInt8}(h:qfk9 v kind l=0)(h4:v≠5→l=[]):(Cs.mk (qasq v kind l++t) 0).props v kind=(l,⟨t,0⟩):=by
 by_cases hv:v=5
 ·rw[qfk9,if_pos hv] at h
  have:=qyqt h t
  simp only[Cs.props,qasq,if_pos hv,this]
  simp[hv]
 ·rw[h4 hv]
  simp[Cs.props,qasq,hv]
def Cs.name(s:Cs):Cs:=if (s.take 6).2.e=0∧(s.take 6).1≠enc2 q1f4 then(s.take 6).2.fail 5 else(s.take 6).2
theorem Cs.one_app{k:Nat}{t:List UInt8}(h:k < 256):(Cs.mk ([UInt8.ofNat k]++t) 0).num 1=(k,⟨t,0⟩):=by
 have:(UInt8.ofNat k).toNat=k:=n8 h
 simp[Cs.num,Cs.take,Go.Proofs.YtbklidpadffpgaaGreat.num]
 omega
theorem Cs.fail_no{s:Cs}{e:Nat}(h:(s.fail e).e=0):s.e=0∧e=0:=by
 unfold Cs.fail at h
 split at h
 ·rename_i h1;exact absurd h h1
 ·rename_i h1;exact⟨by simpa using h1,h⟩
def qveh(x:Cs)(f:Nat):Cs:=(if x.e=0∧x.r≠[] then x.fail 5 else x).fail f
theorem qemw{s:Cs}{e:Nat}(h:(s.fail e).e=0):s.e=0∧e=0:=by
 unfold Cs.fail at h
 split at h
 ·rename_i h1;exact absurd h h1
 ·rename_i h1;exact⟨by simpa using h1,h⟩
def qzno(v kind code:Int)(l:List Pr):List UInt8:=
 if v=5∧(code≠0∨l≠[]) then UInt8.ofNat code.toNat::(if l≠[] then(q5aq kind l).1 else []) else []
def Cs.rest(s:Cs)(v kind:Int):(Nat×List Pr)×Cs:=
 if v≠5∨s.e≠0∨s.r=[] then((0,[]),s)
 else
  let c:=s.num 1
  let p:=if c.2.r=[] then([],c.2) else c.2.props v kind
  ((c.1,p.1),if p.2.e=0∧p.2.r=[]∧qzno v kind c.1 p.1≠s.r then p.2.fail 5 else p.2)
theorem qaiv{k c:Int}(h:mayR k c=true):0≤c∧c < 163:=by
 simp only[mayR,Bool.and_eq_true,decide_eq_true_eq] at h
 have:=q5yb (grp k) (qljz k) c.toNat (by simpa using h.2)
 omega
theorem qwnm{kind:Int}{l:List Pr}(h:qpyu kind l=0):(q5aq kind l).1≠[]:=by
 unfold q5aq
 rw[if_neg (by simp[h])]
 obtain⟨_,_,_,h4⟩:=qpfx h
 intro e
 have e:=congrArg List.length e
 rw[List.length_append,q8sw,List.length_nil] at e
 have:=qnl4 (q636 l).length h4
 omega
theorem q7a6{v k:Int}{c:Int}{l:List Pr}(h0:0≤c)(h1:c < 256)(h4:v≠5→c=0∧l=[])(hr:qfk9 v k l=0):(Cs.mk (qzno v k c l) 0).rest v k=((c.toNat,l),⟨[],0⟩):=by
 by_cases hv:v=5
 ·subst hv
  have hr:qpyu k l=0:=hr
  have e1:∀t,(Cs.mk (UInt8.ofNat c.toNat::t) 0).num 1=(c.toNat,⟨t,0⟩):=fun t=>Cs.one_app (by omega)
  have hc:((c.toNat:Nat):Int)=c:=by omega
  by_cases hl:l=[]
  ·subst hl
   by_cases hz:c=0
   ·subst hz;rfl
   ·have hs:qzno 5 k c []=[UInt8.ofNat c.toNat]:=by simp[qzno,hz]
    rw[hs]
    simp only[Cs.rest,e1,hc,if_true,hs]
    simp
  ·have hs:qzno 5 k c l=UInt8.ofNat c.toNat::(q5aq k l).1:=by simp[qzno,hl]
   have hp:(Cs.mk (q5aq k l).1 0).props 5 k=(l,⟨[],0⟩):=by
    have:=Cs.props_app (v:=5) (kind:=k) (l:=l) (t:=[]) hr (fun e=>absurd rfl e)
    rwa [qasq,if_pos rfl,List.append_nil] at this
   rw[hs]
   simp only[Cs.rest,e1,if_neg (qwnm hr),hp,hc,hs]
   simp
 ·obtain⟨rfl,rfl⟩:=h4 hv
  simp[Cs.rest,qzno,hv]
theorem q0lq{x:Cs}{f:Nat}(h:(qveh x f).e=0):x.e=0∧x.r=[]∧f=0:=by
 unfold qveh at h
 obtain⟨h1,h2⟩:=qemw h
 by_cases hx:x.e=0∧x.r≠[]
 ·rw[if_pos hx] at h1
  exact absurd (qemw h1).2 (by decide)
 ·rw[if_neg hx] at h1
  refine⟨h1,?_,h2⟩
  by_cases hr:x.r=[]
  ·exact hr
  ·exact absurd ⟨h1,hr⟩ hx
end Go.Proofs.YtbklidpadffpgaaGreat
