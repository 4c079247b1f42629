/- Plain facts on lists of properties: which are as they should be, their bytes, and what is read of bytes: each undoes the other. No condition. -/
import Derived.Test.YtbecggefmbpnoaaGreatDoorK03
namespace Go.Proofs.YtbecggefmbpnoaaGreatDoor
def hasP(l:List Pr)(id:Int):Bool:=l.any fun p=>p.id==id
def qxv1(kind:Int)(l:List Pr)(id:Int):Bool:=hasP l id&&!quux kind id
def qwyx(l:List Pr):Bool:=hasP l 22&&!hasP l 21
def oneP(p:Pr):List UInt8:=UInt8.ofNat p.id.toNat::qgdb p
def q636(l:List Pr):List UInt8:=l.flatMap oneP
def q09m(kind:Int):List Pr→List Pr→Nat
 | _,[]=>0
 | pre,p::l=>if qr4y kind p≠0 then qr4y kind p else if qxv1 kind pre p.id then 9 else q09m kind (pre++[p]) l
def qpyu(kind:Int)(l:List Pr):Nat:=
 if 1000 < l.length then 4 else if q09m kind [] l≠0 then q09m kind [] l else if qwyx l then 9 else if 268435455 < (q636 l).length then 4 else 0
def q5aq(kind:Int)(l:List Pr):List UInt8×Nat:=
 if qpyu kind l≠0 then([],qpyu kind l) else(vb (q636 l).length (sz (q636 l).length)++q636 l,0)
def qwdr(kind:Int):Nat→List Pr→List UInt8→List Pr×Nat
 | 0,out,_=>(out,0)
 | f+1,out,s=>match s with
  | []=>(out,0)
  | b::r=>
   if mayP kind b.toNat=false then([],9)
   else if (qij7 b.toNat r).2.2≠0 then([],(qij7 b.toNat r).2.2)
   else if qr4y kind (qij7 b.toNat r).1≠0 then([],qr4y kind (qij7 b.toNat r).1)
   else if qxv1 kind out b.toNat then([],9)
   else if 1000≤out.length then([],4)
   else qwdr kind f (out++[(qij7 b.toNat r).1]) (r.drop (qij7 b.toNat r).2.1)
def qflw(kind:Int)(s:List UInt8):List Pr×Nat×Nat:=
 if rdE s≠0 then([],0,rdE s)
 else if s.length < rdN s+rdV s then([],0,3)
 else if (qwdr kind (rdV s) [] ((s.drop (rdN s)).take (rdV s))).2≠0 then([],0,(qwdr kind (rdV s) [] ((s.drop (rdN s)).take (rdV s))).2)
 else if qwyx (qwdr kind (rdV s) [] ((s.drop (rdN s)).take (rdV s))).1 then([],0,9)
 else((qwdr kind (rdV s) [] ((s.drop (rdN s)).take (rdV s))).1,rdN s+rdV s,0)
theorem qodo:q636 []=[]:=rfl
theorem qhx5(p:Pr)(l:List Pr):q636 (p::l)=oneP p++q636 l:=rfl
theorem qd67(a b:List Pr):q636 (a++b)=q636 a++q636 b:=by simp[q636]
theorem qnrl(p:Pr):(oneP p).length=(qgdb p).length+1:=rfl
theorem qk6g{kind:Int}{p:Pr}(h:mayP kind p.id=true):(((UInt8.ofNat p.id.toNat).toNat:Nat):Int)=p.id:=by
 have:=qilb h
 rw[UInt8.toNat_ofNat']
 omega
theorem qx4m(kind:Int):∀(l pre:List Pr) (f:Nat),q09m kind pre l=0→pre.length+l.length≤1000→(q636 l).length≤f→qwdr kind f pre (q636 l)=(pre++l,0)
 | [],pre,f,_,_,_=>by
  cases f with
  | zero=>simp[qwdr]
  | succ f=>simp[qwdr,qodo]
 | p::l,pre,f,he,hl,hf=>by
  rw[q09m] at he
  split at he
  ·rename_i h;exact absurd he h
  ·rename_i hc
   have hc:qr4y kind p=0:=by simpa using hc
   split at he
   ·cases he
   ·rename_i ht
    have hm:=(qo1o hc).1
    have hid:=qk6g hm
    rw[qhx5,List.length_append,qnrl] at hf
    cases f with
    | zero=>omega
    | succ f=>
     have hn:=qszc hc (q636 l)
     rw[qhx5]
     show qwdr kind (f+1) pre (UInt8.ofNat p.id.toNat::(qgdb p++q636 l))=_
     rw[qwdr]
     simp only[hid,hn,hm]
     rw[if_neg (by simp),if_neg (by simp),if_neg (by simp[hc]),if_neg ht,if_neg (by simp at hl;omega)]
     rw[List.drop_left,qx4m kind l (pre++[p]) f he (by simp at hl ⊢;omega) (by omega)]
     simp
theorem qpfx{kind:Int}{l:List Pr}(h:qpyu kind l=0):l.length≤1000∧q09m kind [] l=0∧qwyx l=false∧(q636 l).length≤268435455:=by
 unfold qpyu at h
 split at h
 ·cases h
 ·split at h
  ·rename_i h2;exact absurd h h2
  ·split at h
   ·cases h
   ·split at h
    ·cases h
    ·refine⟨by omega,by simp_all,by simp_all,by omega⟩
theorem qyqt{kind:Int}{l:List Pr}(h:qpyu kind l=0)(t:List UInt8):qflw kind ((q5aq kind l).1++t)=(l,(q5aq kind l).1.length,0):=by
 obtain⟨h1,h2,h3,h4⟩:=qpfx h
 have hb:(q5aq kind l).1=vb (q636 l).length (sz (q636 l).length)++q636 l:=by unfold q5aq;rw[if_neg (by simp[h])]
 rw[hb,List.append_assoc]
 have hr:=qvwp (q636 l).length h4 (q636 l++t)
 obtain⟨e1,e2,e3⟩:=qa1w hr
 simp only[if_true] at e1 e2
 have e3':rdE (vb (q636 l).length (sz (q636 l).length)++(q636 l++t))=0:=by rw[e3];rfl
 have e4:((vb (q636 l).length (sz (q636 l).length)++(q636 l++t)).drop (sz (q636 l).length)).take (q636 l).length=q636 l:=by
  rw[List.drop_append_of_le_length (by rw[q8sw];exact Nat.le_refl _),List.drop_of_length_le (by rw[q8sw];exact Nat.le_refl _),List.nil_append]
  simp
 unfold qflw
 rw[e1,e2,e3',e4,qx4m kind l [] _ h2 (by simpa using h1) (Nat.le_refl _)]
 simp only[ne_eq,not_true_eq_false,if_false,List.nil_append,h3,Bool.false_eq_true]
 rw[if_neg (by simp[q8sw])]
 simp[q8sw]
theorem qjrn{id:Int}{c k:Nat}{r:List UInt8}{p:Pr}(h:numP id c r=(p,k,0)):p=⟨id,num (r.take c),[],[]⟩∧k=c∧c≤r.length∧be (num (r.take c)) c=r.take c:=by
 unfold numP at h
 split at h
 ·simp at h
 ·rename_i hl
  simp only[Prod.mk.injEq,and_true] at h
  obtain⟨rfl,rfl⟩:=h
  refine⟨rfl,rfl,by omega,?_⟩
  have:=qz9g (r.take c)
  rwa [List.length_take,Nat.min_eq_left (by omega)] at this
theorem qkkc{data:Bool}{r t:List UInt8}{k:Nat}(h:q91e data r=(t,k,0)):r.take k=enc2 t∧k≤r.length∧k=(enc2 t).length∧(data=false→qecx t=true)∧t.length≤65535:=by
 unfold q91e at h
 rcases qsrz r with ⟨h1,h2,h3,h4,h5⟩ | h1
 ·rw[if_neg (by simp[h1])] at h
  split at h
  ·rename_i hv
   simp only[Prod.mk.injEq,and_true] at h
   obtain⟨rfl,rfl⟩:=h
   refine⟨h5,h3,by rw[qnp6];omega,fun e=>by simpa [e] using hv,by omega⟩
  ·simp at h
 ·rw[h1] at h;simp at h
theorem q5uz{id:Int}{r:List UInt8}{p:Pr}{k:Nat}(_hs:1≤qwgc id)(h:qij7 id r=(p,k,0)):p.id=id∧k≤r.length∧qgdb p=r.take k:=by
 unfold qij7 at h
 unfold qgdb
 by_cases s1:qwgc id=1
 ·rw[if_pos s1] at h
  obtain⟨rfl,rfl,hl,hb⟩:=qjrn h
  exact⟨rfl,hl,by simp only[s1,if_true];exact hb⟩
 by_cases s2:qwgc id=2
 ·rw[if_neg s1,if_pos s2] at h
  obtain⟨rfl,rfl,hl,hb⟩:=qjrn h
  exact⟨rfl,hl,by simp only[s2,if_true,show ¬(2:Nat)=1 by decide,if_false];exact hb⟩
 by_cases s3:qwgc id=3
 ·rw[if_neg s1,if_neg s2,if_pos s3] at h
  obtain⟨rfl,rfl,hl,hb⟩:=qjrn h
  exact⟨rfl,hl,by simp only[s3,if_true,show ¬(3:Nat)=1 by decide,show ¬(3:Nat)=2 by decide,if_false];exact hb⟩
 by_cases s4:qwgc id=4
 ·rw[if_neg s1,if_neg s2,if_neg s3,if_pos s4] at h
  split at h
  ·rename_i hne;simp only[Prod.mk.injEq] at h;exact absurd h.2.2 (by decide)
  ·rename_i hz
   simp only[Prod.mk.injEq,and_true] at h
   obtain⟨rfl,rfl⟩:=h
   obtain⟨v,n,st,hr⟩:∃v n st,run 0 0 r=(v,n,st):=⟨_,_,_,rfl⟩
   obtain⟨e1,e2,e3⟩:=qa1w hr
   have hst:st=1:=by
    rw[e3] at hz
    rcases qh9e r 0 0 with h0 | h0 | h0
    all_goals (rw[hr] at h0;simp only at h0;subst h0)
    ·simp at hz
    ·rfl
    ·simp at hz
   subst hst
   obtain⟨b1,b2,b3,b4⟩:=qvpf r v n hr
   simp only[if_true] at e1 e2
   rw[e1,e2]
   refine⟨rfl,b3,?_⟩
   simp only[s4,if_true,show ¬(4:Nat)=1 by decide,show ¬(4:Nat)=2 by decide,show ¬(4:Nat)=3 by decide,if_false]
   rw[←b2,b4]
 rw[if_neg s1,if_neg s2,if_neg s3,if_neg s4] at h
 by_cases s7:qwgc id=7
 ·rw[if_pos s7] at h
  split at h
  ·rename_i hne;simp only[Prod.mk.injEq] at h;exact absurd h.2.2 hne
  ·rename_i hz1
   split at h
   ·rename_i hne;simp only[Prod.mk.injEq] at h;exact absurd h.2.2 hne
   ·rename_i hz2
    simp only[Prod.mk.injEq,and_true] at h
    obtain⟨rfl,rfl⟩:=h
    simp only[ne_eq,Decidable.not_not] at hz1 hz2
    obtain⟨a1,a2,a3,_,_⟩:=qkkc (data:=false) (r:=r) (t:=(q91e false r).1) (k:=(q91e false r).2.1) (by rw[←hz1])
    obtain⟨c1,c2,c3,_,_⟩:=qkkc (data:=false) (r:=r.drop (q91e false r).2.1) (t:=(q91e false (r.drop (q91e false r).2.1)).1) (k:=(q91e false (r.drop (q91e false r).2.1)).2.1) (by rw[←hz2])
    rw[List.length_drop] at c2
    refine⟨rfl,by omega,?_⟩
    simp only[s7,if_true,show ¬(7:Nat)=1 by decide,show ¬(7:Nat)=2 by decide,show ¬(7:Nat)=3 by decide,show ¬(7:Nat)=4 by decide,if_false]
    rw[←a1,←c1,List.take_add]
 ·rw[if_neg s7] at h
  split at h
  ·rename_i hne;simp only[Prod.mk.injEq] at h;exact absurd h.2.2 hne
  ·rename_i hz1
   simp only[Prod.mk.injEq,and_true] at h
   obtain⟨rfl,rfl⟩:=h
   simp only[ne_eq,Decidable.not_not] at hz1
   obtain⟨a1,a2,a3,_,_⟩:=qkkc (data:=(qwgc id==6)) (r:=r) (t:=(q91e (qwgc id==6) r).1) (k:=(q91e (qwgc id==6) r).2.1) (by rw[←hz1])
   refine⟨rfl,a2,?_⟩
   show(if qwgc id=1 then _ else _)=_
   rw[if_neg s1,if_neg s2,if_neg s3,if_neg s4,if_neg s7]
   exact a1.symm
theorem qsu0(kind:Int):∀(f:Nat) (out:List Pr) (s:List UInt8) (l:List Pr),s.length≤f→out.length≤1000→qwdr kind f out s=(l,0)→∃m,l=out++m∧q09m kind out m=0∧q636 m=s∧l.length≤1000
 | 0,out,s,l,hf,ho,h=>by
  have:s=[]:=List.eq_nil_of_length_eq_zero (by omega)
  subst this
  simp only[qwdr,Prod.mk.injEq,and_true] at h
  subst h
  exact⟨[],by simp,rfl,rfl,ho⟩
 | f+1,out,[],l,hf,ho,h=>by
  simp only[qwdr,Prod.mk.injEq,and_true] at h
  subst h
  exact⟨[],by simp,rfl,rfl,ho⟩
 | f+1,out,b::r,l,hf,ho,h=>by
  rw[qwdr] at h
  split at h
  ·simp at h
  ·rename_i hm
   have hm:mayP kind b.toNat=true:=by simpa using hm
   split at h
   ·rename_i hne;simp only[Prod.mk.injEq] at h;exact absurd h.2 hne
   ·rename_i hn0
    split at h
    ·rename_i hne;simp only[Prod.mk.injEq] at h;exact absurd h.2 hne
    ·rename_i hc
     split at h
     ·simp at h
     ·rename_i ht
      split at h
      ·simp at h
      ·rename_i hl
       have hs1:=(qznl hm).1
       obtain⟨e1,e2,e3⟩:=q5uz (id:=b.toNat) (r:=r) (p:=(qij7 b.toNat r).1) (k:=(qij7 b.toNat r).2.1) hs1 (by
        have:(qij7 b.toNat r).2.2=0:=by simpa using hn0
        rw[←this])
       generalize (qij7 b.toNat r).1=p at *
       generalize (qij7 b.toNat r).2.1=k at *
       have hc:qr4y kind p=0:=by simpa using hc
       obtain⟨m,k1,k2,k3,k4⟩:=qsu0 kind f (out++[p]) (r.drop k) l (by rw[List.length_drop];simp at hf;omega) (by simp;omega) h
       refine⟨p::m,by rw[k1];simp,?_,?_,k4⟩
       ·rw[q09m,if_neg (by simp[hc]),e1,if_neg ht]
        exact k2
       ·rw[qhx5,k3]
        unfold oneP
        rw[e1,e3]
        simp
theorem qugf{kind:Int}{s:List UInt8}{l:List Pr}{n:Nat}(h:qflw kind s=(l,n,0)):qpyu kind l=0∧n≤s.length∧(q5aq kind l).1=s.take n:=by
 unfold qflw at h
 split at h
 ·rename_i hne;simp only[Prod.mk.injEq] at h;exact absurd h.2.2 hne
 ·rename_i h0
  split at h
  ·simp at h
  ·rename_i hle
   split at h
   ·rename_i hne;simp only[Prod.mk.injEq] at h;exact absurd h.2.2 hne
   ·rename_i hf
    split at h
    ·simp at h
    ·rename_i hlo
     simp only[Prod.mk.injEq,and_true] at h
     obtain⟨rfl,rfl⟩:=h
     obtain⟨v,c,st,hr⟩:∃v n st,run 0 0 s=(v,n,st):=⟨_,_,_,rfl⟩
     obtain⟨e1,e2,e3⟩:=qa1w hr
     have hst:st=1:=by
      rw[e3] at h0
      rcases qh9e s 0 0 with h1 | h1 | h1
      all_goals (rw[hr] at h1;simp only at h1;subst h1)
      ·simp at h0
      ·rfl
      ·simp at h0
     subst hst
     obtain⟨b1,b2,b3,b4⟩:=qvpf s v c hr
     simp only[if_true] at e1 e2
     rw[e1,e2] at hle hf hlo
     rw[e1,e2]
     obtain⟨m,k1,k2,k3,k4⟩:=qsu0 kind v [] ((s.drop c).take v) (qwdr kind v [] ((s.drop c).take v)).1 (by rw[List.length_take];omega) (by simp) (by
      have:(qwdr kind v [] ((s.drop c).take v)).2=0:=by simpa using hf
      rw[←this])
     rw[List.nil_append] at k1
     rw[k1] at hlo k4 ⊢
     have hlen:(q636 m).length=v:=by rw[k3,List.length_take,List.length_drop];omega
     have hv:qpyu kind m=0:=by
      unfold qpyu
      rw[if_neg (by omega),if_neg (by simp[k2]),if_neg hlo,if_neg (by omega)]
     refine⟨hv,by omega,?_⟩
     unfold q5aq
     rw[if_neg (by simp[hv])]
     show vb (q636 m).length (sz (q636 m).length)++q636 m=_
     rw[hlen,←b2,←b4,k3,List.take_add]
end Go.Proofs.YtbecggefmbpnoaaGreatDoor
