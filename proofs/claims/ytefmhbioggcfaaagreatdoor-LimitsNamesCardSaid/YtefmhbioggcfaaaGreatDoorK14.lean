/- Plain facts: streams of MQTT packets: what is told of bytes, cut in whatever way. No condition. -/
import Derived.Deep.RegionLaw
import Derived.Test.YtefmhbioggcfaaaGreatDoorK12
namespace Go.Proofs.YtefmhbioggcfaaaGreatDoor
theorem q3yg:∀(l:List UInt8) (v n:Nat) (c:List UInt8),(run v n l).2.2≠0->run v n (l++c)=run v n l
 |[],v,n,c,h=>absurd rfl h
 |b::l,v,n,c,h=>by
  by_cases h0:nxt b (n+1)=0
  ·rw[qomx _ h0] at h;rw[List.cons_append,qomx _ h0,qomx _ h0];exact q3yg l _ _ c h
  ·rw[List.cons_append,q408 _ h0,q408 _ h0]
theorem q171{l:List UInt8}(c:List UInt8)(h:rdE l≠3):rdE (l++c)=rdE l/\rdV (l++c)=rdV l/\rdN (l++c)=rdN l:=by have hr:(run 0 0 l).2.2≠0:=fun e=>h (by unfold rdE;rw[if_pos e]);unfold rdE rdV rdN;rw[q3yg l 0 0 c hr];exact⟨rfl,rfl,rfl⟩
theorem qivj{v:Int}{l:List UInt8}(c:List UInt8)(h:(qday v l).2.2≠3):qday v (l++c)=qday v l:=by
 cases l with
 |nil=>
  rw[qwts] at h ⊢;cases hv:verH v with
  |true=>rw[hv] at h;exact absurd rfl h
  |false=>
   rw[List.nil_append];cases c with
   |nil=>rw[qwts,hv]
   |cons b r=>
    have:q9d8 v (q1f7 b)=2:=by unfold q9d8;rw[if_pos hv]
    rw[qr52,this]
    rfl
 |cons b r=>
  rw[qr52] at h;rw[List.cons_append,qr52,qr52];by_cases h1:q9d8 v (q1f7 b)≠0
  ·rw[if_pos h1,if_pos h1]
  ·rw[if_neg h1] at h;rw[if_neg h1,if_neg h1];by_cases h2:rdE r=3
   ·rw[h2] at h;exact absurd rfl h
   ·obtain⟨e1,e2,e3⟩:=q171 c h2;rw[e1,e2,e3]
theorem qajd{v:Int}{l:List UInt8}(h:(qday v l).2.2=0):1<=(qday v l).2.1/\(qday v l).2.1<=l.length/\0<=(qday v l).1.length:=by
 obtain⟨h1,h2,h3⟩:=qu5k h;refine⟨?_,h2,(qri3.1 h1).2.2.2.1⟩;cases l with
 |nil=>rw[qwts] at h;split at h<;>cases h
 |cons b r=>
  rw[qr52] at h ⊢;by_cases c1:q9d8 v (q1f7 b)≠0
  ·rw[if_pos c1] at h;exact absurd h c1
  rw[if_neg c1] at h ⊢;by_cases c2:rdE r≠0
  ·rw[if_pos c2] at h;exact absurd h c2
  rw[if_neg c2];simp only;omega
theorem q2j8{v:Int}{l:List UInt8}(c:List UInt8)(h:(qyib v l).2.2≠3):qyib v (l++c)=qyib v l:=by
 have hh:(qday v l).2.2≠3:=fun e=>h (by unfold qyib;simp only;rw[if_pos (by rw[e];decide),e]);unfold qyib at h ⊢;simp only[qivj c hh] at h ⊢;by_cases h1:(qday v l).2.2≠0
 ·rw[if_pos h1,if_pos h1]
 rw[if_neg h1] at h;rw[if_neg h1,if_neg h1];by_cases h2:((l.length-(qday v l).2.1:Nat):Int)<(qday v l).1.length
 ·rw[if_pos h2] at h;exact absurd rfl h
 rw[if_neg h2];obtain⟨_,a2,a3⟩:=qajd (Classical.byContradiction h1);rw[if_neg (by rw[List.length_append];omega),List.drop_append_of_le_length a2,List.take_append_of_le_length (by rw[List.length_drop];omega)]
def q7ku(v:Int)(m:Nat)(l:List UInt8):Pk×Nat×Nat:=
 if (qday v l).2.2≠0 then(Pk.zero,0,(qday v l).2.2) else if (m:Int)<((qday v l).2.1:Int)+(qday v l).1.length then(Pk.zero,0,4) else qyib v l
theorem q9df{v:Int}{m:Nat}{l:List UInt8}(c:List UInt8)(h:(q7ku v m l).2.2≠3):q7ku v m (l++c)=q7ku v m l:=by
 have hh:(qday v l).2.2≠3:=fun e=>h (by unfold q7ku;rw[if_pos (by rw[e];decide),e]);unfold q7ku at h ⊢;rw[qivj c hh];by_cases h1:(qday v l).2.2≠0
 ·rw[if_pos h1,if_pos h1]
 rw[if_neg h1] at h;rw[if_neg h1,if_neg h1];by_cases h2:(m:Int)<((qday v l).2.1:Int)+(qday v l).1.length
 ·rw[if_pos h2,if_pos h2]
 rw[if_neg h2] at h;rw[if_neg h2,if_neg h2];exact q2j8 c h
theorem qdsm{v:Int}{m:Nat}{l:List UInt8}(h:(q7ku v m l).2.2=0):1<=(q7ku v m l).2.1/\(q7ku v m l).2.1<=l.length/\(q7ku v m l).2.1<=m/\q7ku v m l=qyib v l:=by
 unfold q7ku at h ⊢;by_cases h1:(qday v l).2.2≠0
 ·rw[if_pos h1] at h;exact absurd h h1
 rw[if_neg h1] at h ⊢;by_cases h2:(m:Int)<((qday v l).2.1:Int)+(qday v l).1.length
 ·rw[if_pos h2] at h;cases h
 rw[if_neg h2] at h ⊢;obtain⟨a1,a2,a3⟩:=qajd (Classical.byContradiction h1);obtain⟨_,b1,_,b2⟩:=qwwt h;refine⟨?_,?_,?_,rfl⟩
 ·rw[b2];show 1<=_+_;omega
 ·rw[b2];show _+_<=_;omega
 ·rw[b2];show _+_<=_;omega
def goM(v:Int)(m:Nat):Nat->List UInt8->List Pk×List UInt8×Nat×Nat
 |0,l=>([],l,0,0)
 |k+1,l=>
  let r:=q7ku v m l
  if r.2.2=3 then([],l,0,0) else if r.2.2≠0 then([],[],0,r.2.2)
  else let a:=goM v m k (l.drop r.2.1)
   (r.1::a.1,a.2.1,r.2.1+a.2.2.1,a.2.2.2)
def goW(v:Int)(m:Nat)(l:List UInt8):List Pk×List UInt8×Nat×Nat:=goM v m (l.length+1) l
theorem qiik{v:Int}{m:Nat}:∀(k k':Nat) (l:List UInt8),l.length<k->l.length<k'->goM v m k l=goM v m k' l
 |0,_,l,h,_=>absurd h (Nat.not_lt_zero _)
 |_+1,0,l,_,h=>absurd h (Nat.not_lt_zero _)
 |k+1,k'+1,l,h,h'=>by
  rw[goM,goM];simp only;by_cases h3:(q7ku v m l).2.2=3
  ·rw[if_pos h3,if_pos h3]
  rw[if_neg h3,if_neg h3];by_cases h0:(q7ku v m l).2.2≠0
  ·rw[if_pos h0,if_pos h0]
  rw[if_neg h0,if_neg h0];obtain⟨a1,a2,_⟩:=qdsm (Classical.byContradiction h0);rw[qiik k k' (l.drop (q7ku v m l).2.1) (by rw[List.length_drop];omega) (by rw[List.length_drop];omega)]
theorem qc57{v:Int}{m:Nat}{l:List UInt8}(h:(q7ku v m l).2.2=3):goW v m l=([],l,0,0):=by unfold goW;rw[goM];simp only;rw[if_pos h]
theorem qcgl{v:Int}{m:Nat}{l:List UInt8}(h:(q7ku v m l).2.2≠3)(h0:(q7ku v m l).2.2≠0):goW v m l=([],[],0,(q7ku v m l).2.2):=by unfold goW;rw[goM];simp only;rw[if_neg h,if_pos h0]
theorem q6ca{v:Int}{m:Nat}{l:List UInt8}(h0:(q7ku v m l).2.2=0):goW v m l=((q7ku v m l).1::(goW v m (l.drop (q7ku v m l).2.1)).1,(goW v m (l.drop (q7ku v m l).2.1)).2.1,(q7ku v m l).2.1+(goW v m (l.drop (q7ku v m l).2.1)).2.2.1,(goW v m (l.drop (q7ku v m l).2.1)).2.2.2):=by obtain⟨a1,a2,_⟩:=qdsm h0;unfold goW;rw[goM];simp only;rw[if_neg (by omega),if_neg (by simpa using h0),qiik l.length ((l.drop (q7ku v m l).2.1).length+1) _ (by rw[List.length_drop];omega) (Nat.lt_succ_self _)]
theorem qszy{v:Int}{m:Nat}(c:List UInt8):∀(n:Nat) (l:List UInt8),l.length<=n->goW v m (l++c)=if (goW v m l).2.2.2≠0 then goW v m l else
 ((goW v m l).1++(goW v m ((goW v m l).2.1++c)).1,(goW v m ((goW v m l).2.1++c)).2.1,(goW v m l).2.2.1+(goW v m ((goW v m l).2.1++c)).2.2.1,(goW v m ((goW v m l).2.1++c)).2.2.2):=by
 intro n
 induction n with
 |zero=>
  intro l hl;obtain rfl:l=[]:=List.length_eq_zero_iff.1 (by omega);by_cases h3:(q7ku v m []).2.2=3
  ·rw[qc57 h3,if_neg (by simp),List.nil_append];simp
  ·by_cases h0:(q7ku v m []).2.2=0
   ·obtain⟨a1,a2,_⟩:=qdsm h0;simp at a2;omega
   ·rw[qcgl (l:=[]++c) (by rw[q9df c h3];exact h3) (by rw[q9df c h3];exact h0),q9df c h3,qcgl h3 h0,if_pos h0]
 |succ n ih=>
  intro l hl;by_cases h3:(q7ku v m l).2.2=3
  ·rw[qc57 h3,if_neg (by simp)];simp
  by_cases h0:(q7ku v m l).2.2=0
  ·obtain⟨a1,a2,_⟩:=qdsm h0;have e:=q9df c h3;have h0':(q7ku v m (l++c)).2.2=0:=by rw[e];exact h0
   rw[q6ca h0',e,q6ca h0,List.drop_append_of_le_length a2,ih (l.drop (q7ku v m l).2.1) (by rw[List.length_drop];omega)];simp only;by_cases he:(goW v m (l.drop (q7ku v m l).2.1)).2.2.2≠0
   ·rw[if_pos he,if_pos he]
   ·rw[if_neg he,if_neg he];simp[Nat.add_assoc]
  ·rw[qcgl (l:=l++c) (by rw[q9df c h3];exact h3) (by rw[q9df c h3];exact h0),q9df c h3,qcgl h3 h0,if_pos h0]
end Go.Proofs.YtefmhbioggcfaaaGreatDoor
namespace Go.Proofs.YtefmhbioggcfaaaGreatDoor
open Go.RowKit
theorem qrfq{P:Program}{W:World}{ops:Array Oper}{rest:List Oper}{o:Oper}{a:Act}{Q:Exit->Act->World->Prop}(hgd:o.guard=none)(s x:Operand)(t u:TypeId)
 (ho:o.op=.call {callee := .builtin .append,args:=#[s,x],argTypes:=#[t,u]}) {y sl y':Value} {W':World} (hs:a.eval s=y) (hx:a.eval x=sl)
 (hr:(Builtin.append_ #[t,u] o.type #[y,sl]).run P W=.ok y' W') (h:wpList P ops Q rest (a.put o.dst y') W'):wpList P ops Q (o::rest) a W:=by
 refine wpList_plain hgd fun K hK=>?_;unfold Oper.wp execOp;simp only[ho,resolve,invoke,builtin,Sem.run_bind,Sem.run_pure,Result.andThen_ok,List.map_toArray,List.map_cons,List.map_nil,hs,hx,hr];exact hK _ _ h
end Go.Proofs.YtefmhbioggcfaaaGreatDoor
namespace Go.Proofs.YtefmhbioggcfaaaGreatDoor
def qexp(v:Int)(m:Nat)(l:List UInt8):Nat:=
 if (qday v l).2.2=0/\((qday v l).2.1:Int)+(qday v l).1.length<=(m:Int) then(qday v l).2.1+(qday v l).1.length.toNat else 0
theorem qrm4{v:Int}{m:Nat}{l:List UInt8}(h:qexp v m l=0):¬((qday v l).2.2=0/\((qday v l).2.1:Int)+(qday v l).1.length<=(m:Int)):=fun hc=>by
 unfold qexp at h;rw[if_pos hc] at h
 have:=qajd hc.1
 omega
theorem qelz{v:Int}{m:Nat}{l:List UInt8}(h:qexp v m l≠0):(qday v l).2.2=0/\((qday v l).2.1:Int)+(qday v l).1.length<=(m:Int)/\qexp v m l=(qday v l).2.1+(qday v l).1.length.toNat/\q7ku v m l=qyib v l:=by
 unfold qexp at h ⊢;split at h
 ·rename_i hc;rw[if_pos hc];refine⟨hc.1,hc.2,rfl,?_⟩;unfold q7ku;rw[if_neg (by rw[hc.1];simp),if_neg (by omega)]
 ·exact absurd rfl h
theorem q237{v:Int}{m:Nat}{l:List UInt8}(h:qexp v m l≠0)(hl:l.length<qexp v m l):q7ku v m l=(Pk.zero,0,3):=by obtain⟨h1,h2,h3,h4⟩:=qelz h;obtain⟨a1,a2,a3⟩:=qajd h1;rw[h4];unfold qyib;simp only;rw[if_neg (by rw[h1];simp),if_pos (by omega)]
theorem qzs6{v:Int}{m:Nat}{l:List UInt8}(h:qexp v m l≠0)(hl:qexp v m l<=l.length):qyib v (l.take (qexp v m l))=q7ku v m l/\(q7ku v m l).2.2≠3/\((q7ku v m l).2.2=0->(q7ku v m l).2.1=qexp v m l):=by
 obtain⟨h1,h2,h3,h4⟩:=qelz h;obtain⟨a1,a2,a3⟩:=qajd h1;obtain⟨b1,b2,b3⟩:=qu5k h1;obtain⟨t,ht⟩:∃t,(l.drop (qday v l).2.1).take (qexp v m l-(qday v l).2.1)=t:=⟨_,rfl⟩
 have hT:l.take (qexp v m l)=rawH (qday v l).1++t:=by
  rw[b3,<-ht]
  conv=>lhs;rw[show qexp v m l=(qday v l).2.1+(qexp v m l-(qday v l).2.1) by omega,List.take_add]
 have hlen:(rawH (qday v l).1).length=(qday v l).2.1:=by rw[b3,List.length_take];omega
 have hH:qday v (l.take (qexp v m l))=qday v l:=by rw[hT,qzlb b1 t,hlen,<-h1]
 have hN:(qyib v (l.take (qexp v m l))).2.2≠3:=by
  unfold qyib;simp only;rw[hH,if_neg (by rw[h1];simp),if_neg (by rw[List.length_take];omega)];split
  ·simp only;split
   ·simp
   ·assumption
  ·simp
 have hA:=q2j8 (l.drop (qexp v m l)) hN;rw[List.take_append_drop] at hA;refine⟨by rw[h4,hA],by rw[h4,hA];exact hN,fun h0=>?_⟩;rw[h4] at h0 ⊢;rw[(qwwt h0).2.2.2,h3]
theorem qdul{v:Int}{m:Nat}{l:List UInt8}(h:(qday v l).2.2≠0):q7ku v m l=(Pk.zero,0,(qday v l).2.2)/\qexp v m l=0:=by unfold q7ku qexp;rw[if_pos h,if_neg (fun hc=>h hc.1)];exact⟨rfl,rfl⟩
theorem qe5z{v:Int}{m:Nat}{l:List UInt8}(h:(qday v l).2.2=0)(h2:(m:Int)<((qday v l).2.1:Int)+(qday v l).1.length):q7ku v m l=(Pk.zero,0,4)/\qexp v m l=0:=by unfold q7ku qexp;rw[if_neg (by rw[h];simp),if_pos h2,if_neg (fun hc=>by omega)];exact⟨rfl,rfl⟩
theorem qnyoi{v:Int}{m:Nat}{l:List UInt8}(h:(q7ku v m l).2.2=0):qexp v m l≠0/\qexp v m l<=l.length/\(q7ku v m l).2.1=qexp v m l/\1<=qexp v m l:=by
 have h0:qexp v m l≠0:=by
  intro h0;by_cases h1:(qday v l).2.2=0
  ·have h2:=qrm4 h0;rw[(qe5z h1 (by omega)).1] at h;cases h
  ·rw[(qdul h1).1] at h;exact h1 h
 by_cases hl:l.length<qexp v m l
 ·rw[q237 h0 hl] at h;cases h
 ·exact⟨h0,by omega,(qzs6 h0 (by omega)).2.2 h,by omega⟩
theorem q2fk{v:Int}{m:Nat}:∀(n:Nat) (l:List UInt8),l.length<=n->(goW v m l).2.2.2=0->(q7ku v m (goW v m l).2.1).2.2=3:=by
 intro n
 induction n with
 |zero=>
  intro l hl;obtain rfl:l=[]:=List.length_eq_zero_iff.1 (by omega);by_cases h3:(q7ku v m []).2.2=3
  ·rw[qc57 h3];intro _;exact h3
  ·by_cases h0:(q7ku v m []).2.2=0
   ·obtain⟨a1,a2,_⟩:=qdsm h0;simp at a2;omega
   ·rw[qcgl h3 h0];intro h;exact absurd h h0
 |succ n ih=>
  intro l hl;by_cases h3:(q7ku v m l).2.2=3
  ·rw[qc57 h3];intro _;exact h3
  by_cases h0:(q7ku v m l).2.2=0
  ·obtain⟨a1,a2,_⟩:=qdsm h0;rw[q6ca h0];exact ih _ (by rw[List.length_drop];omega)
  ·rw[qcgl h3 h0];intro h;exact absurd h h0
theorem qlnb{v:Int}{m:Nat}:∀(n:Nat) (l:List UInt8),l.length<=n->(goW v m l).2.2.2≠0->(goW v m l).2.1=[]:=by
 intro n
 induction n with
 |zero=>
  intro l hl;obtain rfl:l=[]:=List.length_eq_zero_iff.1 (by omega);by_cases h3:(q7ku v m []).2.2=3
  ·rw[qc57 h3];intro _;rfl
  ·by_cases h0:(q7ku v m []).2.2=0
   ·obtain⟨a1,a2,_⟩:=qdsm h0;simp at a2;omega
   ·rw[qcgl h3 h0];intro _;rfl
 |succ n ih=>
  intro l hl;by_cases h3:(q7ku v m l).2.2=3
  ·rw[qc57 h3];intro h;exact absurd rfl h
  by_cases h0:(q7ku v m l).2.2=0
  ·obtain⟨a1,a2,_⟩:=qdsm h0;rw[q6ca h0];exact ih _ (by rw[List.length_drop];omega)
  ·rw[qcgl h3 h0];intro _;rfl
theorem qkiq{v:Int}{m n q:Nat}{l K:List UInt8}{L:List Pk}(h:goW v m l=(L,K,n,q))(hq:q≠0):K=[]:=by
 have:=qlnb (v:=v) (m:=m) _ l (Nat.le_refl _)
 rw[h] at this;exact this hq
theorem qqsp{v:Int}{m:Nat}:∀(n:Nat) (l:List UInt8),l.length<=n->(goW v m l).2.1.length+(goW v m l).2.2.1<=l.length/\(goW v m l).1.length<=(goW v m l).2.2.1:=by
 intro n
 induction n with
 |zero=>
  intro l hl;obtain rfl:l=[]:=List.length_eq_zero_iff.1 (by omega);by_cases h3:(q7ku v m []).2.2=3
  ·rw[qc57 h3];simp
  ·by_cases h0:(q7ku v m []).2.2=0
   ·obtain⟨a1,a2,_⟩:=qdsm h0;simp at a2;omega
   ·rw[qcgl h3 h0];simp
 |succ n ih=>
  intro l hl;by_cases h3:(q7ku v m l).2.2=3
  ·rw[qc57 h3];simp
  by_cases h0:(q7ku v m l).2.2=0
  ·obtain⟨a1,a2,_⟩:=qdsm h0
   have:=ih (l.drop (q7ku v m l).2.1) (by rw[List.length_drop];omega)
   rw[List.length_drop] at this;rw[q6ca h0];simp only[List.length_cons];omega
  ·rw[qcgl h3 h0];simp
end Go.Proofs.YtefmhbioggcfaaaGreatDoor
