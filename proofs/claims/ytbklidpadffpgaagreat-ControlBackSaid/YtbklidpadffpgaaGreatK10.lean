/- Plain facts on properties: which there are, who may have them, when one is as it should be, a list's bytes, and what is read of bytes. No condition. -/
import Derived.Test.YtbklidpadffpgaaGreatK04
import Derived.Test.YtbklidpadffpgaaGreatK09
namespace Go.Proofs.YtbklidpadffpgaaGreat
structure PRow where
 shape:Nat
 kinds:List Int
 least:Nat
 most:Nat
def prow(id:Int):PRow:=
 if id=1 then⟨1,[3,16],0,1⟩
 else if id=2 then⟨3,[3,16],0,4294967295⟩
 else if id=3∨id=8 then⟨5,[3,16],0,0⟩
 else if id=9 then⟨6,[3,16],0,0⟩
 else if id=11 then⟨4,[3,8],1,268435455⟩
 else if id=17 then⟨3,[1,2,14],0,4294967295⟩
 else if id=18∨id=26 then⟨5,[2],0,0⟩
 else if id=19 then⟨2,[2],0,65535⟩
 else if id=21 then⟨5,[1,2,15],0,0⟩
 else if id=22 then⟨6,[1,2,15],0,0⟩
 else if id=23∨id=25 then⟨1,[1],0,1⟩
 else if id=24 then⟨3,[16],0,4294967295⟩
 else if id=28 then⟨5,[2,14],0,0⟩
 else if id=31 then⟨5,[2,4,5,6,7,9,11,14,15],0,0⟩
 else if id=33 then⟨2,[1,2],1,65535⟩
 else if id=34 then⟨2,[1,2],0,65535⟩
 else if id=35 then⟨2,[3],1,65535⟩
 else if id=36∨id=37∨id=40∨id=41∨id=42 then⟨1,[2],0,1⟩
 else if id=38 then⟨7,[1,2,3,4,5,6,7,8,9,10,11,14,15,16],0,0⟩
 else if id=39 then⟨3,[1,2],1,4294967295⟩
 else⟨0,[],0,0⟩
def qwgc(id:Int):Nat:=(prow id).shape
def mayP(kind id:Int):Bool:=(prow id).kinds.contains kind
def quux(kind id:Int):Bool:=mayP kind id&&(id==38 || (id==11&&kind==3))
def qr4y(kind:Int)(p:Pr):Nat:=
 if mayP kind p.id=false then 9
 else if qwgc p.id≤4 then
  if p.text≠[]∨p.value≠[] then 2
  else if p.n < (prow p.id).least∨(prow p.id).most < p.n then 9
  else 0
 else if p.n≠0∨(qwgc p.id≠7∧p.value≠[]) then 2
 else if qwgc p.id=6 then(if 65535 < p.text.length then 2 else 0)
 else if qecx p.text=false∨qecx p.value=false then 6
 else if p.id=8∧q95c p.text=false then 9
 else 0
theorem q0dw{id:Int}(h:id < 1∨42 < id):prow id=⟨0,[],0,0⟩:=by
 unfold prow
 repeat rw[if_neg (by omega)]
theorem qoa5(P:Int→PRow→Bool)(h:(List.range 43).all (fun k=>P (k:Int) (prow (k:Int)))=true){id:Int}(hi:1≤id∧id≤42):P id (prow id)=true:=by
 have:=List.all_eq_true.1 h id.toNat (List.mem_range.2 (by omega))
 rwa [show((id.toNat:Nat):Int)=id by omega] at this
theorem qilb{kind id:Int}(h:mayP kind id=true):1≤id∧id≤42:=by
 rcases Int.lt_or_le id 1 with h1 | h1
 ·unfold mayP at h;rw[q0dw (.inl h1)] at h;simp at h
 ·rcases Int.lt_or_le 42 id with h2 | h2
  ·unfold mayP at h;rw[q0dw (.inr h2)] at h;simp at h
  ·exact⟨h1,h2⟩
theorem q06q{kind id:Int}(h:mayP kind id=true):(prow id).kinds≠[]:=by
 intro e
 unfold mayP at h
 rw[e] at h
 simp at h
theorem qznl{kind id:Int}(h:mayP kind id=true):1≤qwgc id∧qwgc id≤7∧(qwgc id=1→(prow id).most < 256)∧(qwgc id=2→(prow id).most < 65536)∧(qwgc id=3→(prow id).most < 4294967296)∧(qwgc id=4→(prow id).most≤268435455)∧(id=8→qwgc id=5):=by
 have:=qoa5 (fun i r=>r.kinds.isEmpty || (decide (1≤r.shape)&&decide (r.shape≤7)&&(decide (r.shape≠1) || decide (r.most < 256))&&(decide (r.shape≠2) || decide (r.most < 65536))&&(decide (r.shape≠3) || decide (r.most < 4294967296))&&(decide (r.shape≠4) || decide (r.most≤268435455))&&(decide (i≠8) || decide (r.shape=5)))) (by decide) (qilb h)
 have hk:=q06q h
 unfold qwgc
 generalize prow id=r at *
 simp only[Bool.or_eq_true,Bool.and_eq_true,decide_eq_true_eq,List.isEmpty_iff] at this
 rcases this with e | ⟨⟨⟨⟨⟨⟨h1,h2⟩,h3⟩,h4⟩,h5⟩,h6⟩,h7⟩
 ·exact absurd e hk
 ·exact⟨h1,h2,fun e=>h3.resolve_left (fun x=>x e),fun e=>h4.resolve_left (fun x=>x e),fun e=>h5.resolve_left (fun x=>x e),fun e=>h6.resolve_left (fun x=>x e),fun e=>h7.resolve_left (fun x=>x e)⟩
def qgdb(p:Pr):List UInt8:=
 if qwgc p.id=1 then be p.n 1 else if qwgc p.id=2 then be p.n 2 else if qwgc p.id=3 then be p.n 4
 else if qwgc p.id=4 then vb p.n (sz p.n) else if qwgc p.id=7 then enc2 p.text++enc2 p.value else enc2 p.text
def numP(id:Int)(c:Nat)(r:List UInt8):Pr×Nat×Nat:=if r.length < c then(⟨id,0,[],[]⟩,0,5) else(⟨id,num (r.take c),[],[]⟩,c,0)
def q91e(data:Bool)(r:List UInt8):List UInt8×Nat×Nat:=if (rdB r).2.2≠0 then([],0,5) else if data || qecx (rdB r).1 then((rdB r).1,(rdB r).2.1,0) else([],0,6)
def qij7(id:Int)(r:List UInt8):Pr×Nat×Nat:=
 if qwgc id=1 then numP id 1 r else if qwgc id=2 then numP id 2 r else if qwgc id=3 then numP id 4 r
 else if qwgc id=4 then(if rdE r≠0 then(⟨id,0,[],[]⟩,0,5) else(⟨id,rdV r,[],[]⟩,rdN r,0))
 else if qwgc id=7 then
  (
   if (q91e false r).2.2≠0 then(⟨id,0,[],[]⟩,0,(q91e false r).2.2)
   else if (q91e false (r.drop (q91e false r).2.1)).2.2≠0 then(⟨id,0,[],[]⟩,0,(q91e false (r.drop (q91e false r).2.1)).2.2)
   else(⟨id,0,(q91e false r).1,(q91e false (r.drop (q91e false r).2.1)).1⟩,(q91e false r).2.1+(q91e false (r.drop (q91e false r).2.1)).2.1,0))
 else if (q91e (qwgc id==6) r).2.2≠0 then(⟨id,0,[],[]⟩,0,(q91e (qwgc id==6) r).2.2) else(⟨id,0,(q91e (qwgc id==6) r).1,[]⟩,(q91e (qwgc id==6) r).2.1,0)
theorem qc92(l t:List UInt8)(h:l.length≤65535):rdB (enc2 l++t)=(l,(enc2 l).length,0):=by
 have hb:(be l.length 2).length=2:=q0rl 2 _
 have e1:(enc2 l++t).take 2=be l.length 2:=by unfold enc2;rw[List.append_assoc,List.take_append_of_le_length (by omega),List.take_of_length_le (by omega)]
 have e2:num (be l.length 2)=l.length:=by rw[q7wd];omega
 have e3:(enc2 l++t).drop 2=l++t:=by
  unfold enc2
  rw[List.append_assoc,List.drop_append_of_le_length (by omega),List.drop_of_length_le (by omega),List.nil_append]
 have e4:=qnp6 l
 unfold rdB
 rw[e1,e2,e3,if_pos (by rw[List.length_append,e4];omega),e4]
 simp
 omega
theorem qoqz(data:Bool)(l t:List UInt8)(h:l.length≤65535)(hv:(data || qecx l)=true):q91e data (enc2 l++t)=(l,(enc2 l).length,0):=by
 unfold q91e
 rw[qc92 l t h]
 simp only[ne_eq,not_true_eq_false,if_false]
 rw[if_pos hv]
theorem qt6m(id:Int)(n c:Nat)(t:List UInt8)(h:n < 256^c):numP id c (be n c++t)=(⟨id,n,[],[]⟩,c,0):=by
 have hb:(be n c).length=c:=q0rl c _
 unfold numP
 rw[if_neg (by rw[List.length_append];omega),List.take_append_of_le_length (by omega),List.take_of_length_le (by omega),q7wd,Nat.mod_eq_of_lt h]
theorem qo1o{kind:Int}{p:Pr}(h:qr4y kind p=0):mayP kind p.id=true∧
 (qwgc p.id≤4→p.text=[]∧p.value=[]∧(prow p.id).least≤p.n∧p.n≤(prow p.id).most)∧
 (4 < qwgc p.id→p.n=0∧(qwgc p.id≠7→p.value=[])∧(qwgc p.id=6→p.text.length≤65535)∧(qwgc p.id≠6→qecx p.text=true∧qecx p.value=true)):=by
 unfold qr4y at h
 by_cases hm:mayP kind p.id=true
 ·rw[if_neg (by simp[hm])] at h
  refine⟨hm,fun hs=>?_,fun hs=>?_⟩
  ·rw[if_pos hs] at h
   split at h
   ·cases h
   ·rename_i h1
    split at h
    ·cases h
    ·rename_i h2
     simp only[not_or,Decidable.not_not] at h1
     exact⟨h1.1,h1.2,by omega,by omega⟩
  ·rw[if_neg (by omega)] at h
   split at h
   ·cases h
   ·rename_i h1
    have h1a:p.n=0:=by
     rcases Nat.eq_zero_or_pos p.n with e | e
     ·exact e
     ·exact absurd (.inl (by omega)) h1
    have h1b:qwgc p.id≠7→p.value=[]:=fun e=>Classical.byContradiction fun x=>h1 (.inr ⟨e,x⟩)
    refine⟨h1a,h1b,fun e=>?_,fun e=>?_⟩
    ·rw[if_pos e] at h
     split at h
     ·cases h
     ·omega
    ·rw[if_neg e] at h
     split at h
     ·cases h
     ·rename_i h2
      simp only[not_or,Bool.not_eq_false] at h2
      exact h2
 ·rw[if_pos (by simpa using hm)] at h;cases h
theorem qszc{kind:Int}{p:Pr}(h:qr4y kind p=0)(t:List UInt8):qij7 p.id (qgdb p++t)=(p,(qgdb p).length,0):=by
 obtain⟨hm,h4,h5⟩:=qo1o h
 obtain⟨r1,r2,f1,f2,f3,f4,_⟩:=qznl hm
 obtain⟨id,n,text,value⟩:=p
 unfold qij7 qgdb
 simp only at *
 by_cases s1:qwgc id=1
 ·obtain⟨rfl,rfl,_,hn⟩:=h4 (by omega)
  simp only[s1,if_true]
  rw[qt6m id n 1 t (by have:=f1 s1;omega),q0rl]
 by_cases s2:qwgc id=2
 ·obtain⟨rfl,rfl,_,hn⟩:=h4 (by omega)
  simp only[s2,if_true,show ¬(2:Nat)=1 by decide,if_false]
  rw[qt6m id n 2 t (by have:=f2 s2;omega),q0rl]
 by_cases s3:qwgc id=3
 ·obtain⟨rfl,rfl,_,hn⟩:=h4 (by omega)
  simp only[s3,if_true,show ¬(3:Nat)=1 by decide,show ¬(3:Nat)=2 by decide,if_false]
  rw[qt6m id n 4 t (by have:=f3 s3;omega),q0rl]
 by_cases s4:qwgc id=4
 ·obtain⟨rfl,rfl,_,hn⟩:=h4 (by omega)
  simp only[s4,if_true,show ¬(4:Nat)=1 by decide,show ¬(4:Nat)=2 by decide,show ¬(4:Nat)=3 by decide,if_false]
  have hr:=qvwp n (by have:=f4 s4;omega) t
  obtain⟨e1,e2,e3⟩:=qa1w hr
  rw[e1,e2,e3]
  simp[q8sw]
 obtain⟨rfl,hv7,hv6,hvt⟩:=h5 (by omega)
 rw[if_neg s1,if_neg s2,if_neg s3,if_neg s4,if_neg s1,if_neg s2,if_neg s3,if_neg s4]
 by_cases s7:qwgc id=7
 ·obtain⟨v1,v2⟩:=hvt (by omega)
  have l1:=((qbv6 _).1 v1).1
  have l2:=((qbv6 _).1 v2).1
  rw[if_pos s7,if_pos s7,List.append_assoc]
  have e1:=qoqz false text (enc2 value++t) l1 (by simpa using v1)
  have e2:=qoqz false value t l2 (by simpa using v2)
  simp only[e1,e2,List.drop_left,ne_eq,not_true_eq_false,if_false,List.length_append]
 ·rw[if_neg s7,if_neg s7]
  have hv:=hv7 s7
  subst hv
  have hlt:text.length≤65535:=by
   by_cases s6:qwgc id=6
   ·exact hv6 s6
   ·exact((qbv6 _).1 (hvt s6).1).1
  have e1:=qoqz (qwgc id==6) text t hlt (by
   by_cases s6:qwgc id=6
   ·simp[s6]
   ·simp[(hvt s6).1])
  simp only[e1,ne_eq,not_true_eq_false,if_false]
end Go.Proofs.YtbklidpadffpgaaGreat
