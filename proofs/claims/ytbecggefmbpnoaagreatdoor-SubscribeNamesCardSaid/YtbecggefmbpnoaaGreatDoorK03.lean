/- Plain facts: the bytes of a number and the number of bytes, the highest first: each undoes the other. No condition. -/
import Derived.Lib.Hide
import Derived.Test.YtbecggefmbpnoaaGreatDoorK02
namespace Go.Proofs.YtbecggefmbpnoaaGreatDoor
def be(n:Nat):Nat→List UInt8
 | 0=>[]
 | c+1=>be (n / 256) c++[UInt8.ofNat n]
theorem q0rl(c:Nat):∀n,(be n c).length=c:=by
 induction c with
 | zero=>intro n;rfl
 | succ c ih=>intro n;simp[be,ih]
theorem qxkn(n c k:Nat)(hk:k < c):be (n / 256^(c - (k+1))) (k+1)=be (n / 256^(c - k)) k++[UInt8.ofNat (n / 256^(c - (k+1)))]:=by
 have e:c - k=(c - (k+1))+1:=by omega
 rw[be,e,Nat.pow_succ,Nat.div_div_eq_div_mul]
def num(l:List UInt8):Nat:=l.foldl (fun a b=>a*256+b.toNat) 0
theorem q4zn(l:List UInt8)(b:UInt8):num (l++[b])=num l*256+b.toNat:=by simp[num]
theorem qn9h(l:List UInt8):num l < 256^l.length:=by
 have key:∀(k:Nat) (l:List UInt8),l.length=k→num l < 256^k:=by
  intro k
  induction k with
  | zero=>intro l h;have:l=[]:=List.eq_nil_of_length_eq_zero h;subst this;decide
  | succ k ih=>
   intro l h
   rcases List.eq_nil_or_concat l with rfl | ⟨l',b,rfl⟩
   ·simp at h
   ·simp at h
    have:=ih l' h
    have hb:=b.toNat_lt
    rw[List.concat_eq_append,q4zn,Nat.pow_succ]
    omega
 exact key _ l rfl
theorem qz9g(l:List UInt8):be (num l) l.length=l:=by
 have key:∀(k:Nat) (l:List UInt8),l.length=k→be (num l) k=l:=by
  intro k
  induction k with
  | zero=>intro l h;have:l=[]:=List.eq_nil_of_length_eq_zero h;subst this;rfl
  | succ k ih=>
   intro l h
   rcases List.eq_nil_or_concat l with rfl | ⟨l',b,rfl⟩
   ·simp at h
   ·simp at h
    have hb:=b.toNat_lt
    rw[List.concat_eq_append,q4zn,be]
    have e:(num l'*256+b.toNat) / 256=num l':=by omega
    rw[e,ih l' h]
    congr 2
    apply UInt8.toNat_inj.1
    rw[UInt8.toNat_ofNat']
    omega
 exact key _ l rfl
def enc2(l:List UInt8):List UInt8:=be l.length 2++l
theorem qnp6(l:List UInt8):(enc2 l).length=l.length+2:=by simp[enc2,q0rl];omega
theorem qpeh(l:List UInt8):num (l.take 2) < 65536:=by
 have h:=qn9h (l.take 2)
 have hl:(l.take 2).length≤2:=by simp;omega
 have:=Nat.pow_le_pow_right (show 0 < 256 by decide) hl
 omega
def rdB(l:List UInt8):List UInt8×Nat×Nat:=
 if 2≤l.length∧2+num (l.take 2)≤l.length then((l.drop 2).take (num (l.take 2)),2+num (l.take 2),0) else([],0,3)
def rdT(l:List UInt8):List UInt8×Nat×Nat:=
 if (rdB l).2.2≠0 then([],0,3) else if qecx (rdB l).1 then rdB l else([],0,6)
theorem qsrz(l:List UInt8):((rdB l).2.2=0∧(rdB l).1.length+2=(rdB l).2.1∧(rdB l).2.1≤l.length∧(rdB l).2.1 < 65538∧l.take (rdB l).2.1=enc2 (rdB l).1)∨rdB l=([],0,3):=by
 unfold rdB
 split
 ·rename_i h
  refine .inl ⟨rfl,?_,h.2,by have:=qpeh l;simp;omega,?_⟩
  ·simp;omega
  ·have hl:((l.drop 2).take (num (l.take 2))).length=num (l.take 2):=by simp;omega
   have hb:=qz9g (l.take 2)
   have h2:(l.take 2).length=2:=by simp;omega
   rw[h2] at hb
   show l.take (2+num (l.take 2))=enc2 _
   rw[enc2,hl,hb,List.take_add]
 ·exact .inr rfl
def nxt(b:UInt8)(n:Nat):Nat:=if 128≤b.toNat then(if n=4 then 2 else 0) else if b.toNat=0∧1 < n then 2 else 1
def grow(v n:Nat)(b:UInt8):Nat:=v+b.toNat%128*128^n
def run(v n:Nat):List UInt8→Nat×Nat×Nat
 | []=>(v,n,0)
 | b::l=>if nxt b (n+1)=0 then run (grow v n b) (n+1) l else(grow v n b,n+1,nxt b (n+1))
theorem qlf0(b:UInt8)(n:Nat):nxt b n=0∨nxt b n=1∨nxt b n=2:=by
 unfold nxt;split<;>split<;>simp
theorem qv8z{b:UInt8}{n:Nat}:nxt b n=0↔128≤b.toNat∧n≠4:=by
 unfold nxt;split<;>split<;>simp_all
 all_goals omega
theorem qicf{b:UInt8}{n:Nat}:nxt b n=1↔b.toNat < 128∧(0 < b.toNat∨n≤1):=by
 unfold nxt;split<;>split<;>simp_all<;>omega
theorem qt6b{b:UInt8}{n:Nat}:nxt b n=2↔(128≤b.toNat∧n=4)∨(b.toNat=0∧1 < n):=by
 unfold nxt;split<;>split<;>simp_all<;>omega
theorem qpfr{v n:Nat}(b:UInt8)(h:v < 128^n):grow v n b < 128^(n+1):=by
 unfold grow
 have h1:b.toNat%128≤127:=by omega
 have h2:b.toNat%128*128^n≤127*128^n:=Nat.mul_le_mul_right _ h1
 rw[Nat.pow_succ]
 omega
theorem qomx{v n:Nat}{b:UInt8}(l:List UInt8)(h:nxt b (n+1)=0):run v n (b::l)=run (grow v n b) (n+1) l:=by simp[run,h]
theorem q408{v n:Nat}{b:UInt8}(l:List UInt8)(h:nxt b (n+1)≠0):run v n (b::l)=(grow v n b,n+1,nxt b (n+1)):=by simp[run,h]
theorem qh9e:∀(l:List UInt8) (v n:Nat),(run v n l).2.2=0∨(run v n l).2.2=1∨(run v n l).2.2=2:=by
 intro l
 induction l with
 | nil=>intro v n;simp[run]
 | cons a l ih=>
  intro v n
  by_cases h0:nxt a (n+1)=0
  ·rw[qomx _ h0];exact ih _ _
  ·rw[q408 _ h0];exact qlf0 _ _
def rdV(l:List UInt8):Nat:=if (run 0 0 l).2.2=1 then(run 0 0 l).1 else 0
def rdN(l:List UInt8):Nat:=if (run 0 0 l).2.2=1 then(run 0 0 l).2.1 else 0
def rdE(l:List UInt8):Nat:=if (run 0 0 l).2.2=0 then 3 else if (run 0 0 l).2.2=1 then 0 else 5
theorem qa1w{l:List UInt8}{v n st:Nat}(h:run 0 0 l=(v,n,st)):rdV l=(if st=1 then v else 0)∧rdN l=(if st=1 then n else 0)∧rdE l=if st=0 then 3 else if st=1 then 0 else 5:=by
 simp[rdV,rdN,rdE,h]
def sz(n:Int):Nat:=if n < 0∨268435455 < n then 0 else if n < 128 then 1 else if n < 16384 then 2 else if n < 2097152 then 3 else 4
def byt(n c i:Nat):UInt8:=UInt8.ofNat (n / 128^i%128+if i+1 < c then 128 else 0)
def vb(n c:Nat):List UInt8:=(List.range c).map (byt n c)
theorem q8sw(n c:Nat):(vb n c).length=c:=by simp[vb]
theorem qa5k(n c i:Nat):(byt n c i).toNat=n / 128^i%128+if i+1 < c then 128 else 0:=by
 unfold byt
 have:n / 128^i%128 < 128:=Nat.mod_lt _ (by decide)
 simp only[UInt8.toNat_ofNat']
 split<;>omega
theorem qnl4(n:Nat)(h:n≤268435455):(sz n=1∧n < 128)∨(sz n=2∧128≤n∧n < 16384)∨(sz n=3∧16384≤n∧n < 2097152)∨(sz n=4∧2097152≤n):=by
 unfold sz;split
 ·omega
 ·split
  ·omega
  ·split
   ·omega
   ·split<;>omega
theorem qbck{n:Int}:sz n=0↔n < 0∨268435455 < n:=by
 unfold sz;split
 ·simp[*]
 ·split
  ·simp[*]
  ·split
   ·simp[*]
   ·split<;>simp[*]
theorem qvpf(l:List UInt8)(v n:Nat)(h:run 0 0 l=(v,n,1)):v≤268435455∧n=sz v∧n≤l.length∧l.take n=vb v n:=by
 have ofb:∀(a:UInt8) (x c i:Nat),a.toNat=(x / 128^i%128+if i+1 < c then 128 else 0)→a=byt x c i:=fun a x c i e=>UInt8.toNat_inj.1 (by rw[qa5k,e])
 cases l with
 | nil=>simp[run] at h
 | cons a l=>
  have ha:=a.toNat_lt
  by_cases ha0:nxt a (0+1)=0
  ·rw[qomx _ ha0] at h
   have ha1:=(qv8z.1 ha0).1
   cases l with
   | nil=>simp[run] at h
   | cons b l=>
    have hb:=b.toNat_lt
    by_cases hb0:nxt b (0+1+1)=0
    ·rw[qomx _ hb0] at h
     have hb1:=(qv8z.1 hb0).1
     cases l with
     | nil=>simp[run] at h
     | cons c l=>
      have hc:=c.toNat_lt
      by_cases hc0:nxt c (0+1+1+1)=0
      ·rw[qomx _ hc0] at h
       have hc1:=(qv8z.1 hc0).1
       cases l with
       | nil=>simp[run] at h
       | cons d l=>
        have hd:=d.toNat_lt
        by_cases hd0:nxt d (0+1+1+1+1)=0
        ·exact absurd (qv8z.1 hd0).2 (by decide)
        ·rw[q408 _ hd0] at h
         simp only[Prod.mk.injEq] at h
         obtain⟨hv,rfl,h1⟩:=h
         have h2:=qicf.1 h1
         have e:v=a.toNat%128+b.toNat%128*128+c.toNat%128*16384+d.toNat*2097152:=by rw[←hv];simp[grow];omega
         clear hv
         refine⟨by omega,by unfold sz;rw[if_neg (by omega),if_neg (by omega),if_neg (by omega),if_neg (by omega)],by simp,?_⟩
         simp[vb,List.range_succ]
         exact⟨ofb _ _ _ _ (by simp;omega),ofb _ _ _ _ (by simp;omega),ofb _ _ _ _ (by simp;omega),ofb _ _ _ _ (by simp;omega)⟩
      ·rw[q408 _ hc0] at h
       simp only[Prod.mk.injEq] at h
       obtain⟨hv,rfl,h1⟩:=h
       have h2:=qicf.1 h1
       have e:v=a.toNat%128+b.toNat%128*128+c.toNat*16384:=by rw[←hv];simp[grow];omega
       clear hv
       refine⟨by omega,by unfold sz;rw[if_neg (by omega),if_neg (by omega),if_neg (by omega),if_pos (by omega)],by simp,?_⟩
       simp[vb,List.range_succ]
       exact⟨ofb _ _ _ _ (by simp;omega),ofb _ _ _ _ (by simp;omega),ofb _ _ _ _ (by simp;omega)⟩
    ·rw[q408 _ hb0] at h
     simp only[Prod.mk.injEq] at h
     obtain⟨hv,rfl,h1⟩:=h
     have h2:=qicf.1 h1
     have e:v=a.toNat%128+b.toNat*128:=by rw[←hv];simp[grow];omega
     clear hv
     refine⟨by omega,by unfold sz;rw[if_neg (by omega),if_neg (by omega),if_pos (by omega)],by simp,?_⟩
     simp[vb,List.range_succ]
     exact⟨ofb _ _ _ _ (by simp;omega),ofb _ _ _ _ (by simp;omega)⟩
  ·rw[q408 _ ha0] at h
   simp only[Prod.mk.injEq] at h
   obtain⟨hv,rfl,h1⟩:=h
   have h2:=qicf.1 h1
   have e:v=a.toNat:=by rw[←hv];simp[grow];omega
   clear hv
   refine⟨by omega,by unfold sz;rw[if_neg (by omega),if_pos (by omega)],by simp,?_⟩
   simp[vb,List.range_succ]
   exact ofb _ _ _ _ (by simp;omega)
def lvls:List UInt8→List (List UInt8)
 | []=>[[]]
 | c::s=>if c=47 then []::lvls s else match lvls s with
  | []=>[[c]]
  | l::ls=>(c::l)::ls
def q8nq:List (List UInt8)→List UInt8
 | []=>[]
 | [l]=>l
 | l::m::ls=>l++47::q8nq (m::ls)
theorem q6q5(s:List UInt8):lvls s≠[]:=by
 cases s with
 | nil=>simp[lvls]
 | cons c s=>
  unfold lvls
  split
  ·simp
  ·split<;>simp
theorem q3eu(s:List UInt8):lvls (47::s)=[]::lvls s:=by simp[lvls]
theorem q6p0{c:UInt8}(h:c≠47)(s:List UInt8):∃l ls,lvls s=l::ls∧lvls (c::s)=(c::l)::ls:=by
 obtain⟨l,ls,e⟩:=List.exists_cons_of_ne_nil (q6q5 s)
 exact⟨l,ls,e,by rw[lvls,if_neg h,e]⟩
theorem qcnz(l:List UInt8){ls:List (List UInt8)}(h:ls≠[]):q8nq (l::ls)=l++47::q8nq ls:=by
 cases ls with
 | nil=>exact absurd rfl h
 | cons m ls=>rfl
theorem qz8l(s:List UInt8):q8nq (lvls s)=s:=by
 induction s with
 | nil=>rfl
 | cons c s ih=>
  by_cases h:c=47
  ·subst h
   rw[q3eu,qcnz _ (q6q5 s),ih];rfl
  ·obtain⟨l,ls,e1,e2⟩:=q6p0 h s
   rw[e2]
   rw[e1] at ih
   cases ls with
   | nil=>rw[←ih];rfl
   | cons m ls=>rw[qcnz _ (by simp)] at ih ⊢;rw[←ih];rfl
def flat(ls:List (List UInt8)):Prop:=∀l∈ls,(47:UInt8)∉l
theorem qxp9(s:List UInt8):flat (lvls s):=by
 induction s with
 | nil=>intro l hl;simp[lvls] at hl;subst hl;simp
 | cons c s ih=>
  by_cases h:c=47
  ·subst h
   rw[q3eu]
   intro l hl
   rcases List.mem_cons.1 hl with rfl | hl
   ·simp
   ·exact ih l hl
  ·obtain⟨l,ls,e1,e2⟩:=q6p0 h s
   rw[e2]
   rw[e1] at ih
   intro m hm
   rcases List.mem_cons.1 hm with rfl | hm
   ·have:=ih l (List.mem_cons_self ..)
    simp[this,Ne.symm h]
   ·exact ih m (List.mem_cons_of_mem _ hm)
theorem qty4{l:List UInt8}(h:(47:UInt8)∉l):lvls l=[l]:=by
 induction l with
 | nil=>rfl
 | cons c l ih=>
  simp at h
  rw[lvls,if_neg (fun e=>h.1 e.symm),ih h.2]
theorem quk3{l:List UInt8}(h:(47:UInt8)∉l)(s:List UInt8):lvls (l++47::s)=l::lvls s:=by
 induction l with
 | nil=>exact q3eu s
 | cons c l ih=>
  simp at h
  rw[List.cons_append,lvls,if_neg (fun e=>h.1 e.symm),ih h.2]
theorem qspi(s:List UInt8):(lvls s).length=s.count 47+1:=by
 induction s with
 | nil=>rfl
 | cons c s ih=>
  by_cases h:c=47
  ·subst h
   rw[q3eu,List.length_cons,ih,List.count_cons_self]
  ·obtain⟨l,ls,e1,e2⟩:=q6p0 h s
   rw[e2,List.count_cons_of_ne h,←ih,e1];rfl
def okl:List (List UInt8)→Prop
 | []=>True
 | l::ls=>((43:UInt8)∈l→l=[43])∧((35:UInt8)∈l→l=[35]∧ls=[])∧okl ls
instance okl_dec:(ls:List (List UInt8))→Decidable (okl ls)
 | []=>isTrue trivial
 | l::ls=>by
  have:=okl_dec ls
  unfold okl
  infer_instance
def q95c(s:List UInt8):Bool:=decide (s≠[])&&qecx s&&decide ((43:UInt8)∉s)&&decide ((35:UInt8)∉s)
def qw8n(s:List UInt8):Bool:=decide (s≠[])&&qecx s&&decide (okl (lvls s))
theorem q38c(s:List UInt8):qw8n s=true↔s≠[]∧qecx s=true∧okl (lvls s):=by
 unfold qw8n;simp[and_assoc]
structure PRow where
 shape:Nat
 kinds:List Int
 least:Nat
 most:Nat
def prow(id:Int):PRow:=
 if id=1 then⟨1,[3,16],0,1⟩
 else if id=2 then⟨3,[3,16],0,4294967295⟩
 else if id=3∨id=8 then⟨5,[3,16],0,0⟩
 else if id=9 then⟨6,[3,16],0,0⟩
 else if id=11 then⟨4,[3,8],1,268435455⟩
 else if id=17 then⟨3,[1,2,14],0,4294967295⟩
 else if id=18∨id=26 then⟨5,[2],0,0⟩
 else if id=19 then⟨2,[2],0,65535⟩
 else if id=21 then⟨5,[1,2,15],0,0⟩
 else if id=22 then⟨6,[1,2,15],0,0⟩
 else if id=23∨id=25 then⟨1,[1],0,1⟩
 else if id=24 then⟨3,[16],0,4294967295⟩
 else if id=28 then⟨5,[2,14],0,0⟩
 else if id=31 then⟨5,[2,4,5,6,7,9,11,14,15],0,0⟩
 else if id=33 then⟨2,[1,2],1,65535⟩
 else if id=34 then⟨2,[1,2],0,65535⟩
 else if id=35 then⟨2,[3],1,65535⟩
 else if id=36∨id=37∨id=40∨id=41∨id=42 then⟨1,[2],0,1⟩
 else if id=38 then⟨7,[1,2,3,4,5,6,7,8,9,10,11,14,15,16],0,0⟩
 else if id=39 then⟨3,[1,2],1,4294967295⟩
 else⟨0,[],0,0⟩
def qwgc(id:Int):Nat:=(prow id).shape
def mayP(kind id:Int):Bool:=(prow id).kinds.contains kind
def quux(kind id:Int):Bool:=mayP kind id&&(id==38 || (id==11&&kind==3))
def qr4y(kind:Int)(p:Pr):Nat:=
 if mayP kind p.id=false then 9
 else if qwgc p.id≤4 then
  if p.text≠[]∨p.value≠[] then 2
  else if p.n < (prow p.id).least∨(prow p.id).most < p.n then 9
  else 0
 else if p.n≠0∨(qwgc p.id≠7∧p.value≠[]) then 2
 else if qwgc p.id=6 then(if 65535 < p.text.length then 2 else 0)
 else if qecx p.text=false∨qecx p.value=false then 6
 else if p.id=8∧q95c p.text=false then 9
 else 0
theorem q0dw{id:Int}(h:id < 1∨42 < id):prow id=⟨0,[],0,0⟩:=by
 unfold prow
 repeat rw[if_neg (by omega)]
theorem qoa5(P:Int→PRow→Bool)(h:(List.range 43).all (fun k=>P (k:Int) (prow (k:Int)))=true){id:Int}(hi:1≤id∧id≤42):P id (prow id)=true:=by
 have:=List.all_eq_true.1 h id.toNat (List.mem_range.2 (by omega))
 rwa [show((id.toNat:Nat):Int)=id by omega] at this
theorem qilb{kind id:Int}(h:mayP kind id=true):1≤id∧id≤42:=by
 rcases Int.lt_or_le id 1 with h1 | h1
 ·unfold mayP at h;rw[q0dw (.inl h1)] at h;simp at h
 ·rcases Int.lt_or_le 42 id with h2 | h2
  ·unfold mayP at h;rw[q0dw (.inr h2)] at h;simp at h
  ·exact⟨h1,h2⟩
theorem q06q{kind id:Int}(h:mayP kind id=true):(prow id).kinds≠[]:=by
 intro e
 unfold mayP at h
 rw[e] at h
 simp at h
theorem qznl{kind id:Int}(h:mayP kind id=true):1≤qwgc id∧qwgc id≤7∧(qwgc id=1→(prow id).most < 256)∧(qwgc id=2→(prow id).most < 65536)∧(qwgc id=3→(prow id).most < 4294967296)∧(qwgc id=4→(prow id).most≤268435455)∧(id=8→qwgc id=5):=by
 have:=qoa5 (fun i r=>r.kinds.isEmpty || (decide (1≤r.shape)&&decide (r.shape≤7)&&(decide (r.shape≠1) || decide (r.most < 256))&&(decide (r.shape≠2) || decide (r.most < 65536))&&(decide (r.shape≠3) || decide (r.most < 4294967296))&&(decide (r.shape≠4) || decide (r.most≤268435455))&&(decide (i≠8) || decide (r.shape=5)))) (by decide) (qilb h)
 have hk:=q06q h
 unfold qwgc
 generalize prow id=r at *
 simp only[Bool.or_eq_true,Bool.and_eq_true,decide_eq_true_eq,List.isEmpty_iff] at this
 rcases this with e | ⟨⟨⟨⟨⟨⟨h1,h2⟩,h3⟩,h4⟩,h5⟩,h6⟩,h7⟩
 ·exact absurd e hk
 ·exact⟨h1,h2,fun e=>h3.resolve_left (fun x=>x e),fun e=>h4.resolve_left (fun x=>x e),fun e=>h5.resolve_left (fun x=>x e),fun e=>h6.resolve_left (fun x=>x e),fun e=>h7.resolve_left (fun x=>x e)⟩
def qgdb(p:Pr):List UInt8:=
 if qwgc p.id=1 then be p.n 1 else if qwgc p.id=2 then be p.n 2 else if qwgc p.id=3 then be p.n 4
 else if qwgc p.id=4 then vb p.n (sz p.n) else if qwgc p.id=7 then enc2 p.text++enc2 p.value else enc2 p.text
def numP(id:Int)(c:Nat)(r:List UInt8):Pr×Nat×Nat:=if r.length < c then(⟨id,0,[],[]⟩,0,5) else(⟨id,num (r.take c),[],[]⟩,c,0)
def q91e(data:Bool)(r:List UInt8):List UInt8×Nat×Nat:=if (rdB r).2.2≠0 then([],0,5) else if data || qecx (rdB r).1 then((rdB r).1,(rdB r).2.1,0) else([],0,6)
def qij7(id:Int)(r:List UInt8):Pr×Nat×Nat:=
 if qwgc id=1 then numP id 1 r else if qwgc id=2 then numP id 2 r else if qwgc id=3 then numP id 4 r
 else if qwgc id=4 then(if rdE r≠0 then(⟨id,0,[],[]⟩,0,5) else(⟨id,rdV r,[],[]⟩,rdN r,0))
 else if qwgc id=7 then
  (
   if (q91e false r).2.2≠0 then(⟨id,0,[],[]⟩,0,(q91e false r).2.2)
   else if (q91e false (r.drop (q91e false r).2.1)).2.2≠0 then(⟨id,0,[],[]⟩,0,(q91e false (r.drop (q91e false r).2.1)).2.2)
   else(⟨id,0,(q91e false r).1,(q91e false (r.drop (q91e false r).2.1)).1⟩,(q91e false r).2.1+(q91e false (r.drop (q91e false r).2.1)).2.1,0))
 else if (q91e (qwgc id==6) r).2.2≠0 then(⟨id,0,[],[]⟩,0,(q91e (qwgc id==6) r).2.2) else(⟨id,0,(q91e (qwgc id==6) r).1,[]⟩,(q91e (qwgc id==6) r).2.1,0)
theorem qo1o{kind:Int}{p:Pr}(h:qr4y kind p=0):mayP kind p.id=true∧
 (qwgc p.id≤4→p.text=[]∧p.value=[]∧(prow p.id).least≤p.n∧p.n≤(prow p.id).most)∧
 (4 < qwgc p.id→p.n=0∧(qwgc p.id≠7→p.value=[])∧(qwgc p.id=6→p.text.length≤65535)∧(qwgc p.id≠6→qecx p.text=true∧qecx p.value=true)):=by
 unfold qr4y at h
 by_cases hm:mayP kind p.id=true
 ·rw[if_neg (by simp[hm])] at h
  refine⟨hm,fun hs=>?_,fun hs=>?_⟩
  ·rw[if_pos hs] at h
   split at h
   ·cases h
   ·rename_i h1
    split at h
    ·cases h
    ·rename_i h2
     simp only[not_or,Decidable.not_not] at h1
     exact⟨h1.1,h1.2,by omega,by omega⟩
  ·rw[if_neg (by omega)] at h
   split at h
   ·cases h
   ·rename_i h1
    have h1a:p.n=0:=by
     rcases Nat.eq_zero_or_pos p.n with e | e
     ·exact e
     ·exact absurd (.inl (by omega)) h1
    have h1b:qwgc p.id≠7→p.value=[]:=fun e=>Classical.byContradiction fun x=>h1 (.inr ⟨e,x⟩)
    refine⟨h1a,h1b,fun e=>?_,fun e=>?_⟩
    ·rw[if_pos e] at h
     split at h
     ·cases h
     ·omega
    ·rw[if_neg e] at h
     split at h
     ·cases h
     ·rename_i h2
      simp only[not_or,Bool.not_eq_false] at h2
      exact h2
 ·rw[if_pos (by simpa using hm)] at h;cases h
end Go.Proofs.YtbecggefmbpnoaaGreatDoor
