/- Plain facts: the bytes of a number and the number of bytes, the highest first: each undoes the other. No condition. -/
import Derived.Lib.Hide
import Derived.Test.YtbklidpadffpgaaGreatK10
namespace Go.Proofs.YtbklidpadffpgaaGreat
def be(n:Nat):Nat→List UInt8
 | 0=>[]
 | c+1=>be (n / 256) c++[UInt8.ofNat n]
theorem q0rl(c:Nat):∀n,(be n c).length=c:=by
 induction c with
 | zero=>intro n;rfl
 | succ c ih=>intro n;simp[be,ih]
theorem qxkn(n c k:Nat)(hk:k < c):be (n / 256^(c - (k+1))) (k+1)=be (n / 256^(c - k)) k++[UInt8.ofNat (n / 256^(c - (k+1)))]:=by
 have e:c - k=(c - (k+1))+1:=by omega
 rw[be,e,Nat.pow_succ,Nat.div_div_eq_div_mul]
def num(l:List UInt8):Nat:=l.foldl (fun a b=>a*256+b.toNat) 0
theorem q4zn(l:List UInt8)(b:UInt8):num (l++[b])=num l*256+b.toNat:=by simp[num]
theorem qn9h(l:List UInt8):num l < 256^l.length:=by
 have key:∀(k:Nat) (l:List UInt8),l.length=k→num l < 256^k:=by
  intro k
  induction k with
  | zero=>intro l h;have:l=[]:=List.eq_nil_of_length_eq_zero h;subst this;decide
  | succ k ih=>
   intro l h
   rcases List.eq_nil_or_concat l with rfl | ⟨l',b,rfl⟩
   ·simp at h
   ·simp at h
    have:=ih l' h
    have hb:=b.toNat_lt
    rw[List.concat_eq_append,q4zn,Nat.pow_succ]
    omega
 exact key _ l rfl
theorem q7wd(c:Nat):∀n,num (be n c)=n%256^c:=by
 induction c with
 | zero=>intro n;simp[be,num,Nat.mod_one]
 | succ c ih=>
  intro n
  rw[be,q4zn,ih,Nat.pow_succ,Nat.mul_comm (256^c) 256,Nat.mod_mul,UInt8.toNat_ofNat']
  omega
theorem qz9g(l:List UInt8):be (num l) l.length=l:=by
 have key:∀(k:Nat) (l:List UInt8),l.length=k→be (num l) k=l:=by
  intro k
  induction k with
  | zero=>intro l h;have:l=[]:=List.eq_nil_of_length_eq_zero h;subst this;rfl
  | succ k ih=>
   intro l h
   rcases List.eq_nil_or_concat l with rfl | ⟨l',b,rfl⟩
   ·simp at h
   ·simp at h
    have hb:=b.toNat_lt
    rw[List.concat_eq_append,q4zn,be]
    have e:(num l'*256+b.toNat) / 256=num l':=by omega
    rw[e,ih l' h]
    congr 2
    apply UInt8.toNat_inj.1
    rw[UInt8.toNat_ofNat']
    omega
 exact key _ l rfl
def enc2(l:List UInt8):List UInt8:=be l.length 2++l
theorem qnp6(l:List UInt8):(enc2 l).length=l.length+2:=by simp[enc2,q0rl];omega
theorem qpeh(l:List UInt8):num (l.take 2) < 65536:=by
 have h:=qn9h (l.take 2)
 have hl:(l.take 2).length≤2:=by simp;omega
 have:=Nat.pow_le_pow_right (show 0 < 256 by decide) hl
 omega
def rdB(l:List UInt8):List UInt8×Nat×Nat:=
 if 2≤l.length∧2+num (l.take 2)≤l.length then((l.drop 2).take (num (l.take 2)),2+num (l.take 2),0) else([],0,3)
def rdT(l:List UInt8):List UInt8×Nat×Nat:=
 if (rdB l).2.2≠0 then([],0,3) else if qecx (rdB l).1 then rdB l else([],0,6)
theorem qsrz(l:List UInt8):((rdB l).2.2=0∧(rdB l).1.length+2=(rdB l).2.1∧(rdB l).2.1≤l.length∧(rdB l).2.1 < 65538∧l.take (rdB l).2.1=enc2 (rdB l).1)∨rdB l=([],0,3):=by
 unfold rdB
 split
 ·rename_i h
  refine .inl ⟨rfl,?_,h.2,by have:=qpeh l;simp;omega,?_⟩
  ·simp;omega
  ·have hl:((l.drop 2).take (num (l.take 2))).length=num (l.take 2):=by simp;omega
   have hb:=qz9g (l.take 2)
   have h2:(l.take 2).length=2:=by simp;omega
   rw[h2] at hb
   show l.take (2+num (l.take 2))=enc2 _
   rw[enc2,hl,hb,List.take_add]
 ·exact .inr rfl
def nxt(b:UInt8)(n:Nat):Nat:=if 128≤b.toNat then(if n=4 then 2 else 0) else if b.toNat=0∧1 < n then 2 else 1
def grow(v n:Nat)(b:UInt8):Nat:=v+b.toNat%128*128^n
def run(v n:Nat):List UInt8→Nat×Nat×Nat
 | []=>(v,n,0)
 | b::l=>if nxt b (n+1)=0 then run (grow v n b) (n+1) l else(grow v n b,n+1,nxt b (n+1))
theorem qlf0(b:UInt8)(n:Nat):nxt b n=0∨nxt b n=1∨nxt b n=2:=by
 unfold nxt;split<;>split<;>simp
theorem qv8z{b:UInt8}{n:Nat}:nxt b n=0↔128≤b.toNat∧n≠4:=by
 unfold nxt;split<;>split<;>simp_all
 all_goals omega
theorem qicf{b:UInt8}{n:Nat}:nxt b n=1↔b.toNat < 128∧(0 < b.toNat∨n≤1):=by
 unfold nxt;split<;>split<;>simp_all<;>omega
theorem qt6b{b:UInt8}{n:Nat}:nxt b n=2↔(128≤b.toNat∧n=4)∨(b.toNat=0∧1 < n):=by
 unfold nxt;split<;>split<;>simp_all<;>omega
theorem qpfr{v n:Nat}(b:UInt8)(h:v < 128^n):grow v n b < 128^(n+1):=by
 unfold grow
 have h1:b.toNat%128≤127:=by omega
 have h2:b.toNat%128*128^n≤127*128^n:=Nat.mul_le_mul_right _ h1
 rw[Nat.pow_succ]
 omega
theorem qomx{v n:Nat}{b:UInt8}(l:List UInt8)(h:nxt b (n+1)=0):run v n (b::l)=run (grow v n b) (n+1) l:=by simp[run,h]
theorem q408{v n:Nat}{b:UInt8}(l:List UInt8)(h:nxt b (n+1)≠0):run v n (b::l)=(grow v n b,n+1,nxt b (n+1)):=by simp[run,h]
theorem qh9e:∀(l:List UInt8) (v n:Nat),(run v n l).2.2=0∨(run v n l).2.2=1∨(run v n l).2.2=2:=by
 intro l
 induction l with
 | nil=>intro v n;simp[run]
 | cons a l ih=>
  intro v n
  by_cases h0:nxt a (n+1)=0
  ·rw[qomx _ h0];exact ih _ _
  ·rw[q408 _ h0];exact qlf0 _ _
def rdV(l:List UInt8):Nat:=if (run 0 0 l).2.2=1 then(run 0 0 l).1 else 0
def rdN(l:List UInt8):Nat:=if (run 0 0 l).2.2=1 then(run 0 0 l).2.1 else 0
def rdE(l:List UInt8):Nat:=if (run 0 0 l).2.2=0 then 3 else if (run 0 0 l).2.2=1 then 0 else 5
theorem qa1w{l:List UInt8}{v n st:Nat}(h:run 0 0 l=(v,n,st)):rdV l=(if st=1 then v else 0)∧rdN l=(if st=1 then n else 0)∧rdE l=if st=0 then 3 else if st=1 then 0 else 5:=by
 simp[rdV,rdN,rdE,h]
def sz(n:Int):Nat:=if n < 0∨268435455 < n then 0 else if n < 128 then 1 else if n < 16384 then 2 else if n < 2097152 then 3 else 4
def byt(n c i:Nat):UInt8:=UInt8.ofNat (n / 128^i%128+if i+1 < c then 128 else 0)
def vb(n c:Nat):List UInt8:=(List.range c).map (byt n c)
theorem q8sw(n c:Nat):(vb n c).length=c:=by simp[vb]
theorem qa5k(n c i:Nat):(byt n c i).toNat=n / 128^i%128+if i+1 < c then 128 else 0:=by
 unfold byt
 have:n / 128^i%128 < 128:=Nat.mod_lt _ (by decide)
 simp only[UInt8.toNat_ofNat']
 split<;>omega
theorem qnl4(n:Nat)(h:n≤268435455):(sz n=1∧n < 128)∨(sz n=2∧128≤n∧n < 16384)∨(sz n=3∧16384≤n∧n < 2097152)∨(sz n=4∧2097152≤n):=by
 unfold sz;split
 ·omega
 ·split
  ·omega
  ·split
   ·omega
   ·split<;>omega
theorem qbck{n:Int}:sz n=0↔n < 0∨268435455 < n:=by
 unfold sz;split
 ·simp[*]
 ·split
  ·simp[*]
  ·split
   ·simp[*]
   ·split<;>simp[*]
theorem qvpf(l:List UInt8)(v n:Nat)(h:run 0 0 l=(v,n,1)):v≤268435455∧n=sz v∧n≤l.length∧l.take n=vb v n:=by
 have ofb:∀(a:UInt8) (x c i:Nat),a.toNat=(x / 128^i%128+if i+1 < c then 128 else 0)→a=byt x c i:=fun a x c i e=>UInt8.toNat_inj.1 (by rw[qa5k,e])
 cases l with
 | nil=>simp[run] at h
 | cons a l=>
  have ha:=a.toNat_lt
  by_cases ha0:nxt a (0+1)=0
  ·rw[qomx _ ha0] at h
   have ha1:=(qv8z.1 ha0).1
   cases l with
   | nil=>simp[run] at h
   | cons b l=>
    have hb:=b.toNat_lt
    by_cases hb0:nxt b (0+1+1)=0
    ·rw[qomx _ hb0] at h
     have hb1:=(qv8z.1 hb0).1
     cases l with
     | nil=>simp[run] at h
     | cons c l=>
      have hc:=c.toNat_lt
      by_cases hc0:nxt c (0+1+1+1)=0
      ·rw[qomx _ hc0] at h
       have hc1:=(qv8z.1 hc0).1
       cases l with
       | nil=>simp[run] at h
       | cons d l=>
        have hd:=d.toNat_lt
        by_cases hd0:nxt d (0+1+1+1+1)=0
        ·exact absurd (qv8z.1 hd0).2 (by decide)
        ·rw[q408 _ hd0] at h
         simp only[Prod.mk.injEq] at h
         obtain⟨hv,rfl,h1⟩:=h
         have h2:=qicf.1 h1
         have e:v=a.toNat%128+b.toNat%128*128+c.toNat%128*16384+d.toNat*2097152:=by rw[←hv];simp[grow];omega
         clear hv
         refine⟨by omega,by unfold sz;rw[if_neg (by omega),if_neg (by omega),if_neg (by omega),if_neg (by omega)],by simp,?_⟩
         simp[vb,List.range_succ]
         exact⟨ofb _ _ _ _ (by simp;omega),ofb _ _ _ _ (by simp;omega),ofb _ _ _ _ (by simp;omega),ofb _ _ _ _ (by simp;omega)⟩
      ·rw[q408 _ hc0] at h
       simp only[Prod.mk.injEq] at h
       obtain⟨hv,rfl,h1⟩:=h
       have h2:=qicf.1 h1
       have e:v=a.toNat%128+b.toNat%128*128+c.toNat*16384:=by rw[←hv];simp[grow];omega
       clear hv
       refine⟨by omega,by unfold sz;rw[if_neg (by omega),if_neg (by omega),if_neg (by omega),if_pos (by omega)],by simp,?_⟩
       simp[vb,List.range_succ]
       exact⟨ofb _ _ _ _ (by simp;omega),ofb _ _ _ _ (by simp;omega),ofb _ _ _ _ (by simp;omega)⟩
    ·rw[q408 _ hb0] at h
     simp only[Prod.mk.injEq] at h
     obtain⟨hv,rfl,h1⟩:=h
     have h2:=qicf.1 h1
     have e:v=a.toNat%128+b.toNat*128:=by rw[←hv];simp[grow];omega
     clear hv
     refine⟨by omega,by unfold sz;rw[if_neg (by omega),if_neg (by omega),if_pos (by omega)],by simp,?_⟩
     simp[vb,List.range_succ]
     exact⟨ofb _ _ _ _ (by simp;omega),ofb _ _ _ _ (by simp;omega)⟩
  ·rw[q408 _ ha0] at h
   simp only[Prod.mk.injEq] at h
   obtain⟨hv,rfl,h1⟩:=h
   have h2:=qicf.1 h1
   have e:v=a.toNat:=by rw[←hv];simp[grow];omega
   clear hv
   refine⟨by omega,by unfold sz;rw[if_neg (by omega),if_pos (by omega)],by simp,?_⟩
   simp[vb,List.range_succ]
   exact ofb _ _ _ _ (by simp;omega)
def okl:List (List UInt8)→Prop
 | []=>True
 | l::ls=>((43:UInt8)∈l→l=[43])∧((35:UInt8)∈l→l=[35]∧ls=[])∧okl ls
instance okl_dec:(ls:List (List UInt8))→Decidable (okl ls)
 | []=>isTrue trivial
 | l::ls=>by
  have:=okl_dec ls
  unfold okl
  infer_instance
def q95c(s:List UInt8):Bool:=decide (s≠[])&&qecx s&&decide ((43:UInt8)∉s)&&decide ((35:UInt8)∉s)
end Go.Proofs.YtbklidpadffpgaaGreat
