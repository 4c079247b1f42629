/- Plain facts on UTF-8: the bytes of a code point, the code point with which a list of bytes begins, all code points of a list up to the first place where none begins; how they split and join. No condition. -/
import Derived.Lib.Hide
import GoSem.Core.Utf8
import Derived.Below
import Derived.Test.YtbecggefmbpnoaaGreatDoorK05
import Derived.Test.YtbecggefmbpnoaaGreatDoorK07
namespace Go.Proofs.YtbecggefmbpnoaaGreatDoor
def okc(c:Nat):Prop:=0 < c∧(c < 55296∨(57344≤c∧c≤1114111))
def cb(c:Nat):List UInt8:=
 if c < 128 then [UInt8.ofNat c]
 else if c < 2048 then [UInt8.ofNat (192+c / 64),UInt8.ofNat (128+c%64)]
 else if c < 65536 then [UInt8.ofNat (224+c / 4096),UInt8.ofNat (128+c / 64%64),UInt8.ofNat (128+c%64)]
 else [UInt8.ofNat (240+c / 262144),UInt8.ofNat (128+c / 4096%64),UInt8.ofNat (128+c / 64%64),UInt8.ofNat (128+c%64)]
theorem qpx1(c:Nat):Utf8.valid (c:Int)=true↔c < 55296∨(57344≤c∧c≤1114111):=by
 unfold Utf8.valid
 simp only[Bool.or_eq_true,Bool.and_eq_true,decide_eq_true_eq]
 omega
theorem qe4n{c:Nat}(h:okc c):Utf8.valid (c:Int)=true:=(qpx1 c).2 h.2
def dl(l:List UInt8):Nat×Nat:=
 let at' (k:Nat):Nat:=(l.getD k 0).toNat
 let cont (k:Nat):Bool:=k < l.length&&at' k / 64==2
 let b0:=at' 0
 if b0 < 128 then(b0,1)
 else if b0 / 32==6&&cont 1 then
  let c:=(b0%32)*64+at' 1%64
  if c≥128 then(c,2) else(65533,1)
 else if b0 / 16==14&&cont 1&&cont 2 then
  let c:=(b0%16)*4096+(at' 1%64)*64+at' 2%64
  if c≥2048&&Utf8.valid c then(c,3) else(65533,1)
 else if b0 / 8==30&&cont 1&&cont 2&&cont 3 then
  let c:=(b0%8)*262144+(at' 1%64)*4096+(at' 2%64)*64+at' 3%64
  if c≥65536&&Utf8.valid c then(c,4) else(65533,1)
 else(65533,1)
theorem qiqk(s:ByteArray)(i k:Nat):s.get! (i+k)=(s.data.toList.drop i).getD k 0:=by
 rw[ByteArray.get!,List.getD_eq_getElem?_getD,List.getElem?_drop,Array.getElem!_eq_getD,Array.getD_eq_getD_getElem?]
 simp
 rfl
theorem q4qv(s:ByteArray)(i k:Nat):(i+k < s.size)=(k < (s.data.toList.drop i).length):=by
 have:s.size=s.data.toList.length:=by simp
 rw[this,List.length_drop]
 apply propext
 omega
theorem qf0g(s:ByteArray)(i:Nat):Utf8.decode s i=dl (s.data.toList.drop i):=by
 unfold Utf8.decode dl
 simp only[qiqk,q4qv]
 rfl
def hd(l:List UInt8):Option Nat:=if l=[]∨(dl l).1=0∨((dl l).1=65533∧(dl l).2=1) then none else some (dl l).1
theorem n8{n:Nat}(h:n < 256):(UInt8.ofNat n).toNat=n:=by rw[UInt8.toNat_ofNat'];omega
theorem b8(b:UInt8){n:Nat}(h:b.toNat=n):UInt8.ofNat n=b:=by subst h;simp
theorem qyly{c:Nat}(h:okc c)(l:List UInt8):dl (cb c++l)=(c,(cb c).length):=by
 have hv:=qe4n h
 obtain⟨h0,h1⟩:=h
 unfold cb
 split
 ·rename_i h2
  simp[dl,n8 (show c < 256 by omega),h2]
 ·split
  ·rename_i h2 h3
   have e0:=n8 (show 192+c / 64 < 256 by omega)
   have e1:=n8 (show 128+c%64 < 256 by omega)
   simp only[dl,List.cons_append,List.nil_append,List.getD_cons_zero,List.getD_cons_succ,e0,e1]
   rw[if_neg (by omega),if_pos (by simp;omega),if_pos (by omega)]
   simp;omega
  ·split
   ·rename_i h2 h3 h4
    have e0:=n8 (show 224+c / 4096 < 256 by omega)
    have e1:=n8 (show 128+c / 64%64 < 256 by omega)
    have e2:=n8 (show 128+c%64 < 256 by omega)
    have ec:(224+c / 4096)%16*4096+(128+c / 64%64)%64*64+(128+c%64)%64=c:=by omega
    simp only[dl,List.cons_append,List.nil_append,List.getD_cons_zero,List.getD_cons_succ,e0,e1,e2,ec]
    rw[if_neg (by omega),if_neg (by simp;omega),if_pos (by simp;omega),if_pos (by simp[hv];omega)]
    simp
   ·rename_i h2 h3 h4
    have e0:=n8 (show 240+c / 262144 < 256 by omega)
    have e1:=n8 (show 128+c / 4096%64 < 256 by omega)
    have e2:=n8 (show 128+c / 64%64 < 256 by omega)
    have e3:=n8 (show 128+c%64 < 256 by omega)
    have ec:(240+c / 262144)%8*262144+(128+c / 4096%64)%64*4096+(128+c / 64%64)%64*64+(128+c%64)%64=c:=by omega
    simp only[dl,List.cons_append,List.nil_append,List.getD_cons_zero,List.getD_cons_succ,e0,e1,e2,e3,ec]
    rw[if_neg (by omega),if_neg (by simp;omega),if_neg (by simp;omega),if_pos (by simp;omega),if_pos (by simp[hv];omega)]
    simp
theorem qp6t(c:Nat):0 < (cb c).length:=by unfold cb;split<;>(try split)<;>(try split)<;>simp
theorem qqv9(c:Nat):(cb c).length=if c < 128 then 1 else if c < 2048 then 2 else if c < 65536 then 3 else 4:=by
 unfold cb;split<;>(try split)<;>(try split)<;>simp
theorem q3q9(c:Nat)(l:List UInt8):cb c++l≠[]:=by
 have:=qp6t c
 intro h
 have:(cb c++l).length=0:=by rw[h];rfl
 simp at this
 simp[this] at *
theorem qwug{c:Nat}(h:okc c)(l:List UInt8):hd (cb c++l)=some c:=by
 unfold hd
 rw[qyly h,if_neg]
 rintro(e | e | ⟨e,e2⟩)
 ·exact q3q9 c l e
 ·have:=h.1;simp at e;omega
 ·simp at e e2
  subst e
  simp[qqv9] at e2
theorem qp9j(l:List UInt8)(hl:l≠[]):dl l=(65533,1)∨(dl l).1=0∨(okc (dl l).1∧(dl l).2=(cb (dl l).1).length∧∃r,l=cb (dl l).1++r):=by
 unfold dl
 simp only[]
 obtain⟨b0,l0,rfl⟩:=List.exists_cons_of_ne_nil hl
 have h0:=b0.toNat_lt
 simp only[List.getD_cons_zero,List.getD_cons_succ,List.length_cons]
 split
 ·rename_i hb
  by_cases hz:b0.toNat=0
  ·exact .inr (.inl hz)
  ·refine .inr (.inr ⟨⟨by omega,by omega⟩,?_,l0,?_⟩)
   ·simp[cb,hb]
   ·simp[cb,hb]
 ·split
  ·rename_i hb hc
   rcases l0 with _ | ⟨b1,l1⟩
   ·simp at hc
   simp at hc
   have h1:=b1.toNat_lt
   simp only[List.getD_cons_zero]
   split
   ·rename_i hd
    have hk:¬b0.toNat%32*64+b1.toNat%64 < 128:=by omega
    have hk2:b0.toNat%32*64+b1.toNat%64 < 2048:=by omega
    refine .inr (.inr ⟨⟨by simp;omega,by simp;omega⟩,?_,l1,?_⟩)
    ·simp[cb,hk,hk2]
    ·simp only[cb,hk,hk2,if_true,if_false]
     rw[b8 b0 (by omega),b8 b1 (by omega)]
     rfl
   ·exact .inl rfl
  ·split
   ·rename_i hb hb2 hc
    rcases l0 with _ | ⟨b1,_ | ⟨b2,l2⟩⟩
    ·simp at hc
    ·simp at hc
    simp at hc
    have h1:=b1.toNat_lt
    have h2:=b2.toNat_lt
    simp only[List.getD_cons_zero,List.getD_cons_succ]
    split
    ·rename_i hd
     simp only[Bool.and_eq_true,decide_eq_true_eq,qpx1] at hd
     generalize hC:b0.toNat%16*4096+b1.toNat%64*64+b2.toNat%64=C at hd
     have hk:¬C < 128:=by omega
     have hk2:¬C < 2048:=by omega
     have hk3:C < 65536:=by omega
     refine .inr (.inr ⟨⟨by simp;omega,hd.2⟩,?_,l2,?_⟩)
     ·simp[cb,hk,hk2,hk3]
     ·simp only[cb,hk,hk2,hk3,if_false]
      rw[b8 b0 (by omega),b8 b1 (by omega),b8 b2 (by omega)]
      rfl
    ·exact .inl rfl
   ·split
    ·rename_i hb hb2 hb3 hc
     rcases l0 with _ | ⟨b1,_ | ⟨b2,_ | ⟨b3,l3⟩⟩⟩
     ·simp at hc
     ·simp at hc
     ·simp at hc
     simp at hc
     have h1:=b1.toNat_lt
     have h2:=b2.toNat_lt
     have h3:=b3.toNat_lt
     simp only[List.getD_cons_zero,List.getD_cons_succ]
     split
     ·rename_i hd
      simp only[Bool.and_eq_true,decide_eq_true_eq,qpx1] at hd
      generalize hC:b0.toNat%8*262144+b1.toNat%64*4096+b2.toNat%64*64+b3.toNat%64=C at hd
      have hk:¬C < 128:=by omega
      have hk2:¬C < 2048:=by omega
      have hk3:¬C < 65536:=by omega
      refine .inr (.inr ⟨⟨by simp;omega,hd.2⟩,?_,l3,?_⟩)
      ·simp[cb,hk,hk2,hk3]
      ·simp only[cb,hk,hk2,hk3,if_false]
       rw[b8 b0 (by omega),b8 b1 (by omega),b8 b2 (by omega),b8 b3 (by omega)]
       rfl
     ·exact .inl rfl
    ·exact .inl rfl
theorem qsz3{l:List UInt8}{c:Nat}(h:hd l=some c):okc c∧∃r,l=cb c++r:=by
 unfold hd at h
 split at h
 ·cases h
 ·rename_i hn
  have e:(dl l).1=c:=by simpa using h
  have hne:l≠[]:=fun e=>hn (.inl e)
  rcases qp9j l hne with h1 | h1 | ⟨h1,_,h2⟩
  ·exact absurd (.inr (.inr (by rw[h1];exact⟨rfl,rfl⟩))) hn
  ·exact absurd (.inr (.inl h1)) hn
  ·rw[e] at h1 h2;exact⟨h1,h2⟩
theorem q51d{l:List UInt8}(hl:l≠[])(h:hd l=none):dl l=(65533,1)∨(dl l).1=0:=by
 rcases qp9j l hl with h1 | h1 | ⟨h1,h2,h3,h4⟩
 ·exact .inl h1
 ·exact .inr h1
 ·generalize (dl l).1=c at h1 h4
  subst h4
  rw[qwug h1] at h
  cases h
def pts(l:List UInt8):List Nat:=
 match _h:hd l with
 | none=>[]
 | some c=>c::pts (l.drop (cb c).length)
termination_by l.length
decreasing_by
 obtain⟨_,r,rfl⟩:=qsz3 _h
 have:=qp6t c
 simp
 omega
def cbs(cs:List Nat):List UInt8:=cs.flatMap cb
def oks(cs:List Nat):Prop:=∀c∈cs,okc c
theorem qbw4:cbs []=[]:=rfl
theorem q7su(c:Nat)(cs:List Nat):cbs (c::cs)=cb c++cbs cs:=rfl
theorem q5g4(a b:List Nat):cbs (a++b)=cbs a++cbs b:=by simp[cbs]
theorem q6ts(a:List Nat)(c:Nat):cbs (a++[c])=cbs a++cb c:=by simp[cbs]
theorem qvel{l:List UInt8}(h:hd l=none):pts l=[]:=by
 rw[pts]
 split
 ·rfl
 ·rename_i c hc;rw[h] at hc;cases hc
theorem qqzy{c:Nat}(h:okc c)(l:List UInt8):pts (cb c++l)=c::pts l:=by
 rw[pts]
 have e:=qwug h l
 split
 ·rename_i hc;rw[e] at hc;cases hc
 ·rename_i c' hc
  rw[e] at hc
  obtain rfl:c=c':=by simpa using hc
  simp
theorem q2qr:hd []=none:=by simp[hd]
theorem qahv:pts []=[]:=qvel q2qr
theorem q2hb:∀(n:Nat) (l:List UInt8),l.length≤n→oks (pts l)∧∃r,l=cbs (pts l)++r∧hd r=none
 | 0,l,h=>by
  obtain rfl:l=[]:=List.eq_nil_of_length_eq_zero (by omega)
  rw[qahv]
  exact⟨by simp[oks],[],rfl,q2qr⟩
 | n+1,l,h=>by
  cases hc:hd l with
  | none=>
   rw[qvel hc]
   exact⟨by simp[oks],l,rfl,hc⟩
  | some c=>
   obtain⟨ho,r,rfl⟩:=qsz3 hc
   have:=qp6t c
   rw[qqzy ho]
   obtain⟨h1,r2,h2,h3⟩:=q2hb n r (by simp at h;omega)
   refine⟨fun d hd=>(List.mem_cons.1 hd).elim (fun e=>e▸ho) (h1 d),r2,?_,h3⟩
   rw[q7su,List.append_assoc,←h2]
theorem qiv7(l:List UInt8):oks (pts l):=(q2hb _ l (Nat.le_refl _)).1
theorem q454(l:List UInt8):∃r,l=cbs (pts l)++r∧hd r=none:=(q2hb _ l (Nat.le_refl _)).2
theorem q9zi{cs:List Nat}(h:oks cs)(l:List UInt8):pts (cbs cs++l)=cs++pts l:=by
 induction cs with
 | nil=>rfl
 | cons c cs ih=>
  rw[q7su,List.append_assoc,qqzy (h c (List.mem_cons_self ..)),ih fun d hd=>h d (List.mem_cons_of_mem _ hd)]
  rfl
theorem q38h{cs:List Nat}(h:oks cs):pts (cbs cs)=cs:=by
 have:=q9zi h []
 rwa [List.append_nil,qahv,List.append_nil] at this
def fin(l:List UInt8):Nat:=(cbs (pts l)).length
theorem q1um(l:List UInt8):fin l≤l.length:=by
 obtain⟨r,h,_⟩:=q454 l
 unfold fin
 have:=congrArg List.length h
 simp at this
 omega
def qpht(l:List UInt8):Int:=if fin l < l.length then(fin l:Int) else -1
def qecx(l:List UInt8):Bool:=decide (l.length≤65535)&&decide (qpht l < 0)
theorem qbv6(l:List UInt8):qecx l=true↔l.length≤65535∧fin l=l.length:=by
 unfold qecx qpht
 have:=q1um l
 simp only[Bool.and_eq_true,decide_eq_true_eq]
 constructor
 ·rintro⟨h1,h2⟩
  refine⟨h1,?_⟩
  split at h2<;>omega
 ·rintro⟨h1,h2⟩
  refine⟨h1,?_⟩
  rw[if_neg (by omega)];omega
def marks(p:Nat):List Nat→List (Nat×Nat)
 | []=>[]
 | c::cs=>(p,c)::marks (p+(cb c).length) cs
theorem qx0j(cs:List Nat):∀p,(marks p cs).length=cs.length:=by
 induction cs with
 | nil=>intro p;rfl
 | cons c cs ih=>intro p;simp[marks,ih]
theorem qfk7(a b:List Nat):∀p,marks p (a++b)=marks p a++marks (p+(cbs a).length) b:=by
 induction a with
 | nil=>intro p;simp[marks,cbs]
 | cons c a ih=>
  intro p
  rw[q7su,List.length_append,List.cons_append,marks,ih,marks,List.cons_append,Nat.add_assoc]
theorem qwxc(a:List Nat)(c:Nat):marks 0 (a++[c])=marks 0 a++[((cbs a).length,c)]:=by
 rw[qfk7];simp[marks]
def be(n:Nat):Nat→List UInt8
 | 0=>[]
 | c+1=>be (n / 256) c++[UInt8.ofNat n]
theorem q0rl(c:Nat):∀n,(be n c).length=c:=by
 induction c with
 | zero=>intro n;rfl
 | succ c ih=>intro n;simp[be,ih]
theorem qxkn(n c k:Nat)(hk:k < c):be (n / 256^(c - (k+1))) (k+1)=be (n / 256^(c - k)) k++[UInt8.ofNat (n / 256^(c - (k+1)))]:=by
 have e:c - k=(c - (k+1))+1:=by omega
 rw[be,e,Nat.pow_succ,Nat.div_div_eq_div_mul]
def num(l:List UInt8):Nat:=l.foldl (fun a b=>a*256+b.toNat) 0
theorem q4zn(l:List UInt8)(b:UInt8):num (l++[b])=num l*256+b.toNat:=by simp[num]
theorem qn9h(l:List UInt8):num l < 256^l.length:=by
 have key:∀(k:Nat) (l:List UInt8),l.length=k→num l < 256^k:=by
  intro k
  induction k with
  | zero=>intro l h;have:l=[]:=List.eq_nil_of_length_eq_zero h;subst this;decide
  | succ k ih=>
   intro l h
   rcases List.eq_nil_or_concat l with rfl | ⟨l',b,rfl⟩
   ·simp at h
   ·simp at h
    have:=ih l' h
    have hb:=b.toNat_lt
    rw[List.concat_eq_append,q4zn,Nat.pow_succ]
    omega
 exact key _ l rfl
theorem qz9g(l:List UInt8):be (num l) l.length=l:=by
 have key:∀(k:Nat) (l:List UInt8),l.length=k→be (num l) k=l:=by
  intro k
  induction k with
  | zero=>intro l h;have:l=[]:=List.eq_nil_of_length_eq_zero h;subst this;rfl
  | succ k ih=>
   intro l h
   rcases List.eq_nil_or_concat l with rfl | ⟨l',b,rfl⟩
   ·simp at h
   ·simp at h
    have hb:=b.toNat_lt
    rw[List.concat_eq_append,q4zn,be]
    have e:(num l'*256+b.toNat) / 256=num l':=by omega
    rw[e,ih l' h]
    congr 2
    apply UInt8.toNat_inj.1
    rw[UInt8.toNat_ofNat']
    omega
 exact key _ l rfl
def enc2(l:List UInt8):List UInt8:=be l.length 2++l
theorem qnp6(l:List UInt8):(enc2 l).length=l.length+2:=by simp[enc2,q0rl];omega
theorem qpeh(l:List UInt8):num (l.take 2) < 65536:=by
 have h:=qn9h (l.take 2)
 have hl:(l.take 2).length≤2:=by simp;omega
 have:=Nat.pow_le_pow_right (show 0 < 256 by decide) hl
 omega
def rdB(l:List UInt8):List UInt8×Nat×Nat:=
 if 2≤l.length∧2+num (l.take 2)≤l.length then((l.drop 2).take (num (l.take 2)),2+num (l.take 2),0) else([],0,3)
def rdT(l:List UInt8):List UInt8×Nat×Nat:=
 if (rdB l).2.2≠0 then([],0,3) else if qecx (rdB l).1 then rdB l else([],0,6)
theorem qsrz(l:List UInt8):((rdB l).2.2=0∧(rdB l).1.length+2=(rdB l).2.1∧(rdB l).2.1≤l.length∧(rdB l).2.1 < 65538∧l.take (rdB l).2.1=enc2 (rdB l).1)∨rdB l=([],0,3):=by
 unfold rdB
 split
 ·rename_i h
  refine .inl ⟨rfl,?_,h.2,by have:=qpeh l;simp;omega,?_⟩
  ·simp;omega
  ·have hl:((l.drop 2).take (num (l.take 2))).length=num (l.take 2):=by simp;omega
   have hb:=qz9g (l.take 2)
   have h2:(l.take 2).length=2:=by simp;omega
   rw[h2] at hb
   show l.take (2+num (l.take 2))=enc2 _
   rw[enc2,hl,hb,List.take_add]
 ·exact .inr rfl
def nxt(b:UInt8)(n:Nat):Nat:=if 128≤b.toNat then(if n=4 then 2 else 0) else if b.toNat=0∧1 < n then 2 else 1
def grow(v n:Nat)(b:UInt8):Nat:=v+b.toNat%128*128^n
def run(v n:Nat):List UInt8→Nat×Nat×Nat
 | []=>(v,n,0)
 | b::l=>if nxt b (n+1)=0 then run (grow v n b) (n+1) l else(grow v n b,n+1,nxt b (n+1))
theorem qlf0(b:UInt8)(n:Nat):nxt b n=0∨nxt b n=1∨nxt b n=2:=by
 unfold nxt;split<;>split<;>simp
theorem qv8z{b:UInt8}{n:Nat}:nxt b n=0↔128≤b.toNat∧n≠4:=by
 unfold nxt;split<;>split<;>simp_all
 all_goals omega
theorem qicf{b:UInt8}{n:Nat}:nxt b n=1↔b.toNat < 128∧(0 < b.toNat∨n≤1):=by
 unfold nxt;split<;>split<;>simp_all<;>omega
theorem qt6b{b:UInt8}{n:Nat}:nxt b n=2↔(128≤b.toNat∧n=4)∨(b.toNat=0∧1 < n):=by
 unfold nxt;split<;>split<;>simp_all<;>omega
theorem qpfr{v n:Nat}(b:UInt8)(h:v < 128^n):grow v n b < 128^(n+1):=by
 unfold grow
 have h1:b.toNat%128≤127:=by omega
 have h2:b.toNat%128*128^n≤127*128^n:=Nat.mul_le_mul_right _ h1
 rw[Nat.pow_succ]
 omega
theorem qomx{v n:Nat}{b:UInt8}(l:List UInt8)(h:nxt b (n+1)=0):run v n (b::l)=run (grow v n b) (n+1) l:=by simp[run,h]
theorem q408{v n:Nat}{b:UInt8}(l:List UInt8)(h:nxt b (n+1)≠0):run v n (b::l)=(grow v n b,n+1,nxt b (n+1)):=by simp[run,h]
theorem qh9e:∀(l:List UInt8) (v n:Nat),(run v n l).2.2=0∨(run v n l).2.2=1∨(run v n l).2.2=2:=by
 intro l
 induction l with
 | nil=>intro v n;simp[run]
 | cons a l ih=>
  intro v n
  by_cases h0:nxt a (n+1)=0
  ·rw[qomx _ h0];exact ih _ _
  ·rw[q408 _ h0];exact qlf0 _ _
def rdV(l:List UInt8):Nat:=if (run 0 0 l).2.2=1 then(run 0 0 l).1 else 0
def rdN(l:List UInt8):Nat:=if (run 0 0 l).2.2=1 then(run 0 0 l).2.1 else 0
def rdE(l:List UInt8):Nat:=if (run 0 0 l).2.2=0 then 3 else if (run 0 0 l).2.2=1 then 0 else 5
theorem qa1w{l:List UInt8}{v n st:Nat}(h:run 0 0 l=(v,n,st)):rdV l=(if st=1 then v else 0)∧rdN l=(if st=1 then n else 0)∧rdE l=if st=0 then 3 else if st=1 then 0 else 5:=by
 simp[rdV,rdN,rdE,h]
def sz(n:Int):Nat:=if n < 0∨268435455 < n then 0 else if n < 128 then 1 else if n < 16384 then 2 else if n < 2097152 then 3 else 4
def byt(n c i:Nat):UInt8:=UInt8.ofNat (n / 128^i%128+if i+1 < c then 128 else 0)
def vb(n c:Nat):List UInt8:=(List.range c).map (byt n c)
theorem q8sw(n c:Nat):(vb n c).length=c:=by simp[vb]
theorem qa5k(n c i:Nat):(byt n c i).toNat=n / 128^i%128+if i+1 < c then 128 else 0:=by
 unfold byt
 have:n / 128^i%128 < 128:=Nat.mod_lt _ (by decide)
 simp only[UInt8.toNat_ofNat']
 split<;>omega
theorem qnl4(n:Nat)(h:n≤268435455):(sz n=1∧n < 128)∨(sz n=2∧128≤n∧n < 16384)∨(sz n=3∧16384≤n∧n < 2097152)∨(sz n=4∧2097152≤n):=by
 unfold sz;split
 ·omega
 ·split
  ·omega
  ·split
   ·omega
   ·split<;>omega
theorem qbck{n:Int}:sz n=0↔n < 0∨268435455 < n:=by
 unfold sz;split
 ·simp[*]
 ·split
  ·simp[*]
  ·split
   ·simp[*]
   ·split<;>simp[*]
theorem qvpf(l:List UInt8)(v n:Nat)(h:run 0 0 l=(v,n,1)):v≤268435455∧n=sz v∧n≤l.length∧l.take n=vb v n:=by
 have ofb:∀(a:UInt8) (x c i:Nat),a.toNat=(x / 128^i%128+if i+1 < c then 128 else 0)→a=byt x c i:=fun a x c i e=>UInt8.toNat_inj.1 (by rw[qa5k,e])
 cases l with
 | nil=>simp[run] at h
 | cons a l=>
  have ha:=a.toNat_lt
  by_cases ha0:nxt a (0+1)=0
  ·rw[qomx _ ha0] at h
   have ha1:=(qv8z.1 ha0).1
   cases l with
   | nil=>simp[run] at h
   | cons b l=>
    have hb:=b.toNat_lt
    by_cases hb0:nxt b (0+1+1)=0
    ·rw[qomx _ hb0] at h
     have hb1:=(qv8z.1 hb0).1
     cases l with
     | nil=>simp[run] at h
     | cons c l=>
      have hc:=c.toNat_lt
      by_cases hc0:nxt c (0+1+1+1)=0
      ·rw[qomx _ hc0] at h
       have hc1:=(qv8z.1 hc0).1
       cases l with
       | nil=>simp[run] at h
       | cons d l=>
        have hd:=d.toNat_lt
        by_cases hd0:nxt d (0+1+1+1+1)=0
        ·exact absurd (qv8z.1 hd0).2 (by decide)
        ·rw[q408 _ hd0] at h
         simp only[Prod.mk.injEq] at h
         obtain⟨hv,rfl,h1⟩:=h
         have h2:=qicf.1 h1
         have e:v=a.toNat%128+b.toNat%128*128+c.toNat%128*16384+d.toNat*2097152:=by rw[←hv];simp[grow];omega
         clear hv
         refine⟨by omega,by unfold sz;rw[if_neg (by omega),if_neg (by omega),if_neg (by omega),if_neg (by omega)],by simp,?_⟩
         simp[vb,List.range_succ]
         exact⟨ofb _ _ _ _ (by simp;omega),ofb _ _ _ _ (by simp;omega),ofb _ _ _ _ (by simp;omega),ofb _ _ _ _ (by simp;omega)⟩
      ·rw[q408 _ hc0] at h
       simp only[Prod.mk.injEq] at h
       obtain⟨hv,rfl,h1⟩:=h
       have h2:=qicf.1 h1
       have e:v=a.toNat%128+b.toNat%128*128+c.toNat*16384:=by rw[←hv];simp[grow];omega
       clear hv
       refine⟨by omega,by unfold sz;rw[if_neg (by omega),if_neg (by omega),if_neg (by omega),if_pos (by omega)],by simp,?_⟩
       simp[vb,List.range_succ]
       exact⟨ofb _ _ _ _ (by simp;omega),ofb _ _ _ _ (by simp;omega),ofb _ _ _ _ (by simp;omega)⟩
    ·rw[q408 _ hb0] at h
     simp only[Prod.mk.injEq] at h
     obtain⟨hv,rfl,h1⟩:=h
     have h2:=qicf.1 h1
     have e:v=a.toNat%128+b.toNat*128:=by rw[←hv];simp[grow];omega
     clear hv
     refine⟨by omega,by unfold sz;rw[if_neg (by omega),if_neg (by omega),if_pos (by omega)],by simp,?_⟩
     simp[vb,List.range_succ]
     exact⟨ofb _ _ _ _ (by simp;omega),ofb _ _ _ _ (by simp;omega)⟩
  ·rw[q408 _ ha0] at h
   simp only[Prod.mk.injEq] at h
   obtain⟨hv,rfl,h1⟩:=h
   have h2:=qicf.1 h1
   have e:v=a.toNat:=by rw[←hv];simp[grow];omega
   clear hv
   refine⟨by omega,by unfold sz;rw[if_neg (by omega),if_pos (by omega)],by simp,?_⟩
   simp[vb,List.range_succ]
   exact ofb _ _ _ _ (by simp;omega)
def lvls:List UInt8→List (List UInt8)
 | []=>[[]]
 | c::s=>if c=47 then []::lvls s else match lvls s with
  | []=>[[c]]
  | l::ls=>(c::l)::ls
def q8nq:List (List UInt8)→List UInt8
 | []=>[]
 | [l]=>l
 | l::m::ls=>l++47::q8nq (m::ls)
theorem q6q5(s:List UInt8):lvls s≠[]:=by
 cases s with
 | nil=>simp[lvls]
 | cons c s=>
  unfold lvls
  split
  ·simp
  ·split<;>simp
theorem q3eu(s:List UInt8):lvls (47::s)=[]::lvls s:=by simp[lvls]
theorem q6p0{c:UInt8}(h:c≠47)(s:List UInt8):∃l ls,lvls s=l::ls∧lvls (c::s)=(c::l)::ls:=by
 obtain⟨l,ls,e⟩:=List.exists_cons_of_ne_nil (q6q5 s)
 exact⟨l,ls,e,by rw[lvls,if_neg h,e]⟩
theorem qcnz(l:List UInt8){ls:List (List UInt8)}(h:ls≠[]):q8nq (l::ls)=l++47::q8nq ls:=by
 cases ls with
 | nil=>exact absurd rfl h
 | cons m ls=>rfl
theorem qz8l(s:List UInt8):q8nq (lvls s)=s:=by
 induction s with
 | nil=>rfl
 | cons c s ih=>
  by_cases h:c=47
  ·subst h
   rw[q3eu,qcnz _ (q6q5 s),ih];rfl
  ·obtain⟨l,ls,e1,e2⟩:=q6p0 h s
   rw[e2]
   rw[e1] at ih
   cases ls with
   | nil=>rw[←ih];rfl
   | cons m ls=>rw[qcnz _ (by simp)] at ih ⊢;rw[←ih];rfl
def flat(ls:List (List UInt8)):Prop:=∀l∈ls,(47:UInt8)∉l
theorem qxp9(s:List UInt8):flat (lvls s):=by
 induction s with
 | nil=>intro l hl;simp[lvls] at hl;subst hl;simp
 | cons c s ih=>
  by_cases h:c=47
  ·subst h
   rw[q3eu]
   intro l hl
   rcases List.mem_cons.1 hl with rfl | hl
   ·simp
   ·exact ih l hl
  ·obtain⟨l,ls,e1,e2⟩:=q6p0 h s
   rw[e2]
   rw[e1] at ih
   intro m hm
   rcases List.mem_cons.1 hm with rfl | hm
   ·have:=ih l (List.mem_cons_self ..)
    simp[this,Ne.symm h]
   ·exact ih m (List.mem_cons_of_mem _ hm)
theorem qty4{l:List UInt8}(h:(47:UInt8)∉l):lvls l=[l]:=by
 induction l with
 | nil=>rfl
 | cons c l ih=>
  simp at h
  rw[lvls,if_neg (fun e=>h.1 e.symm),ih h.2]
theorem quk3{l:List UInt8}(h:(47:UInt8)∉l)(s:List UInt8):lvls (l++47::s)=l::lvls s:=by
 induction l with
 | nil=>exact q3eu s
 | cons c l ih=>
  simp at h
  rw[List.cons_append,lvls,if_neg (fun e=>h.1 e.symm),ih h.2]
theorem qspi(s:List UInt8):(lvls s).length=s.count 47+1:=by
 induction s with
 | nil=>rfl
 | cons c s ih=>
  by_cases h:c=47
  ·subst h
   rw[q3eu,List.length_cons,ih,List.count_cons_self]
  ·obtain⟨l,ls,e1,e2⟩:=q6p0 h s
   rw[e2,List.count_cons_of_ne h,←ih,e1];rfl
def okl:List (List UInt8)→Prop
 | []=>True
 | l::ls=>((43:UInt8)∈l→l=[43])∧((35:UInt8)∈l→l=[35]∧ls=[])∧okl ls
instance okl_dec:(ls:List (List UInt8))→Decidable (okl ls)
 | []=>isTrue trivial
 | l::ls=>by
  have:=okl_dec ls
  unfold okl
  infer_instance
def q95c(s:List UInt8):Bool:=decide (s≠[])&&qecx s&&decide ((43:UInt8)∉s)&&decide ((35:UInt8)∉s)
def qw8n(s:List UInt8):Bool:=decide (s≠[])&&qecx s&&decide (okl (lvls s))
theorem q38c(s:List UInt8):qw8n s=true↔s≠[]∧qecx s=true∧okl (lvls s):=by
 unfold qw8n;simp[and_assoc]
structure PRow where
 shape:Nat
 kinds:List Int
 least:Nat
 most:Nat
def prow(id:Int):PRow:=
 if id=1 then⟨1,[3,16],0,1⟩
 else if id=2 then⟨3,[3,16],0,4294967295⟩
 else if id=3∨id=8 then⟨5,[3,16],0,0⟩
 else if id=9 then⟨6,[3,16],0,0⟩
 else if id=11 then⟨4,[3,8],1,268435455⟩
 else if id=17 then⟨3,[1,2,14],0,4294967295⟩
 else if id=18∨id=26 then⟨5,[2],0,0⟩
 else if id=19 then⟨2,[2],0,65535⟩
 else if id=21 then⟨5,[1,2,15],0,0⟩
 else if id=22 then⟨6,[1,2,15],0,0⟩
 else if id=23∨id=25 then⟨1,[1],0,1⟩
 else if id=24 then⟨3,[16],0,4294967295⟩
 else if id=28 then⟨5,[2,14],0,0⟩
 else if id=31 then⟨5,[2,4,5,6,7,9,11,14,15],0,0⟩
 else if id=33 then⟨2,[1,2],1,65535⟩
 else if id=34 then⟨2,[1,2],0,65535⟩
 else if id=35 then⟨2,[3],1,65535⟩
 else if id=36∨id=37∨id=40∨id=41∨id=42 then⟨1,[2],0,1⟩
 else if id=38 then⟨7,[1,2,3,4,5,6,7,8,9,10,11,14,15,16],0,0⟩
 else if id=39 then⟨3,[1,2],1,4294967295⟩
 else⟨0,[],0,0⟩
def qwgc(id:Int):Nat:=(prow id).shape
def mayP(kind id:Int):Bool:=(prow id).kinds.contains kind
def quux(kind id:Int):Bool:=mayP kind id&&(id==38 || (id==11&&kind==3))
def qr4y(kind:Int)(p:Pr):Nat:=
 if mayP kind p.id=false then 9
 else if qwgc p.id≤4 then
  if p.text≠[]∨p.value≠[] then 2
  else if p.n < (prow p.id).least∨(prow p.id).most < p.n then 9
  else 0
 else if p.n≠0∨(qwgc p.id≠7∧p.value≠[]) then 2
 else if qwgc p.id=6 then(if 65535 < p.text.length then 2 else 0)
 else if qecx p.text=false∨qecx p.value=false then 6
 else if p.id=8∧q95c p.text=false then 9
 else 0
theorem q0dw{id:Int}(h:id < 1∨42 < id):prow id=⟨0,[],0,0⟩:=by
 unfold prow
 repeat rw[if_neg (by omega)]
theorem qoa5(P:Int→PRow→Bool)(h:(List.range 43).all (fun k=>P (k:Int) (prow (k:Int)))=true){id:Int}(hi:1≤id∧id≤42):P id (prow id)=true:=by
 have:=List.all_eq_true.1 h id.toNat (List.mem_range.2 (by omega))
 rwa [show((id.toNat:Nat):Int)=id by omega] at this
theorem qilb{kind id:Int}(h:mayP kind id=true):1≤id∧id≤42:=by
 rcases Int.lt_or_le id 1 with h1 | h1
 ·unfold mayP at h;rw[q0dw (.inl h1)] at h;simp at h
 ·rcases Int.lt_or_le 42 id with h2 | h2
  ·unfold mayP at h;rw[q0dw (.inr h2)] at h;simp at h
  ·exact⟨h1,h2⟩
theorem q06q{kind id:Int}(h:mayP kind id=true):(prow id).kinds≠[]:=by
 intro e
 unfold mayP at h
 rw[e] at h
 simp at h
theorem qznl{kind id:Int}(h:mayP kind id=true):1≤qwgc id∧qwgc id≤7∧(qwgc id=1→(prow id).most < 256)∧(qwgc id=2→(prow id).most < 65536)∧(qwgc id=3→(prow id).most < 4294967296)∧(qwgc id=4→(prow id).most≤268435455)∧(id=8→qwgc id=5):=by
 have:=qoa5 (fun i r=>r.kinds.isEmpty || (decide (1≤r.shape)&&decide (r.shape≤7)&&(decide (r.shape≠1) || decide (r.most < 256))&&(decide (r.shape≠2) || decide (r.most < 65536))&&(decide (r.shape≠3) || decide (r.most < 4294967296))&&(decide (r.shape≠4) || decide (r.most≤268435455))&&(decide (i≠8) || decide (r.shape=5)))) (by decide) (qilb h)
 have hk:=q06q h
 unfold qwgc
 generalize prow id=r at *
 simp only[Bool.or_eq_true,Bool.and_eq_true,decide_eq_true_eq,List.isEmpty_iff] at this
 rcases this with e | ⟨⟨⟨⟨⟨⟨h1,h2⟩,h3⟩,h4⟩,h5⟩,h6⟩,h7⟩
 ·exact absurd e hk
 ·exact⟨h1,h2,fun e=>h3.resolve_left (fun x=>x e),fun e=>h4.resolve_left (fun x=>x e),fun e=>h5.resolve_left (fun x=>x e),fun e=>h6.resolve_left (fun x=>x e),fun e=>h7.resolve_left (fun x=>x e)⟩
def qgdb(p:Pr):List UInt8:=
 if qwgc p.id=1 then be p.n 1 else if qwgc p.id=2 then be p.n 2 else if qwgc p.id=3 then be p.n 4
 else if qwgc p.id=4 then vb p.n (sz p.n) else if qwgc p.id=7 then enc2 p.text++enc2 p.value else enc2 p.text
def numP(id:Int)(c:Nat)(r:List UInt8):Pr×Nat×Nat:=if r.length < c then(⟨id,0,[],[]⟩,0,5) else(⟨id,num (r.take c),[],[]⟩,c,0)
def q91e(data:Bool)(r:List UInt8):List UInt8×Nat×Nat:=if (rdB r).2.2≠0 then([],0,5) else if data || qecx (rdB r).1 then((rdB r).1,(rdB r).2.1,0) else([],0,6)
def qij7(id:Int)(r:List UInt8):Pr×Nat×Nat:=
 if qwgc id=1 then numP id 1 r else if qwgc id=2 then numP id 2 r else if qwgc id=3 then numP id 4 r
 else if qwgc id=4 then(if rdE r≠0 then(⟨id,0,[],[]⟩,0,5) else(⟨id,rdV r,[],[]⟩,rdN r,0))
 else if qwgc id=7 then
  (
   if (q91e false r).2.2≠0 then(⟨id,0,[],[]⟩,0,(q91e false r).2.2)
   else if (q91e false (r.drop (q91e false r).2.1)).2.2≠0 then(⟨id,0,[],[]⟩,0,(q91e false (r.drop (q91e false r).2.1)).2.2)
   else(⟨id,0,(q91e false r).1,(q91e false (r.drop (q91e false r).2.1)).1⟩,(q91e false r).2.1+(q91e false (r.drop (q91e false r).2.1)).2.1,0))
 else if (q91e (qwgc id==6) r).2.2≠0 then(⟨id,0,[],[]⟩,0,(q91e (qwgc id==6) r).2.2) else(⟨id,0,(q91e (qwgc id==6) r).1,[]⟩,(q91e (qwgc id==6) r).2.1,0)
theorem qo1o{kind:Int}{p:Pr}(h:qr4y kind p=0):mayP kind p.id=true∧
 (qwgc p.id≤4→p.text=[]∧p.value=[]∧(prow p.id).least≤p.n∧p.n≤(prow p.id).most)∧
 (4 < qwgc p.id→p.n=0∧(qwgc p.id≠7→p.value=[])∧(qwgc p.id=6→p.text.length≤65535)∧(qwgc p.id≠6→qecx p.text=true∧qecx p.value=true)):=by
 unfold qr4y at h
 by_cases hm:mayP kind p.id=true
 ·rw[if_neg (by simp[hm])] at h
  refine⟨hm,fun hs=>?_,fun hs=>?_⟩
  ·rw[if_pos hs] at h
   split at h
   ·cases h
   ·rename_i h1
    split at h
    ·cases h
    ·rename_i h2
     simp only[not_or,Decidable.not_not] at h1
     exact⟨h1.1,h1.2,by omega,by omega⟩
  ·rw[if_neg (by omega)] at h
   split at h
   ·cases h
   ·rename_i h1
    have h1a:p.n=0:=by
     rcases Nat.eq_zero_or_pos p.n with e | e
     ·exact e
     ·exact absurd (.inl (by omega)) h1
    have h1b:qwgc p.id≠7→p.value=[]:=fun e=>Classical.byContradiction fun x=>h1 (.inr ⟨e,x⟩)
    refine⟨h1a,h1b,fun e=>?_,fun e=>?_⟩
    ·rw[if_pos e] at h
     split at h
     ·cases h
     ·omega
    ·rw[if_neg e] at h
     split at h
     ·cases h
     ·rename_i h2
      simp only[not_or,Bool.not_eq_false] at h2
      exact h2
 ·rw[if_pos (by simpa using hm)] at h;cases h
def hasP(l:List Pr)(id:Int):Bool:=l.any fun p=>p.id==id
def qxv1(kind:Int)(l:List Pr)(id:Int):Bool:=hasP l id&&!quux kind id
def qwyx(l:List Pr):Bool:=hasP l 22&&!hasP l 21
def oneP(p:Pr):List UInt8:=UInt8.ofNat p.id.toNat::qgdb p
def q636(l:List Pr):List UInt8:=l.flatMap oneP
def q09m(kind:Int):List Pr→List Pr→Nat
 | _,[]=>0
 | pre,p::l=>if qr4y kind p≠0 then qr4y kind p else if qxv1 kind pre p.id then 9 else q09m kind (pre++[p]) l
def qpyu(kind:Int)(l:List Pr):Nat:=
 if 1000 < l.length then 4 else if q09m kind [] l≠0 then q09m kind [] l else if qwyx l then 9 else if 268435455 < (q636 l).length then 4 else 0
def q5aq(kind:Int)(l:List Pr):List UInt8×Nat:=
 if qpyu kind l≠0 then([],qpyu kind l) else(vb (q636 l).length (sz (q636 l).length)++q636 l,0)
def qwdr(kind:Int):Nat→List Pr→List UInt8→List Pr×Nat
 | 0,out,_=>(out,0)
 | f+1,out,s=>match s with
  | []=>(out,0)
  | b::r=>
   if mayP kind b.toNat=false then([],9)
   else if (qij7 b.toNat r).2.2≠0 then([],(qij7 b.toNat r).2.2)
   else if qr4y kind (qij7 b.toNat r).1≠0 then([],qr4y kind (qij7 b.toNat r).1)
   else if qxv1 kind out b.toNat then([],9)
   else if 1000≤out.length then([],4)
   else qwdr kind f (out++[(qij7 b.toNat r).1]) (r.drop (qij7 b.toNat r).2.1)
def qflw(kind:Int)(s:List UInt8):List Pr×Nat×Nat:=
 if rdE s≠0 then([],0,rdE s)
 else if s.length < rdN s+rdV s then([],0,3)
 else if (qwdr kind (rdV s) [] ((s.drop (rdN s)).take (rdV s))).2≠0 then([],0,(qwdr kind (rdV s) [] ((s.drop (rdN s)).take (rdV s))).2)
 else if qwyx (qwdr kind (rdV s) [] ((s.drop (rdN s)).take (rdV s))).1 then([],0,9)
 else((qwdr kind (rdV s) [] ((s.drop (rdN s)).take (rdV s))).1,rdN s+rdV s,0)
theorem qodo:q636 []=[]:=rfl
theorem qhx5(p:Pr)(l:List Pr):q636 (p::l)=oneP p++q636 l:=rfl
theorem qd67(a b:List Pr):q636 (a++b)=q636 a++q636 b:=by simp[q636]
theorem qnrl(p:Pr):(oneP p).length=(qgdb p).length+1:=rfl
theorem qpfx{kind:Int}{l:List Pr}(h:qpyu kind l=0):l.length≤1000∧q09m kind [] l=0∧qwyx l=false∧(q636 l).length≤268435455:=by
 unfold qpyu at h
 split at h
 ·cases h
 ·split at h
  ·rename_i h2;exact absurd h h2
  ·split at h
   ·cases h
   ·split at h
    ·cases h
    ·refine⟨by omega,by simp_all,by simp_all,by omega⟩
theorem qjrn{id:Int}{c k:Nat}{r:List UInt8}{p:Pr}(h:numP id c r=(p,k,0)):p=⟨id,num (r.take c),[],[]⟩∧k=c∧c≤r.length∧be (num (r.take c)) c=r.take c:=by
 unfold numP at h
 split at h
 ·simp at h
 ·rename_i hl
  simp only[Prod.mk.injEq,and_true] at h
  obtain⟨rfl,rfl⟩:=h
  refine⟨rfl,rfl,by omega,?_⟩
  have:=qz9g (r.take c)
  rwa [List.length_take,Nat.min_eq_left (by omega)] at this
theorem qkkc{data:Bool}{r t:List UInt8}{k:Nat}(h:q91e data r=(t,k,0)):r.take k=enc2 t∧k≤r.length∧k=(enc2 t).length∧(data=false→qecx t=true)∧t.length≤65535:=by
 unfold q91e at h
 rcases qsrz r with ⟨h1,h2,h3,h4,h5⟩ | h1
 ·rw[if_neg (by simp[h1])] at h
  split at h
  ·rename_i hv
   simp only[Prod.mk.injEq,and_true] at h
   obtain⟨rfl,rfl⟩:=h
   refine⟨h5,h3,by rw[qnp6];omega,fun e=>by simpa [e] using hv,by omega⟩
  ·simp at h
 ·rw[h1] at h;simp at h
theorem q5uz{id:Int}{r:List UInt8}{p:Pr}{k:Nat}(_hs:1≤qwgc id)(h:qij7 id r=(p,k,0)):p.id=id∧k≤r.length∧qgdb p=r.take k:=by
 unfold qij7 at h
 unfold qgdb
 by_cases s1:qwgc id=1
 ·rw[if_pos s1] at h
  obtain⟨rfl,rfl,hl,hb⟩:=qjrn h
  exact⟨rfl,hl,by simp only[s1,if_true];exact hb⟩
 by_cases s2:qwgc id=2
 ·rw[if_neg s1,if_pos s2] at h
  obtain⟨rfl,rfl,hl,hb⟩:=qjrn h
  exact⟨rfl,hl,by simp only[s2,if_true,show ¬(2:Nat)=1 by decide,if_false];exact hb⟩
 by_cases s3:qwgc id=3
 ·rw[if_neg s1,if_neg s2,if_pos s3] at h
  obtain⟨rfl,rfl,hl,hb⟩:=qjrn h
  exact⟨rfl,hl,by simp only[s3,if_true,show ¬(3:Nat)=1 by decide,show ¬(3:Nat)=2 by decide,if_false];exact hb⟩
 by_cases s4:qwgc id=4
 ·rw[if_neg s1,if_neg s2,if_neg s3,if_pos s4] at h
  split at h
  ·rename_i hne;simp only[Prod.mk.injEq] at h;exact absurd h.2.2 (by decide)
  ·rename_i hz
   simp only[Prod.mk.injEq,and_true] at h
   obtain⟨rfl,rfl⟩:=h
   obtain⟨v,n,st,hr⟩:∃v n st,run 0 0 r=(v,n,st):=⟨_,_,_,rfl⟩
   obtain⟨e1,e2,e3⟩:=qa1w hr
   have hst:st=1:=by
    rw[e3] at hz
    rcases qh9e r 0 0 with h0 | h0 | h0
    all_goals (rw[hr] at h0;simp only at h0;subst h0)
    ·simp at hz
    ·rfl
    ·simp at hz
   subst hst
   obtain⟨b1,b2,b3,b4⟩:=qvpf r v n hr
   simp only[if_true] at e1 e2
   rw[e1,e2]
   refine⟨rfl,b3,?_⟩
   simp only[s4,if_true,show ¬(4:Nat)=1 by decide,show ¬(4:Nat)=2 by decide,show ¬(4:Nat)=3 by decide,if_false]
   rw[←b2,b4]
 rw[if_neg s1,if_neg s2,if_neg s3,if_neg s4] at h
 by_cases s7:qwgc id=7
 ·rw[if_pos s7] at h
  split at h
  ·rename_i hne;simp only[Prod.mk.injEq] at h;exact absurd h.2.2 hne
  ·rename_i hz1
   split at h
   ·rename_i hne;simp only[Prod.mk.injEq] at h;exact absurd h.2.2 hne
   ·rename_i hz2
    simp only[Prod.mk.injEq,and_true] at h
    obtain⟨rfl,rfl⟩:=h
    simp only[ne_eq,Decidable.not_not] at hz1 hz2
    obtain⟨a1,a2,a3,_,_⟩:=qkkc (data:=false) (r:=r) (t:=(q91e false r).1) (k:=(q91e false r).2.1) (by rw[←hz1])
    obtain⟨c1,c2,c3,_,_⟩:=qkkc (data:=false) (r:=r.drop (q91e false r).2.1) (t:=(q91e false (r.drop (q91e false r).2.1)).1) (k:=(q91e false (r.drop (q91e false r).2.1)).2.1) (by rw[←hz2])
    rw[List.length_drop] at c2
    refine⟨rfl,by omega,?_⟩
    simp only[s7,if_true,show ¬(7:Nat)=1 by decide,show ¬(7:Nat)=2 by decide,show ¬(7:Nat)=3 by decide,show ¬(7:Nat)=4 by decide,if_false]
    rw[←a1,←c1,List.take_add]
 ·rw[if_neg s7] at h
  split at h
  ·rename_i hne;simp only[Prod.mk.injEq] at h;exact absurd h.2.2 hne
  ·rename_i hz1
   simp only[Prod.mk.injEq,and_true] at h
   obtain⟨rfl,rfl⟩:=h
   simp only[ne_eq,Decidable.not_not] at hz1
   obtain⟨a1,a2,a3,_,_⟩:=qkkc (data:=(qwgc id==6)) (r:=r) (t:=(q91e (qwgc id==6) r).1) (k:=(q91e (qwgc id==6) r).2.1) (by rw[←hz1])
   refine⟨rfl,a2,?_⟩
   show(if qwgc id=1 then _ else _)=_
   rw[if_neg s1,if_neg s2,if_neg s3,if_neg s4,if_neg s7]
   exact a1.symm
theorem qsu0(kind:Int):∀(f:Nat) (out:List Pr) (s:List UInt8) (l:List Pr),s.length≤f→out.length≤1000→qwdr kind f out s=(l,0)→∃m,l=out++m∧q09m kind out m=0∧q636 m=s∧l.length≤1000
 | 0,out,s,l,hf,ho,h=>by
  have:s=[]:=List.eq_nil_of_length_eq_zero (by omega)
  subst this
  simp only[qwdr,Prod.mk.injEq,and_true] at h
  subst h
  exact⟨[],by simp,rfl,rfl,ho⟩
 | f+1,out,[],l,hf,ho,h=>by
  simp only[qwdr,Prod.mk.injEq,and_true] at h
  subst h
  exact⟨[],by simp,rfl,rfl,ho⟩
 | f+1,out,b::r,l,hf,ho,h=>by
  rw[qwdr] at h
  split at h
  ·simp at h
  ·rename_i hm
   have hm:mayP kind b.toNat=true:=by simpa using hm
   split at h
   ·rename_i hne;simp only[Prod.mk.injEq] at h;exact absurd h.2 hne
   ·rename_i hn0
    split at h
    ·rename_i hne;simp only[Prod.mk.injEq] at h;exact absurd h.2 hne
    ·rename_i hc
     split at h
     ·simp at h
     ·rename_i ht
      split at h
      ·simp at h
      ·rename_i hl
       have hs1:=(qznl hm).1
       obtain⟨e1,e2,e3⟩:=q5uz (id:=b.toNat) (r:=r) (p:=(qij7 b.toNat r).1) (k:=(qij7 b.toNat r).2.1) hs1 (by
        have:(qij7 b.toNat r).2.2=0:=by simpa using hn0
        rw[←this])
       generalize (qij7 b.toNat r).1=p at *
       generalize (qij7 b.toNat r).2.1=k at *
       have hc:qr4y kind p=0:=by simpa using hc
       obtain⟨m,k1,k2,k3,k4⟩:=qsu0 kind f (out++[p]) (r.drop k) l (by rw[List.length_drop];simp at hf;omega) (by simp;omega) h
       refine⟨p::m,by rw[k1];simp,?_,?_,k4⟩
       ·rw[q09m,if_neg (by simp[hc]),e1,if_neg ht]
        exact k2
       ·rw[qhx5,k3]
        unfold oneP
        rw[e1,e3]
        simp
theorem qugf{kind:Int}{s:List UInt8}{l:List Pr}{n:Nat}(h:qflw kind s=(l,n,0)):qpyu kind l=0∧n≤s.length∧(q5aq kind l).1=s.take n:=by
 unfold qflw at h
 split at h
 ·rename_i hne;simp only[Prod.mk.injEq] at h;exact absurd h.2.2 hne
 ·rename_i h0
  split at h
  ·simp at h
  ·rename_i hle
   split at h
   ·rename_i hne;simp only[Prod.mk.injEq] at h;exact absurd h.2.2 hne
   ·rename_i hf
    split at h
    ·simp at h
    ·rename_i hlo
     simp only[Prod.mk.injEq,and_true] at h
     obtain⟨rfl,rfl⟩:=h
     obtain⟨v,c,st,hr⟩:∃v n st,run 0 0 s=(v,n,st):=⟨_,_,_,rfl⟩
     obtain⟨e1,e2,e3⟩:=qa1w hr
     have hst:st=1:=by
      rw[e3] at h0
      rcases qh9e s 0 0 with h1 | h1 | h1
      all_goals (rw[hr] at h1;simp only at h1;subst h1)
      ·simp at h0
      ·rfl
      ·simp at h0
     subst hst
     obtain⟨b1,b2,b3,b4⟩:=qvpf s v c hr
     simp only[if_true] at e1 e2
     rw[e1,e2] at hle hf hlo
     rw[e1,e2]
     obtain⟨m,k1,k2,k3,k4⟩:=qsu0 kind v [] ((s.drop c).take v) (qwdr kind v [] ((s.drop c).take v)).1 (by rw[List.length_take];omega) (by simp) (by
      have:(qwdr kind v [] ((s.drop c).take v)).2=0:=by simpa using hf
      rw[←this])
     rw[List.nil_append] at k1
     rw[k1] at hlo k4 ⊢
     have hlen:(q636 m).length=v:=by rw[k3,List.length_take,List.length_drop];omega
     have hv:qpyu kind m=0:=by
      unfold qpyu
      rw[if_neg (by omega),if_neg (by simp[k2]),if_neg hlo,if_neg (by omega)]
     refine⟨hv,by omega,?_⟩
     unfold q5aq
     rw[if_neg (by simp[hv])]
     show vb (q636 m).length (sz (q636 m).length)++q636 m=_
     rw[hlen,←b2,←b4,k3,List.take_add]
structure W4 where
 a:Nat
 b:Nat
 c:Nat
 d:Nat
def setc(s:W4)(n:Nat):W4:=
 if n < 64 then {s with a:=s.a ||| 2^(n%64)} else if n < 128 then {s with b:=s.b ||| 2^(n%64)} else if n < 192 then {s with c:=s.c ||| 2^(n%64)} else {s with d:=s.d ||| 2^(n%64)}
def addR(s:W4)(f:Nat):Nat→W4
 | 0=>s
 | n+1=>setc (addR s f n) (f+n)
def ofL(l:List Nat):W4:=l.foldl setc ⟨0,0,0,0⟩
def word(s:W4)(n:Nat):Nat:=if n < 64 then s.a else if n < 128 then s.b else if n < 192 then s.c else s.d
def hasW(s:W4)(n:Nat):Bool:=decide (n < 256)&&(word s n / 2^(n%64)%2==1)
structure OkW(s:W4):Prop where
 a:s.a < 18446744073709551616
 b:s.b < 18446744073709551616
 c:s.c < 18446744073709551616
 d:s.d < 18446744073709551616
theorem or_lt{x n:Nat}(hx:x < 18446744073709551616)(hn:n < 64):x ||| 2^n < 18446744073709551616:=
 Nat.or_lt_two_pow (n:=64) hx (Nat.pow_lt_pow_right (by decide) hn)
theorem OkW.setc{s:W4}(h:OkW s)(n:Nat):OkW (setc s n):=by
 have hn:n%64 < 64:=Nat.mod_lt _ (by decide)
 unfold Proofs.YtbecggefmbpnoaaGreatDoor.setc
 split
 ·exact⟨or_lt h.a hn,h.b,h.c,h.d⟩
 split
 ·exact⟨h.a,or_lt h.b hn,h.c,h.d⟩
 split
 ·exact⟨h.a,h.b,or_lt h.c hn,h.d⟩
 ·exact⟨h.a,h.b,h.c,or_lt h.d hn⟩
theorem OkW.addR{s:W4}(h:OkW s)(f:Nat):∀n,OkW (addR s f n)
 | 0=>h
 | n+1=>(OkW.addR h f n).setc _
theorem q4il:∀(l:List Nat) (s:W4),OkW s→OkW (l.foldl setc s)
 | [],_,h=>h
 | n::l,_,h=>q4il l _ (h.setc n)
theorem OkW.ofL(l:List Nat):OkW (ofL l):=q4il l _ ⟨by decide,by decide,by decide,by decide⟩
def grp(kind:Int):Nat:=
 if kind=2 then 1 else if kind=4∨kind=5 then 2 else if kind=6∨kind=7 then 3 else if kind=9 then 4 else if kind=11 then 5 else if kind=14 then 6 else if kind=15 then 7 else 0
def qedv:Nat→List Nat
 | 1=>[0,128,129,130,131,132,133,134,135,136,137,138,140,144,149,151,153,154,155,156,157,159]
 | 2=>[0,16,128,131,135,144,145,151,153]
 | 3=>[0,146]
 | 4=>[0,1,2,128,131,135,143,145,151,158,161,162]
 | 5=>[0,17,128,131,135,143,145]
 | 6=>[0,4,128,129,130,131,135,137,139,141,142,143,144,147,148,149,150,151,152,153,154,155,156,157,158,159,160,161,162]
 | 7=>[0,24,25]
 | _=>[]
def q71c:Nat→W4
 | 1=>addR (addR (ofL [0,140,144,149,151,159]) 128 11) 153 5
 | 2=>ofL [0,16,128,131,135,144,145,151,153]
 | 3=>ofL [0,146]
 | 4=>ofL [0,1,2,128,131,135,143,145,151,158,161,162]
 | 5=>ofL [0,17,128,131,135,143,145]
 | 6=>addR (addR (ofL [0,4,135,137,139,141,142,143,144]) 128 4) 147 16
 | 7=>ofL [0,24,25]
 | _=>⟨0,0,0,0⟩
theorem qljz(kind:Int):grp kind < 8:=by
 unfold grp
 repeat' (first | decide | split)
theorem qjuf:∀g,OkW (q71c g)
 | 0=>⟨by decide,by decide,by decide,by decide⟩
 | 1=>((OkW.ofL _).addR _ _).addR _ _
 | 2=>OkW.ofL _
 | 3=>OkW.ofL _
 | 4=>OkW.ofL _
 | 5=>OkW.ofL _
 | 6=>((OkW.ofL _).addR _ _).addR _ _
 | 7=>OkW.ofL _
 | n+8=>show OkW ⟨0,0,0,0⟩ from⟨by decide,by decide,by decide,by decide⟩
theorem qy5i:∀g < 8,∀n < 256,hasW (q71c g) n=(qedv g).contains n:=by decide+kernel
theorem q5yb:∀g < 8,∀n∈qedv g,n < 163:=by decide+kernel
theorem qi9u(kind:Int)(n:Nat):hasW (q71c (grp kind)) n=(qedv (grp kind)).contains n:=by
 by_cases hn:n < 256
 ·exact qy5i _ (qljz kind) n hn
 ·have h1:(qedv (grp kind)).contains n=false:=by
   rw[Bool.eq_false_iff]
   intro h
   have:=q5yb _ (qljz kind) n (List.contains_iff_mem.1 h)
   omega
  rw[h1]
  unfold hasW
  simp[hn]
def mayR(kind code:Int):Bool:=decide (0≤code)&&(qedv (grp kind)).contains code.toNat
def qw69(code:Int):Bool:=code==0 || code==1 || code==2 || code==128
def bitC(b:Bool)(n:Nat):Nat:=if b then n else 0
def versC(v:Int):Bool:=v==4 || v==5
def qfk9(v kind:Int)(l:List Pr):Nat:=if v=5 then qpyu kind l else 0
def qasq(v kind:Int)(l:List Pr):List UInt8:=if v=5 then(q5aq kind l).1 else []
def q1f4:List UInt8:=[77,81,84,84]
structure Cs where
 r:List UInt8
 e:Nat
def Cs.fail(s:Cs)(e:Nat):Cs:=if s.e≠0 then s else⟨s.r,e⟩
def Cs.take(s:Cs)(n:Nat):List UInt8×Cs:=if s.e≠0 then([],s) else if s.r.length < n then([],⟨s.r,3⟩) else(s.r.take n,⟨s.r.drop n,0⟩)
def Cs.num(s:Cs)(n:Nat):Nat×Cs:=(Go.Proofs.YtbecggefmbpnoaaGreatDoor.num (s.take n).1,(s.take n).2)
def Cs.text(s:Cs):List UInt8×Cs:=if s.e≠0 then([],s) else((rdT s.r).1,⟨s.r.drop (rdT s.r).2.1,(rdT s.r).2.2⟩)
def Cs.props(s:Cs)(v kind:Int):List Pr×Cs:=if s.e≠0∨v≠5 then([],s) else((qflw kind s.r).1,⟨s.r.drop (qflw kind s.r).2.1,(qflw kind s.r).2.2⟩)
def Cs.name(s:Cs):Cs:=if (s.take 6).2.e=0∧(s.take 6).1≠enc2 q1f4 then(s.take 6).2.fail 5 else(s.take 6).2
theorem Cs.one_app{k:Nat}{t:List UInt8}(h:k < 256):(Cs.mk ([UInt8.ofNat k]++t) 0).num 1=(k,⟨t,0⟩):=by
 have:(UInt8.ofNat k).toNat=k:=n8 h
 simp[Cs.num,Cs.take,Go.Proofs.YtbecggefmbpnoaaGreatDoor.num]
 omega
def fl(u a r w c:Bool)(q:Nat):Nat:=bitC u 128+bitC a 64+bitC r 32+8*q+bitC w 4+bitC c 2
theorem Cs.take_back{s:Cs}{n:Nat}(h:(s.take n).2.e=0):s.e=0∧s.r=(s.take n).1++(s.take n).2.r∧(s.take n).1.length=n:=by
 unfold Cs.take at h ⊢
 split at h
 ·rename_i h1;exact absurd h h1
 ·rename_i h1
  split at h
  ·cases h
  ·rename_i h2
   rw[if_neg h1,if_neg h2]
   refine⟨by simpa using h1,(List.take_append_drop n s.r).symm,by simp;omega⟩
theorem Cs.num_back{s:Cs}{n:Nat}(h:(s.num n).2.e=0):s.e=0∧s.r=be (s.num n).1 n++(s.num n).2.r∧(s.num n).1 < 256^n:=by
 obtain⟨h1,h2,h3⟩:=Cs.take_back (s:=s) (n:=n) h
 refine⟨h1,?_,?_⟩
 ·show s.r=be (Go.Proofs.YtbecggefmbpnoaaGreatDoor.num (s.take n).1) n++(s.take n).2.r
  have:=qz9g (s.take n).1
  rw[h3] at this
  rw[this]
  exact h2
 ·have:=qn9h (s.take n).1
  rw[h3] at this
  exact this
theorem Cs.text_back{s:Cs}(h:s.text.2.e=0):s.e=0∧s.r=enc2 s.text.1++s.text.2.r∧qecx s.text.1=true:=by
 unfold Cs.text at h ⊢
 split at h
 ·rename_i h1;exact absurd h h1
 ·rename_i h1
  rw[if_neg h1]
  have h:(rdT s.r).2.2=0:=h
  show s.e=0∧s.r=enc2 (rdT s.r).1++s.r.drop (rdT s.r).2.1∧qecx (rdT s.r).1=true
  rw[rdT] at h ⊢
  split at h
  ·cases h
  ·rename_i h2
   split at h
   ·rename_i h3
    rw[if_neg h2,if_pos h3]
    rcases qsrz s.r with ⟨_,_,_,_,h5⟩ | h5
    ·exact⟨by simpa using h1,by rw[←h5,List.take_append_drop],h3⟩
    ·rw[h5] at h2;exact absurd (by decide) h2
   ·cases h
theorem qpzx{k:Nat}:be k 1=[UInt8.ofNat k]:=by simp[be]
theorem Cs.fail_no{s:Cs}{e:Nat}(h:(s.fail e).e=0):s.e=0∧e=0:=by
 unfold Cs.fail at h
 split at h
 ·rename_i h1;exact absurd h h1
 ·rename_i h1;exact⟨by simpa using h1,h⟩
def qveh(x:Cs)(f:Nat):Cs:=(if x.e=0∧x.r≠[] then x.fail 5 else x).fail f
def tl(ls:List (List UInt8)):Nat:=(ls.map fun l=>l.length+1).sum
section
variable{s:List UInt8}(hn:q95c s=true)(hs:s.length≤200)
end
def share:List UInt8:=[36,115,104,97,114,101]
def qar3(s:List UInt8):List UInt8×List UInt8×Bool:=
 match lvls s with
 | h::g::f::ls=>if qecx s=true∧h=share∧g≠[]∧(43:UInt8)∉g∧(35:UInt8)∉g∧qw8n (q8nq (f::ls))=true then(g,q8nq (f::ls),true) else([],[],false)
 | _=>([],[],false)
theorem qt0s:(47:UInt8)∉share:=by decide
theorem qe2w(s:List UInt8):(∃g f,qar3 s=(g,f,true)∧s=share++47::(g++47::f)∧g≠[]∧qw8n f=true∧qecx s=true∧(43:UInt8)∉g∧(35:UInt8)∉g∧(47:UInt8)∉g)∨qar3 s=([],[],false):=by
 unfold qar3
 have hj:=qz8l s
 have hf:=qxp9 s
 split
 ·rename_i h g f ls e
  rw[e] at hj hf
  split
  ·rename_i hc
   obtain⟨h1,rfl,h3,h4,h5,h6⟩:=hc
   refine .inl ⟨g,q8nq (f::ls),rfl,?_,h3,h6,h1,h4,h5,hf g (by simp)⟩
   rw[←hj,qcnz _ (by simp),qcnz g (by simp)]
  ·exact .inr rfl
 ·exact .inr rfl
def qsfj(k:Int):Bool:=k==8 || k==10
def qfws(k:Int):Bool:=decide (8≤k)&&decide (k≤11)
def qumw(v:Int)(p:Pk):Pk:={Pk.zero with kind:=p.kind,id:=p.id,props:=p.props,filters:=if qsfj p.kind then p.filters else [],codes:=if !qsfj p.kind&&(p.kind==9 || v==5) then p.codes else []}
def okS(v:Int)(p:Pk):Bool:=
 versC v&&qfws p.kind&&decide (p=qumw v p)&&(decide (1≤p.id)&&decide (p.id≤65535))&&!(v==4&&!p.props.isEmpty)&&!(p.filters.isEmpty&&p.codes.isEmpty&&!(p.kind==11&&v==4))
def q7yu(f:Fi):Fi:=⟨f.topic,0,false,false,0⟩
def optS(v kind:Int)(f:Fi):Bool:=
 if kind=10 then decide (f=q7yu f)
 else(decide (0≤f.qos)&&decide (f.qos≤2)&&(decide (0≤f.handling)&&decide (f.handling≤2)))&&if v=4 then !f.noLocal&&!f.asPub&&f.handling==0 else !f.noLocal || !(qar3 f.topic).2.2
def q190(v kind n:Int):Bool:=if v=4 then qw69 n else mayR kind n
def qlck(v kind:Int):List Fi→Nat
 | []=>0
 | f::l=>if qw8n f.topic=false then 10 else if optS v kind f=false then 2 else qlck v kind l
def qq92(v kind:Int):List Int→Nat
 | []=>0
 | c::l=>if q190 v kind c=false then 2 else qq92 v kind l
def q3m2(v:Int)(p:Pk):Nat:=
 if okS v p=false then 2 else if qfk9 v p.kind p.props≠0 then qfk9 v p.kind p.props else if qlck v p.kind p.filters≠0 then qlck v p.kind p.filters else qq92 v p.kind p.codes
def qang(f:Fi):Nat:=(f.qos%4).toNat+16*(f.handling%4).toNat+bitC f.noLocal 4+bitC f.asPub 8
def qjk5(kind:Int)(f:Fi):List UInt8:=enc2 f.topic++if kind=8 then [UInt8.ofNat (qang f)] else []
def q56c(l:List Int):List UInt8:=l.map fun c=>UInt8.ofNat c.toNat
def rawS(v:Int)(p:Pk):List UInt8:=be p.id.toNat 2++(qasq v p.kind p.props++(p.filters.flatMap (qjk5 p.kind)++q56c p.codes))
def qktk(v:Int)(p:Pk):List UInt8×Nat:=if q3m2 v p≠0 then([],q3m2 v p) else(rawS v p,0)
def q7vq(t:List UInt8)(n:Nat):Fi:=⟨t,(n%4:Nat),n / 4%2==1,n / 8%2==1,(n / 16%4:Nat)⟩
def Cs.filt(s:Cs)(v kind:Int):Fi×Cs:=
 let t:=s.text
 if kind=10 then(⟨t.1,0,false,false,0⟩,t.2)
 else
  let n:=t.2.num 1
  (q7vq t.1 n.1,if 63 < n.1∨(v=4∧3 < n.1) then n.2.fail 7 else n.2)
def Cs.filts(v kind:Int):Nat→Cs→List Fi×Cs
 | 0,s=>([],s)
 | n+1,s=>if s.e≠0∨s.r=[] then([],s) else((s.filt v kind).1::(Cs.filts v kind n (s.filt v kind).2).1,(Cs.filts v kind n (s.filt v kind).2).2)
def Cs.codes(s:Cs):List Int×Cs:=if s.e≠0 then([],s) else(s.r.map (fun b=>((b.toNat:Nat):Int)),⟨[],0⟩)
def q7qx(v kind:Int)(s:Cs):Pk×Cs:=
 let i:=s.num 2
 let p:=i.2.props v kind
 if qsfj kind then
  let f:=Cs.filts v kind p.2.r.length p.2
  ({Pk.zero with kind:=kind,id:=(i.1:Nat),props:=p.1,filters:=f.1},f.2)
 else({Pk.zero with kind:=kind,id:=(i.1:Nat),props:=p.1,codes:=p.2.codes.1},p.2.codes.2)
def q98d(v kind:Int)(l:List UInt8):Pk×Nat:=
 if (versC v&&qfws kind)=false then(Pk.zero,2)
 else
  let x:=q7qx v kind ⟨l,0⟩
  let s:=qveh x.2 (q3m2 v x.1)
  if s.e≠0 then(Pk.zero,s.e) else(x.1,0)
def qoit(v:Int)(p q:Pk):Bool:=
 qsfj p.kind&&q.kind==p.kind+1&&decide (q3m2 v p=0)&&decide (q3m2 v q=0)&&p.id==q.id&&(q.kind==11&&v==4 || q.codes.length==p.filters.length)
theorem q7kh(t:List UInt8){n:Nat}(h:n≤63):qang (q7vq t n)=n:=by
 have h2:∀m,m < 64→qang (q7vq [] m)=m:=by decide+kernel
 have:=h2 n (by omega)
 exact this
theorem qme0{t:List UInt8}(h:qw8n t=true):qecx t=true:=by
 simp only[qw8n,Bool.and_eq_true] at h
 exact h.1.2
theorem q267{v kind:Int}:∀{l:List Fi},qlck v kind l=0→∀f∈l,qw8n f.topic=true∧optS v kind f=true
 | [],_,f,hf=>by cases hf
 | g::l,h,f,hf=>by
  unfold qlck at h
  split at h
  ·cases h
  split at h
  ·cases h
  rename_i h1 h2
  rcases List.mem_cons.1 hf with rfl | hf
  ·exact⟨by simpa using h1,by simpa using h2⟩
  ·exact q267 h f hf
theorem q6r9{v kind:Int}:∀{l:List Int},qq92 v kind l=0→∀c∈l,q190 v kind c=true
 | [],_,f,hf=>by cases hf
 | g::l,h,f,hf=>by
  unfold qq92 at h
  split at h
  ·cases h
  rename_i h1
  rcases List.mem_cons.1 hf with rfl | hf
  ·simpa using h1
  ·exact q6r9 h f hf
theorem qzk9{v kind c:Int}(h:q190 v kind c=true):0≤c∧c < 163:=by
 unfold q190 at h
 split at h
 ·simp only[qw69,Bool.or_eq_true,beq_iff_eq] at h
  omega
 ·simp only[mayR,Bool.and_eq_true,decide_eq_true_eq] at h
  have:=q5yb (grp kind) (qljz kind) c.toNat (by simpa using h.2)
  omega
theorem ok_s{v:Int}{p:Pk}(h:okS v p=true):(v=4∨v=5)∧(8≤p.kind∧p.kind≤11)∧p=qumw v p∧(1≤p.id∧p.id≤65535)∧(v=4→p.props=[])∧(p.filters=[]→p.codes=[]→p.kind=11∧v=4):=by
 unfold okS at h
 simp only[Bool.and_eq_true,Bool.or_eq_true,beq_iff_eq,decide_eq_true_eq,versC,qfws] at h
 obtain⟨⟨⟨⟨⟨hv,hk⟩,hu⟩,hi⟩,h4⟩,he⟩:=h
 refine⟨hv,hk,hu,hi,fun e=>?_,fun e1 e2=>?_⟩
 ·subst e
  simpa using h4
 ·rw[e1,e2] at he
  simpa using he
theorem q87v{v:Int}{p:Pk}(h:q3m2 v p=0):okS v p=true∧qfk9 v p.kind p.props=0∧qlck v p.kind p.filters=0∧qq92 v p.kind p.codes=0:=by
 unfold q3m2 at h
 split at h
 ·cases h
 split at h
 ·rename_i h1 h2;exact absurd h h2
 split at h
 ·rename_i h1 h2 h3;exact absurd h h3
 rename_i h1 h2 h3
 exact⟨by simpa using h1,by simpa using h2,by simpa using h3,h⟩
theorem q9zy{k:Int}(hk:8≤k∧k≤11):(qsfj k=true∧(k=8∨k=10))∨(qsfj k=false∧(k=9∨k=11)):=by
 obtain rfl | rfl | rfl | rfl:k=8∨k=9∨k=10∨k=11:=by omega
 ·exact .inl ⟨rfl,.inl rfl⟩
 ·exact .inr ⟨rfl,.inl rfl⟩
 ·exact .inl ⟨rfl,.inr rfl⟩
 ·exact .inr ⟨rfl,.inr rfl⟩
theorem qmqi{v:Int}{p:Pk}(hu:p=qumw v p):(qsfj p.kind=true→p.codes=[])∧(qsfj p.kind=false→p.filters=[]):=by
 constructor
 ·intro h
  have:=congrArg Pk.codes hu
  rw[qumw,h] at this
  simpa using this
 ·intro h
  have:=congrArg Pk.filters hu
  rw[qumw,h] at this
  simpa using this
theorem q0ul(kind:Int)(f:Fi):qjk5 kind f≠[]:=by
 intro e
 have:=congrArg List.length e
 rw[qjk5,List.length_append,qnp6,List.length_nil] at this
 omega
theorem q749{s:Cs}{v kind:Int}(hk:kind=8∨kind=10)(h:(s.filt v kind).2.e=0):s.e=0∧s.r=qjk5 kind (s.filt v kind).1++(s.filt v kind).2.r:=by
 rcases hk with rfl | rfl
 ·unfold Cs.filt at h ⊢
  simp only[show ¬((8:Int)=10) by decide,if_false] at h ⊢
  obtain⟨n,hn⟩:∃n,s.text.2.num 1=n:=⟨_,rfl⟩
  rw[hn] at h ⊢
  by_cases hb:63 < n.1∨(v=4∧3 < n.1)
  ·rw[if_pos hb] at h
   exact absurd (Cs.fail_no h).2 (by decide)
  ·rw[if_neg hb] at h ⊢
   have h1:=Cs.num_back (s:=s.text.2) (n:=1) (by rw[hn];exact h)
   rw[hn,qpzx] at h1
   obtain⟨h2,h3,_⟩:=h1
   obtain⟨h4,h5,_⟩:=Cs.text_back h2
   refine⟨h4,?_⟩
   have hx:n.1≤63:=by
    rcases Nat.lt_or_ge 63 n.1 with h | h
    ·exact absurd (.inl h) hb
    ·exact h
   show s.r=qjk5 8 (q7vq s.text.1 n.1)++n.2.r
   rw[qjk5,if_pos rfl,q7kh _ hx]
   show s.r=enc2 s.text.1++[UInt8.ofNat n.1]++n.2.r
   rw[List.append_assoc,←h3]
   exact h5
 ·unfold Cs.filt at h ⊢
  simp only[if_true] at h ⊢
  obtain⟨h4,h5,_⟩:=Cs.text_back h
  refine⟨h4,?_⟩
  rw[qjk5,if_neg (by decide),List.append_nil]
  exact h5
end Go.Proofs.YtbecggefmbpnoaaGreatDoor
