/- Plain facts on UTF-8: the bytes of a code point, the code point with which a list of bytes begins, all code points of a list up to the first place where none begins; how they split and join. No condition. -/
import Derived.Lib.Hide
import GoSem.Core.Utf8
namespace Go.Proofs.YtbklidpadffpgaaGreat
def okc(c:Nat):Prop:=0 < c∧(c < 55296∨(57344≤c∧c≤1114111))
def cb(c:Nat):List UInt8:=
 if c < 128 then [UInt8.ofNat c]
 else if c < 2048 then [UInt8.ofNat (192+c / 64),UInt8.ofNat (128+c%64)]
 else if c < 65536 then [UInt8.ofNat (224+c / 4096),UInt8.ofNat (128+c / 64%64),UInt8.ofNat (128+c%64)]
 else [UInt8.ofNat (240+c / 262144),UInt8.ofNat (128+c / 4096%64),UInt8.ofNat (128+c / 64%64),UInt8.ofNat (128+c%64)]
theorem qpx1(c:Nat):Utf8.valid (c:Int)=true↔c < 55296∨(57344≤c∧c≤1114111):=by
 unfold Utf8.valid
 simp only[Bool.or_eq_true,Bool.and_eq_true,decide_eq_true_eq]
 omega
theorem qe4n{c:Nat}(h:okc c):Utf8.valid (c:Int)=true:=(qpx1 c).2 h.2
def dl(l:List UInt8):Nat×Nat:=
 let at' (k:Nat):Nat:=(l.getD k 0).toNat
 let cont (k:Nat):Bool:=k < l.length&&at' k / 64==2
 let b0:=at' 0
 if b0 < 128 then(b0,1)
 else if b0 / 32==6&&cont 1 then
  let c:=(b0%32)*64+at' 1%64
  if c≥128 then(c,2) else(65533,1)
 else if b0 / 16==14&&cont 1&&cont 2 then
  let c:=(b0%16)*4096+(at' 1%64)*64+at' 2%64
  if c≥2048&&Utf8.valid c then(c,3) else(65533,1)
 else if b0 / 8==30&&cont 1&&cont 2&&cont 3 then
  let c:=(b0%8)*262144+(at' 1%64)*4096+(at' 2%64)*64+at' 3%64
  if c≥65536&&Utf8.valid c then(c,4) else(65533,1)
 else(65533,1)
theorem qiqk(s:ByteArray)(i k:Nat):s.get! (i+k)=(s.data.toList.drop i).getD k 0:=by
 rw[ByteArray.get!,List.getD_eq_getElem?_getD,List.getElem?_drop,Array.getElem!_eq_getD,Array.getD_eq_getD_getElem?]
 simp
 rfl
theorem q4qv(s:ByteArray)(i k:Nat):(i+k < s.size)=(k < (s.data.toList.drop i).length):=by
 have:s.size=s.data.toList.length:=by simp
 rw[this,List.length_drop]
 apply propext
 omega
theorem qf0g(s:ByteArray)(i:Nat):Utf8.decode s i=dl (s.data.toList.drop i):=by
 unfold Utf8.decode dl
 simp only[qiqk,q4qv]
 rfl
def hd(l:List UInt8):Option Nat:=if l=[]∨(dl l).1=0∨((dl l).1=65533∧(dl l).2=1) then none else some (dl l).1
theorem n8{n:Nat}(h:n < 256):(UInt8.ofNat n).toNat=n:=by rw[UInt8.toNat_ofNat'];omega
theorem b8(b:UInt8){n:Nat}(h:b.toNat=n):UInt8.ofNat n=b:=by subst h;simp
theorem qyly{c:Nat}(h:okc c)(l:List UInt8):dl (cb c++l)=(c,(cb c).length):=by
 have hv:=qe4n h
 obtain⟨h0,h1⟩:=h
 unfold cb
 split
 ·rename_i h2
  simp[dl,n8 (show c < 256 by omega),h2]
 ·split
  ·rename_i h2 h3
   have e0:=n8 (show 192+c / 64 < 256 by omega)
   have e1:=n8 (show 128+c%64 < 256 by omega)
   simp only[dl,List.cons_append,List.nil_append,List.getD_cons_zero,List.getD_cons_succ,e0,e1]
   rw[if_neg (by omega),if_pos (by simp;omega),if_pos (by omega)]
   simp;omega
  ·split
   ·rename_i h2 h3 h4
    have e0:=n8 (show 224+c / 4096 < 256 by omega)
    have e1:=n8 (show 128+c / 64%64 < 256 by omega)
    have e2:=n8 (show 128+c%64 < 256 by omega)
    have ec:(224+c / 4096)%16*4096+(128+c / 64%64)%64*64+(128+c%64)%64=c:=by omega
    simp only[dl,List.cons_append,List.nil_append,List.getD_cons_zero,List.getD_cons_succ,e0,e1,e2,ec]
    rw[if_neg (by omega),if_neg (by simp;omega),if_pos (by simp;omega),if_pos (by simp[hv];omega)]
    simp
   ·rename_i h2 h3 h4
    have e0:=n8 (show 240+c / 262144 < 256 by omega)
    have e1:=n8 (show 128+c / 4096%64 < 256 by omega)
    have e2:=n8 (show 128+c / 64%64 < 256 by omega)
    have e3:=n8 (show 128+c%64 < 256 by omega)
    have ec:(240+c / 262144)%8*262144+(128+c / 4096%64)%64*4096+(128+c / 64%64)%64*64+(128+c%64)%64=c:=by omega
    simp only[dl,List.cons_append,List.nil_append,List.getD_cons_zero,List.getD_cons_succ,e0,e1,e2,e3,ec]
    rw[if_neg (by omega),if_neg (by simp;omega),if_neg (by simp;omega),if_pos (by simp;omega),if_pos (by simp[hv];omega)]
    simp
theorem qp6t(c:Nat):0 < (cb c).length:=by unfold cb;split<;>(try split)<;>(try split)<;>simp
theorem qqv9(c:Nat):(cb c).length=if c < 128 then 1 else if c < 2048 then 2 else if c < 65536 then 3 else 4:=by
 unfold cb;split<;>(try split)<;>(try split)<;>simp
theorem q3q9(c:Nat)(l:List UInt8):cb c++l≠[]:=by
 have:=qp6t c
 intro h
 have:(cb c++l).length=0:=by rw[h];rfl
 simp at this
 simp[this] at *
theorem qwug{c:Nat}(h:okc c)(l:List UInt8):hd (cb c++l)=some c:=by
 unfold hd
 rw[qyly h,if_neg]
 rintro(e | e | ⟨e,e2⟩)
 ·exact q3q9 c l e
 ·have:=h.1;simp at e;omega
 ·simp at e e2
  subst e
  simp[qqv9] at e2
theorem qp9j(l:List UInt8)(hl:l≠[]):dl l=(65533,1)∨(dl l).1=0∨(okc (dl l).1∧(dl l).2=(cb (dl l).1).length∧∃r,l=cb (dl l).1++r):=by
 unfold dl
 simp only[]
 obtain⟨b0,l0,rfl⟩:=List.exists_cons_of_ne_nil hl
 have h0:=b0.toNat_lt
 simp only[List.getD_cons_zero,List.getD_cons_succ,List.length_cons]
 split
 ·rename_i hb
  by_cases hz:b0.toNat=0
  ·exact .inr (.inl hz)
  ·refine .inr (.inr ⟨⟨by omega,by omega⟩,?_,l0,?_⟩)
   ·simp[cb,hb]
   ·simp[cb,hb]
 ·split
  ·rename_i hb hc
   rcases l0 with _ | ⟨b1,l1⟩
   ·simp at hc
   simp at hc
   have h1:=b1.toNat_lt
   simp only[List.getD_cons_zero]
   split
   ·rename_i hd
    have hk:¬b0.toNat%32*64+b1.toNat%64 < 128:=by omega
    have hk2:b0.toNat%32*64+b1.toNat%64 < 2048:=by omega
    refine .inr (.inr ⟨⟨by simp;omega,by simp;omega⟩,?_,l1,?_⟩)
    ·simp[cb,hk,hk2]
    ·simp only[cb,hk,hk2,if_true,if_false]
     rw[b8 b0 (by omega),b8 b1 (by omega)]
     rfl
   ·exact .inl rfl
  ·split
   ·rename_i hb hb2 hc
    rcases l0 with _ | ⟨b1,_ | ⟨b2,l2⟩⟩
    ·simp at hc
    ·simp at hc
    simp at hc
    have h1:=b1.toNat_lt
    have h2:=b2.toNat_lt
    simp only[List.getD_cons_zero,List.getD_cons_succ]
    split
    ·rename_i hd
     simp only[Bool.and_eq_true,decide_eq_true_eq,qpx1] at hd
     generalize hC:b0.toNat%16*4096+b1.toNat%64*64+b2.toNat%64=C at hd
     have hk:¬C < 128:=by omega
     have hk2:¬C < 2048:=by omega
     have hk3:C < 65536:=by omega
     refine .inr (.inr ⟨⟨by simp;omega,hd.2⟩,?_,l2,?_⟩)
     ·simp[cb,hk,hk2,hk3]
     ·simp only[cb,hk,hk2,hk3,if_false]
      rw[b8 b0 (by omega),b8 b1 (by omega),b8 b2 (by omega)]
      rfl
    ·exact .inl rfl
   ·split
    ·rename_i hb hb2 hb3 hc
     rcases l0 with _ | ⟨b1,_ | ⟨b2,_ | ⟨b3,l3⟩⟩⟩
     ·simp at hc
     ·simp at hc
     ·simp at hc
     simp at hc
     have h1:=b1.toNat_lt
     have h2:=b2.toNat_lt
     have h3:=b3.toNat_lt
     simp only[List.getD_cons_zero,List.getD_cons_succ]
     split
     ·rename_i hd
      simp only[Bool.and_eq_true,decide_eq_true_eq,qpx1] at hd
      generalize hC:b0.toNat%8*262144+b1.toNat%64*4096+b2.toNat%64*64+b3.toNat%64=C at hd
      have hk:¬C < 128:=by omega
      have hk2:¬C < 2048:=by omega
      have hk3:¬C < 65536:=by omega
      refine .inr (.inr ⟨⟨by simp;omega,hd.2⟩,?_,l3,?_⟩)
      ·simp[cb,hk,hk2,hk3]
      ·simp only[cb,hk,hk2,hk3,if_false]
       rw[b8 b0 (by omega),b8 b1 (by omega),b8 b2 (by omega),b8 b3 (by omega)]
       rfl
     ·exact .inl rfl
    ·exact .inl rfl
theorem qsz3{l:List UInt8}{c:Nat}(h:hd l=some c):okc c∧∃r,l=cb c++r:=by
 unfold hd at h
 split at h
 ·cases h
 ·rename_i hn
  have e:(dl l).1=c:=by simpa using h
  have hne:l≠[]:=fun e=>hn (.inl e)
  rcases qp9j l hne with h1 | h1 | ⟨h1,_,h2⟩
  ·exact absurd (.inr (.inr (by rw[h1];exact⟨rfl,rfl⟩))) hn
  ·exact absurd (.inr (.inl h1)) hn
  ·rw[e] at h1 h2;exact⟨h1,h2⟩
theorem q51d{l:List UInt8}(hl:l≠[])(h:hd l=none):dl l=(65533,1)∨(dl l).1=0:=by
 rcases qp9j l hl with h1 | h1 | ⟨h1,h2,h3,h4⟩
 ·exact .inl h1
 ·exact .inr h1
 ·generalize (dl l).1=c at h1 h4
  subst h4
  rw[qwug h1] at h
  cases h
def pts(l:List UInt8):List Nat:=
 match _h:hd l with
 | none=>[]
 | some c=>c::pts (l.drop (cb c).length)
termination_by l.length
decreasing_by
 obtain⟨_,r,rfl⟩:=qsz3 _h
 have:=qp6t c
 simp
 omega
def cbs(cs:List Nat):List UInt8:=cs.flatMap cb
def oks(cs:List Nat):Prop:=∀c∈cs,okc c
theorem qbw4:cbs []=[]:=rfl
theorem q7su(c:Nat)(cs:List Nat):cbs (c::cs)=cb c++cbs cs:=rfl
theorem q5g4(a b:List Nat):cbs (a++b)=cbs a++cbs b:=by simp[cbs]
theorem q6ts(a:List Nat)(c:Nat):cbs (a++[c])=cbs a++cb c:=by simp[cbs]
theorem qvel{l:List UInt8}(h:hd l=none):pts l=[]:=by
 rw[pts]
 split
 ·rfl
 ·rename_i c hc;rw[h] at hc;cases hc
theorem qqzy{c:Nat}(h:okc c)(l:List UInt8):pts (cb c++l)=c::pts l:=by
 rw[pts]
 have e:=qwug h l
 split
 ·rename_i hc;rw[e] at hc;cases hc
 ·rename_i c' hc
  rw[e] at hc
  obtain rfl:c=c':=by simpa using hc
  simp
theorem q2qr:hd []=none:=by simp[hd]
theorem qahv:pts []=[]:=qvel q2qr
theorem q2hb:∀(n:Nat) (l:List UInt8),l.length≤n→oks (pts l)∧∃r,l=cbs (pts l)++r∧hd r=none
 | 0,l,h=>by
  obtain rfl:l=[]:=List.eq_nil_of_length_eq_zero (by omega)
  rw[qahv]
  exact⟨by simp[oks],[],rfl,q2qr⟩
 | n+1,l,h=>by
  cases hc:hd l with
  | none=>
   rw[qvel hc]
   exact⟨by simp[oks],l,rfl,hc⟩
  | some c=>
   obtain⟨ho,r,rfl⟩:=qsz3 hc
   have:=qp6t c
   rw[qqzy ho]
   obtain⟨h1,r2,h2,h3⟩:=q2hb n r (by simp at h;omega)
   refine⟨fun d hd=>(List.mem_cons.1 hd).elim (fun e=>e▸ho) (h1 d),r2,?_,h3⟩
   rw[q7su,List.append_assoc,←h2]
theorem qiv7(l:List UInt8):oks (pts l):=(q2hb _ l (Nat.le_refl _)).1
theorem q454(l:List UInt8):∃r,l=cbs (pts l)++r∧hd r=none:=(q2hb _ l (Nat.le_refl _)).2
theorem q9zi{cs:List Nat}(h:oks cs)(l:List UInt8):pts (cbs cs++l)=cs++pts l:=by
 induction cs with
 | nil=>rfl
 | cons c cs ih=>
  rw[q7su,List.append_assoc,qqzy (h c (List.mem_cons_self ..)),ih fun d hd=>h d (List.mem_cons_of_mem _ hd)]
  rfl
theorem q38h{cs:List Nat}(h:oks cs):pts (cbs cs)=cs:=by
 have:=q9zi h []
 rwa [List.append_nil,qahv,List.append_nil] at this
def fin(l:List UInt8):Nat:=(cbs (pts l)).length
theorem q1um(l:List UInt8):fin l≤l.length:=by
 obtain⟨r,h,_⟩:=q454 l
 unfold fin
 have:=congrArg List.length h
 simp at this
 omega
def qpht(l:List UInt8):Int:=if fin l < l.length then(fin l:Int) else -1
def qecx(l:List UInt8):Bool:=decide (l.length≤65535)&&decide (qpht l < 0)
theorem qbv6(l:List UInt8):qecx l=true↔l.length≤65535∧fin l=l.length:=by
 unfold qecx qpht
 have:=q1um l
 simp only[Bool.and_eq_true,decide_eq_true_eq]
 constructor
 ·rintro⟨h1,h2⟩
  refine⟨h1,?_⟩
  split at h2<;>omega
 ·rintro⟨h1,h2⟩
  refine⟨h1,?_⟩
  rw[if_neg (by omega)];omega
def marks(p:Nat):List Nat→List (Nat×Nat)
 | []=>[]
 | c::cs=>(p,c)::marks (p+(cb c).length) cs
theorem qx0j(cs:List Nat):∀p,(marks p cs).length=cs.length:=by
 induction cs with
 | nil=>intro p;rfl
 | cons c cs ih=>intro p;simp[marks,ih]
theorem qfk7(a b:List Nat):∀p,marks p (a++b)=marks p a++marks (p+(cbs a).length) b:=by
 induction a with
 | nil=>intro p;simp[marks,cbs]
 | cons c a ih=>
  intro p
  rw[q7su,List.length_append,List.cons_append,marks,ih,marks,List.cons_append,Nat.add_assoc]
theorem qwxc(a:List Nat)(c:Nat):marks 0 (a++[c])=marks 0 a++[((cbs a).length,c)]:=by
 rw[qfk7];simp[marks]
def be(n:Nat):Nat→List UInt8
 | 0=>[]
 | c+1=>be (n / 256) c++[UInt8.ofNat n]
theorem q0rl(c:Nat):∀n,(be n c).length=c:=by
 induction c with
 | zero=>intro n;rfl
 | succ c ih=>intro n;simp[be,ih]
theorem qxkn(n c k:Nat)(hk:k < c):be (n / 256^(c - (k+1))) (k+1)=be (n / 256^(c - k)) k++[UInt8.ofNat (n / 256^(c - (k+1)))]:=by
 have e:c - k=(c - (k+1))+1:=by omega
 rw[be,e,Nat.pow_succ,Nat.div_div_eq_div_mul]
def num(l:List UInt8):Nat:=l.foldl (fun a b=>a*256+b.toNat) 0
theorem q4zn(l:List UInt8)(b:UInt8):num (l++[b])=num l*256+b.toNat:=by simp[num]
theorem qn9h(l:List UInt8):num l < 256^l.length:=by
 have key:∀(k:Nat) (l:List UInt8),l.length=k→num l < 256^k:=by
  intro k
  induction k with
  | zero=>intro l h;have:l=[]:=List.eq_nil_of_length_eq_zero h;subst this;decide
  | succ k ih=>
   intro l h
   rcases List.eq_nil_or_concat l with rfl | ⟨l',b,rfl⟩
   ·simp at h
   ·simp at h
    have:=ih l' h
    have hb:=b.toNat_lt
    rw[List.concat_eq_append,q4zn,Nat.pow_succ]
    omega
 exact key _ l rfl
theorem q7wd(c:Nat):∀n,num (be n c)=n%256^c:=by
 induction c with
 | zero=>intro n;simp[be,num,Nat.mod_one]
 | succ c ih=>
  intro n
  rw[be,q4zn,ih,Nat.pow_succ,Nat.mul_comm (256^c) 256,Nat.mod_mul,UInt8.toNat_ofNat']
  omega
theorem qz9g(l:List UInt8):be (num l) l.length=l:=by
 have key:∀(k:Nat) (l:List UInt8),l.length=k→be (num l) k=l:=by
  intro k
  induction k with
  | zero=>intro l h;have:l=[]:=List.eq_nil_of_length_eq_zero h;subst this;rfl
  | succ k ih=>
   intro l h
   rcases List.eq_nil_or_concat l with rfl | ⟨l',b,rfl⟩
   ·simp at h
   ·simp at h
    have hb:=b.toNat_lt
    rw[List.concat_eq_append,q4zn,be]
    have e:(num l'*256+b.toNat) / 256=num l':=by omega
    rw[e,ih l' h]
    congr 2
    apply UInt8.toNat_inj.1
    rw[UInt8.toNat_ofNat']
    omega
 exact key _ l rfl
def enc2(l:List UInt8):List UInt8:=be l.length 2++l
theorem qnp6(l:List UInt8):(enc2 l).length=l.length+2:=by simp[enc2,q0rl];omega
theorem qpeh(l:List UInt8):num (l.take 2) < 65536:=by
 have h:=qn9h (l.take 2)
 have hl:(l.take 2).length≤2:=by simp;omega
 have:=Nat.pow_le_pow_right (show 0 < 256 by decide) hl
 omega
def rdB(l:List UInt8):List UInt8×Nat×Nat:=
 if 2≤l.length∧2+num (l.take 2)≤l.length then((l.drop 2).take (num (l.take 2)),2+num (l.take 2),0) else([],0,3)
def rdT(l:List UInt8):List UInt8×Nat×Nat:=
 if (rdB l).2.2≠0 then([],0,3) else if qecx (rdB l).1 then rdB l else([],0,6)
theorem qsrz(l:List UInt8):((rdB l).2.2=0∧(rdB l).1.length+2=(rdB l).2.1∧(rdB l).2.1≤l.length∧(rdB l).2.1 < 65538∧l.take (rdB l).2.1=enc2 (rdB l).1)∨rdB l=([],0,3):=by
 unfold rdB
 split
 ·rename_i h
  refine .inl ⟨rfl,?_,h.2,by have:=qpeh l;simp;omega,?_⟩
  ·simp;omega
  ·have hl:((l.drop 2).take (num (l.take 2))).length=num (l.take 2):=by simp;omega
   have hb:=qz9g (l.take 2)
   have h2:(l.take 2).length=2:=by simp;omega
   rw[h2] at hb
   show l.take (2+num (l.take 2))=enc2 _
   rw[enc2,hl,hb,List.take_add]
 ·exact .inr rfl
def nxt(b:UInt8)(n:Nat):Nat:=if 128≤b.toNat then(if n=4 then 2 else 0) else if b.toNat=0∧1 < n then 2 else 1
def grow(v n:Nat)(b:UInt8):Nat:=v+b.toNat%128*128^n
def run(v n:Nat):List UInt8→Nat×Nat×Nat
 | []=>(v,n,0)
 | b::l=>if nxt b (n+1)=0 then run (grow v n b) (n+1) l else(grow v n b,n+1,nxt b (n+1))
theorem qlf0(b:UInt8)(n:Nat):nxt b n=0∨nxt b n=1∨nxt b n=2:=by
 unfold nxt;split<;>split<;>simp
theorem qv8z{b:UInt8}{n:Nat}:nxt b n=0↔128≤b.toNat∧n≠4:=by
 unfold nxt;split<;>split<;>simp_all
 all_goals omega
theorem qicf{b:UInt8}{n:Nat}:nxt b n=1↔b.toNat < 128∧(0 < b.toNat∨n≤1):=by
 unfold nxt;split<;>split<;>simp_all<;>omega
theorem qt6b{b:UInt8}{n:Nat}:nxt b n=2↔(128≤b.toNat∧n=4)∨(b.toNat=0∧1 < n):=by
 unfold nxt;split<;>split<;>simp_all<;>omega
theorem qpfr{v n:Nat}(b:UInt8)(h:v < 128^n):grow v n b < 128^(n+1):=by
 unfold grow
 have h1:b.toNat%128≤127:=by omega
 have h2:b.toNat%128*128^n≤127*128^n:=Nat.mul_le_mul_right _ h1
 rw[Nat.pow_succ]
 omega
theorem qomx{v n:Nat}{b:UInt8}(l:List UInt8)(h:nxt b (n+1)=0):run v n (b::l)=run (grow v n b) (n+1) l:=by simp[run,h]
theorem q408{v n:Nat}{b:UInt8}(l:List UInt8)(h:nxt b (n+1)≠0):run v n (b::l)=(grow v n b,n+1,nxt b (n+1)):=by simp[run,h]
theorem qh9e:∀(l:List UInt8) (v n:Nat),(run v n l).2.2=0∨(run v n l).2.2=1∨(run v n l).2.2=2:=by
 intro l
 induction l with
 | nil=>intro v n;simp[run]
 | cons a l ih=>
  intro v n
  by_cases h0:nxt a (n+1)=0
  ·rw[qomx _ h0];exact ih _ _
  ·rw[q408 _ h0];exact qlf0 _ _
def rdV(l:List UInt8):Nat:=if (run 0 0 l).2.2=1 then(run 0 0 l).1 else 0
def rdN(l:List UInt8):Nat:=if (run 0 0 l).2.2=1 then(run 0 0 l).2.1 else 0
def rdE(l:List UInt8):Nat:=if (run 0 0 l).2.2=0 then 3 else if (run 0 0 l).2.2=1 then 0 else 5
theorem qa1w{l:List UInt8}{v n st:Nat}(h:run 0 0 l=(v,n,st)):rdV l=(if st=1 then v else 0)∧rdN l=(if st=1 then n else 0)∧rdE l=if st=0 then 3 else if st=1 then 0 else 5:=by
 simp[rdV,rdN,rdE,h]
def sz(n:Int):Nat:=if n < 0∨268435455 < n then 0 else if n < 128 then 1 else if n < 16384 then 2 else if n < 2097152 then 3 else 4
def byt(n c i:Nat):UInt8:=UInt8.ofNat (n / 128^i%128+if i+1 < c then 128 else 0)
def vb(n c:Nat):List UInt8:=(List.range c).map (byt n c)
theorem q8sw(n c:Nat):(vb n c).length=c:=by simp[vb]
theorem qa5k(n c i:Nat):(byt n c i).toNat=n / 128^i%128+if i+1 < c then 128 else 0:=by
 unfold byt
 have:n / 128^i%128 < 128:=Nat.mod_lt _ (by decide)
 simp only[UInt8.toNat_ofNat']
 split<;>omega
theorem qnl4(n:Nat)(h:n≤268435455):(sz n=1∧n < 128)∨(sz n=2∧128≤n∧n < 16384)∨(sz n=3∧16384≤n∧n < 2097152)∨(sz n=4∧2097152≤n):=by
 unfold sz;split
 ·omega
 ·split
  ·omega
  ·split
   ·omega
   ·split<;>omega
theorem qbck{n:Int}:sz n=0↔n < 0∨268435455 < n:=by
 unfold sz;split
 ·simp[*]
 ·split
  ·simp[*]
  ·split
   ·simp[*]
   ·split<;>simp[*]
theorem qvpf(l:List UInt8)(v n:Nat)(h:run 0 0 l=(v,n,1)):v≤268435455∧n=sz v∧n≤l.length∧l.take n=vb v n:=by
 have ofb:∀(a:UInt8) (x c i:Nat),a.toNat=(x / 128^i%128+if i+1 < c then 128 else 0)→a=byt x c i:=fun a x c i e=>UInt8.toNat_inj.1 (by rw[qa5k,e])
 cases l with
 | nil=>simp[run] at h
 | cons a l=>
  have ha:=a.toNat_lt
  by_cases ha0:nxt a (0+1)=0
  ·rw[qomx _ ha0] at h
   have ha1:=(qv8z.1 ha0).1
   cases l with
   | nil=>simp[run] at h
   | cons b l=>
    have hb:=b.toNat_lt
    by_cases hb0:nxt b (0+1+1)=0
    ·rw[qomx _ hb0] at h
     have hb1:=(qv8z.1 hb0).1
     cases l with
     | nil=>simp[run] at h
     | cons c l=>
      have hc:=c.toNat_lt
      by_cases hc0:nxt c (0+1+1+1)=0
      ·rw[qomx _ hc0] at h
       have hc1:=(qv8z.1 hc0).1
       cases l with
       | nil=>simp[run] at h
       | cons d l=>
        have hd:=d.toNat_lt
        by_cases hd0:nxt d (0+1+1+1+1)=0
        ·exact absurd (qv8z.1 hd0).2 (by decide)
        ·rw[q408 _ hd0] at h
         simp only[Prod.mk.injEq] at h
         obtain⟨hv,rfl,h1⟩:=h
         have h2:=qicf.1 h1
         have e:v=a.toNat%128+b.toNat%128*128+c.toNat%128*16384+d.toNat*2097152:=by rw[←hv];simp[grow];omega
         clear hv
         refine⟨by omega,by unfold sz;rw[if_neg (by omega),if_neg (by omega),if_neg (by omega),if_neg (by omega)],by simp,?_⟩
         simp[vb,List.range_succ]
         exact⟨ofb _ _ _ _ (by simp;omega),ofb _ _ _ _ (by simp;omega),ofb _ _ _ _ (by simp;omega),ofb _ _ _ _ (by simp;omega)⟩
      ·rw[q408 _ hc0] at h
       simp only[Prod.mk.injEq] at h
       obtain⟨hv,rfl,h1⟩:=h
       have h2:=qicf.1 h1
       have e:v=a.toNat%128+b.toNat%128*128+c.toNat*16384:=by rw[←hv];simp[grow];omega
       clear hv
       refine⟨by omega,by unfold sz;rw[if_neg (by omega),if_neg (by omega),if_neg (by omega),if_pos (by omega)],by simp,?_⟩
       simp[vb,List.range_succ]
       exact⟨ofb _ _ _ _ (by simp;omega),ofb _ _ _ _ (by simp;omega),ofb _ _ _ _ (by simp;omega)⟩
    ·rw[q408 _ hb0] at h
     simp only[Prod.mk.injEq] at h
     obtain⟨hv,rfl,h1⟩:=h
     have h2:=qicf.1 h1
     have e:v=a.toNat%128+b.toNat*128:=by rw[←hv];simp[grow];omega
     clear hv
     refine⟨by omega,by unfold sz;rw[if_neg (by omega),if_neg (by omega),if_pos (by omega)],by simp,?_⟩
     simp[vb,List.range_succ]
     exact⟨ofb _ _ _ _ (by simp;omega),ofb _ _ _ _ (by simp;omega)⟩
  ·rw[q408 _ ha0] at h
   simp only[Prod.mk.injEq] at h
   obtain⟨hv,rfl,h1⟩:=h
   have h2:=qicf.1 h1
   have e:v=a.toNat:=by rw[←hv];simp[grow];omega
   clear hv
   refine⟨by omega,by unfold sz;rw[if_neg (by omega),if_pos (by omega)],by simp,?_⟩
   simp[vb,List.range_succ]
   exact ofb _ _ _ _ (by simp;omega)
def okl:List (List UInt8)→Prop
 | []=>True
 | l::ls=>((43:UInt8)∈l→l=[43])∧((35:UInt8)∈l→l=[35]∧ls=[])∧okl ls
instance okl_dec:(ls:List (List UInt8))→Decidable (okl ls)
 | []=>isTrue trivial
 | l::ls=>by
  have:=okl_dec ls
  unfold okl
  infer_instance
def q95c(s:List UInt8):Bool:=decide (s≠[])&&qecx s&&decide ((43:UInt8)∉s)&&decide ((35:UInt8)∉s)
end Go.Proofs.YtbklidpadffpgaaGreat
