/- A property, as plain data. No program. Condition: none. -/
import Derived.Test.YtefmhbioggcfaaaGreatDoorK04
namespace Go.Proofs.YtefmhbioggcfaaaGreatDoor
structure Pr where
 id:Int
 n:Nat
 text:List UInt8
 value:List UInt8
deriving DecidableEq
structure Fi where
 topic:List UInt8
 qos:Int
 noLocal:Bool
 asPub:Bool
 handling:Int
deriving DecidableEq
structure Pk where
 kind:Int
 dup:Bool
 retain:Bool
 qos:Int
 id:Int
 topic:List UInt8
 payload:List UInt8
 clean:Bool
 keep:Int
 client:List UInt8
 hasUser:Bool
 user:List UInt8
 hasPass:Bool
 pass:List UInt8
 hasWill:Bool
 wTopic:List UInt8
 wPayload:List UInt8
 wQos:Int
 wRetain:Bool
 wProps:List Pr
 session:Bool
 code:Int
 codes:List Int
 filters:List Fi
 props:List Pr
deriving DecidableEq
def Pk.nums(p:Pk):List Int:=[p.kind,p.qos,p.id,p.keep,p.code,p.wQos]
def Pk.marks(p:Pk):List Bool:=[p.dup,p.retain,p.clean,p.hasUser,p.hasPass,p.hasWill,p.session,p.wRetain]
def Pk.texts(p:Pk):List (List UInt8):=[p.topic,p.payload,p.client,p.user,p.pass,p.wTopic,p.wPayload]
theorem qpgn(p q:Pk):p=q↔p.nums=q.nums/\p.marks=q.marks/\p.texts=q.texts/\p.codes=q.codes/\p.filters=q.filters/\p.props=q.props/\p.wProps=q.wProps:=by
 constructor
 ·rintro rfl;exact⟨rfl,rfl,rfl,rfl,rfl,rfl,rfl⟩
 ·obtain⟨⟩:=p;obtain⟨⟩:=q;rintro⟨h1,h2,h3,h4,h5,h6,h7⟩;simp only[Pk.nums,Pk.marks,Pk.texts,List.cons.injEq,and_true] at h1 h2 h3;simp only at h4 h5 h6 h7;obtain⟨rfl,rfl,rfl,rfl,rfl,rfl⟩:=h1;obtain⟨rfl,rfl,rfl,rfl,rfl,rfl,rfl,rfl⟩:=h2;obtain⟨rfl,rfl,rfl,rfl,rfl,rfl,rfl⟩:=h3;subst h4 h5 h6 h7
  rfl
def Pk.zero:Pk:=⟨0,false,false,0,0,[],[],false,0,[],false,[],false,[],false,[],[],0,false,[],false,0,[],[],[]⟩
def q21o(p:Pk):Prop:=p.codes.length<=70000/\p.filters.length<=70000/\p.props.length<=70000/\p.wProps.length<=70000
def okc(c:Nat):Prop:=0<c/\(c<55296\/(57344<=c/\c<=1114111))
def cb(c:Nat):List UInt8:=
 if c<128 then [UInt8.ofNat c]
 else if c<2048 then [UInt8.ofNat (192+c / 64),UInt8.ofNat (128+c%64)]
 else if c<65536 then [UInt8.ofNat (224+c / 4096),UInt8.ofNat (128+c / 64%64),UInt8.ofNat (128+c%64)]
 else [UInt8.ofNat (240+c / 262144),UInt8.ofNat (128+c / 4096%64),UInt8.ofNat (128+c / 64%64),UInt8.ofNat (128+c%64)]
theorem qpx1(c:Nat):Utf8.valid (c:Int)=true↔c<55296\/(57344<=c/\c<=1114111):=by unfold Utf8.valid;simp only[Bool.or_eq_true,Bool.and_eq_true,decide_eq_true_eq];omega
theorem qe4n{c:Nat}(h:okc c):Utf8.valid (c:Int)=true:=(qpx1 c).2 h.2
def dl(l:List UInt8):Nat×Nat:=
 let at' (k:Nat):Nat:=(l.getD k 0).toNat
 let cont (k:Nat):Bool:=k<l.length&&at' k / 64==2
 let b0:=at' 0
 if b0<128 then(b0,1)
 else if b0 / 32==6&&cont 1 then
  let c:=(b0%32)*64+at' 1%64
  if c≥128 then(c,2) else(65533,1)
 else if b0 / 16==14&&cont 1&&cont 2 then
  let c:=(b0%16)*4096+(at' 1%64)*64+at' 2%64
  if c≥2048&&Utf8.valid c then(c,3) else(65533,1)
 else if b0 / 8==30&&cont 1&&cont 2&&cont 3 then
  let c:=(b0%8)*262144+(at' 1%64)*4096+(at' 2%64)*64+at' 3%64
  if c≥65536&&Utf8.valid c then(c,4) else(65533,1)
 else(65533,1)
theorem qiqk(s:ByteArray)(i k:Nat):s.get! (i+k)=(s.data.toList.drop i).getD k 0:=by
 rw[ByteArray.get!,List.getD_eq_getElem?_getD,List.getElem?_drop,Array.getElem!_eq_getD,Array.getD_eq_getD_getElem?];simp
 rfl
theorem q4qv(s:ByteArray)(i k:Nat):(i+k<s.size)=(k<(s.data.toList.drop i).length):=by
 have:s.size=s.data.toList.length:=by simp
 rw[this,List.length_drop];apply propext;omega
theorem qf0g(s:ByteArray)(i:Nat):Utf8.decode s i=dl (s.data.toList.drop i):=by
 unfold Utf8.decode dl;simp only[qiqk,q4qv]
 rfl
def hd(l:List UInt8):Option Nat:=if l=[]\/(dl l).1=0\/((dl l).1=65533/\(dl l).2=1) then none else some (dl l).1
theorem n8{n:Nat}(h:n<256):(UInt8.ofNat n).toNat=n:=by rw[UInt8.toNat_ofNat'];omega
theorem b8(b:UInt8){n:Nat}(h:b.toNat=n):UInt8.ofNat n=b:=by subst h;simp
theorem qyly{c:Nat}(h:okc c)(l:List UInt8):dl (cb c++l)=(c,(cb c).length):=by
 have hv:=qe4n h;obtain⟨h0,h1⟩:=h;unfold cb;split
 ·rename_i h2;simp[dl,n8 (show c<256 by omega),h2]
 ·split
  ·rename_i h2 h3;have e0:=n8 (show 192+c / 64<256 by omega);have e1:=n8 (show 128+c%64<256 by omega);simp only[dl,List.cons_append,List.nil_append,List.getD_cons_zero,List.getD_cons_succ,e0,e1];rw[if_neg (by omega),if_pos (by simp;omega),if_pos (by omega)];simp;omega
  ·split
   ·rename_i h2 h3 h4;have e0:=n8 (show 224+c / 4096<256 by omega);have e1:=n8 (show 128+c / 64%64<256 by omega);have e2:=n8 (show 128+c%64<256 by omega);have ec:(224+c / 4096)%16*4096+(128+c / 64%64)%64*64+(128+c%64)%64=c:=by omega
    simp only[dl,List.cons_append,List.nil_append,List.getD_cons_zero,List.getD_cons_succ,e0,e1,e2,ec];rw[if_neg (by omega),if_neg (by simp;omega),if_pos (by simp;omega),if_pos (by simp[hv];omega)];simp
   ·rename_i h2 h3 h4;have e0:=n8 (show 240+c / 262144<256 by omega);have e1:=n8 (show 128+c / 4096%64<256 by omega);have e2:=n8 (show 128+c / 64%64<256 by omega);have e3:=n8 (show 128+c%64<256 by omega);have ec:(240+c / 262144)%8*262144+(128+c / 4096%64)%64*4096+(128+c / 64%64)%64*64+(128+c%64)%64=c:=by omega
    simp only[dl,List.cons_append,List.nil_append,List.getD_cons_zero,List.getD_cons_succ,e0,e1,e2,e3,ec];rw[if_neg (by omega),if_neg (by simp;omega),if_neg (by simp;omega),if_pos (by simp;omega),if_pos (by simp[hv];omega)];simp
theorem qp6t(c:Nat):0<(cb c).length:=by unfold cb;split<;>(try split)<;>(try split)<;>simp
theorem qqv9(c:Nat):(cb c).length=if c<128 then 1 else if c<2048 then 2 else if c<65536 then 3 else 4:=by unfold cb;split<;>(try split)<;>(try split)<;>simp
theorem q3q9(c:Nat)(l:List UInt8):cb c++l≠[]:=by
 have:=qp6t c
 intro h
 have:(cb c++l).length=0:=by rw[h];rfl
 simp at this;simp[this] at *
theorem qwug{c:Nat}(h:okc c)(l:List UInt8):hd (cb c++l)=some c:=by
 unfold hd;rw[qyly h,if_neg];rintro(e|e|⟨e,e2⟩)
 ·exact q3q9 c l e
 ·have:=h.1;simp at e;omega
 ·simp at e e2;subst e;simp[qqv9] at e2
theorem qp9j(l:List UInt8)(hl:l≠[]):dl l=(65533,1)\/(dl l).1=0\/(okc (dl l).1/\(dl l).2=(cb (dl l).1).length/\∃r,l=cb (dl l).1++r):=by
 unfold dl;simp only[];obtain⟨b0,l0,rfl⟩:=List.exists_cons_of_ne_nil hl;have h0:=b0.toNat_lt;simp only[List.getD_cons_zero,List.getD_cons_succ,List.length_cons];split
 ·rename_i hb;by_cases hz:b0.toNat=0
  ·exact .inr (.inl hz)
  ·refine .inr (.inr ⟨⟨by omega,by omega⟩,?_,l0,?_⟩)
   ·simp[cb,hb]
   ·simp[cb,hb]
 ·split
  ·rename_i hb hc;rcases l0 with _|⟨b1,l1⟩
   ·simp at hc
   simp at hc;have h1:=b1.toNat_lt;simp only[List.getD_cons_zero];split
   ·rename_i hd;have hk:¬b0.toNat%32*64+b1.toNat%64<128:=by omega
    have hk2:b0.toNat%32*64+b1.toNat%64<2048:=by omega
    refine .inr (.inr ⟨⟨by simp;omega,by simp;omega⟩,?_,l1,?_⟩)
    ·simp[cb,hk,hk2]
    ·simp only[cb,hk,hk2,if_true,if_false];rw[b8 b0 (by omega),b8 b1 (by omega)]
     rfl
   ·exact .inl rfl
  ·split
   ·rename_i hb hb2 hc;rcases l0 with _|⟨b1,_|⟨b2,l2⟩⟩
    ·simp at hc
    ·simp at hc
    simp at hc;have h1:=b1.toNat_lt;have h2:=b2.toNat_lt;simp only[List.getD_cons_zero,List.getD_cons_succ];split
    ·rename_i hd;simp only[Bool.and_eq_true,decide_eq_true_eq,qpx1] at hd;generalize hC:b0.toNat%16*4096+b1.toNat%64*64+b2.toNat%64=C at hd;have hk:¬C<128:=by omega
     have hk2:¬C<2048:=by omega
     have hk3:C<65536:=by omega
     refine .inr (.inr ⟨⟨by simp;omega,hd.2⟩,?_,l2,?_⟩)
     ·simp[cb,hk,hk2,hk3]
     ·simp only[cb,hk,hk2,hk3,if_false];rw[b8 b0 (by omega),b8 b1 (by omega),b8 b2 (by omega)]
      rfl
    ·exact .inl rfl
   ·split
    ·rename_i hb hb2 hb3 hc;rcases l0 with _|⟨b1,_|⟨b2,_|⟨b3,l3⟩⟩⟩
     ·simp at hc
     ·simp at hc
     ·simp at hc
     simp at hc;have h1:=b1.toNat_lt;have h2:=b2.toNat_lt;have h3:=b3.toNat_lt;simp only[List.getD_cons_zero,List.getD_cons_succ];split
     ·rename_i hd;simp only[Bool.and_eq_true,decide_eq_true_eq,qpx1] at hd;generalize hC:b0.toNat%8*262144+b1.toNat%64*4096+b2.toNat%64*64+b3.toNat%64=C at hd;have hk:¬C<128:=by omega
      have hk2:¬C<2048:=by omega
      have hk3:¬C<65536:=by omega
      refine .inr (.inr ⟨⟨by simp;omega,hd.2⟩,?_,l3,?_⟩)
      ·simp[cb,hk,hk2,hk3]
      ·simp only[cb,hk,hk2,hk3,if_false];rw[b8 b0 (by omega),b8 b1 (by omega),b8 b2 (by omega),b8 b3 (by omega)]
       rfl
     ·exact .inl rfl
    ·exact .inl rfl
theorem qsz3{l:List UInt8}{c:Nat}(h:hd l=some c):okc c/\∃r,l=cb c++r:=by
 unfold hd at h;split at h
 ·cases h
 ·rename_i hn;have e:(dl l).1=c:=by simpa using h
  have hne:l≠[]:=fun e=>hn (.inl e);rcases qp9j l hne with h1|h1|⟨h1,_,h2⟩
  ·exact absurd (.inr (.inr (by rw[h1];exact⟨rfl,rfl⟩))) hn
  ·exact absurd (.inr (.inl h1)) hn
  ·rw[e] at h1 h2;exact⟨h1,h2⟩
theorem q51d{l:List UInt8}(hl:l≠[])(h:hd l=none):dl l=(65533,1)\/(dl l).1=0:=by
 rcases qp9j l hl with h1|h1|⟨h1,h2,h3,h4⟩
 ·exact .inl h1
 ·exact .inr h1
 ·generalize (dl l).1=c at h1 h4;subst h4;rw[qwug h1] at h;cases h
def pts(l:List UInt8):List Nat:=
 match _h:hd l with
 |none=>[]
 |some c=>c::pts (l.drop (cb c).length)
termination_by l.length
decreasing_by
 obtain⟨_,r,rfl⟩:=qsz3 _h
 have:=qp6t c
 simp;omega
def cbs(cs:List Nat):List UInt8:=cs.flatMap cb
def oks(cs:List Nat):Prop:=∀c∈cs,okc c
theorem qbw4:cbs []=[]:=rfl
theorem q7su(c:Nat)(cs:List Nat):cbs (c::cs)=cb c++cbs cs:=rfl
theorem q5g4(a b:List Nat):cbs (a++b)=cbs a++cbs b:=by simp[cbs]
theorem q6ts(a:List Nat)(c:Nat):cbs (a++[c])=cbs a++cb c:=by simp[cbs]
theorem qvel{l:List UInt8}(h:hd l=none):pts l=[]:=by
 rw[pts];split
 ·rfl
 ·rename_i c hc;rw[h] at hc;cases hc
theorem qqzy{c:Nat}(h:okc c)(l:List UInt8):pts (cb c++l)=c::pts l:=by
 rw[pts];have e:=qwug h l;split
 ·rename_i hc;rw[e] at hc;cases hc
 ·rename_i c' hc;rw[e] at hc;obtain rfl:c=c':=by simpa using hc
  simp
theorem q2qr:hd []=none:=by simp[hd]
theorem qahv:pts []=[]:=qvel q2qr
theorem q2hb:∀(n:Nat) (l:List UInt8),l.length<=n->oks (pts l)/\∃r,l=cbs (pts l)++r/\hd r=none
 |0,l,h=>by obtain rfl:l=[]:=List.eq_nil_of_length_eq_zero (by omega);rw[qahv];exact⟨by simp[oks],[],rfl,q2qr⟩
 |n+1,l,h=>by
  cases hc:hd l with
  |none=>rw[qvel hc];exact⟨by simp[oks],l,rfl,hc⟩
  |some c=>
   obtain⟨ho,r,rfl⟩:=qsz3 hc
   have:=qp6t c
   rw[qqzy ho];obtain⟨h1,r2,h2,h3⟩:=q2hb n r (by simp at h;omega);refine⟨fun d hd=>(List.mem_cons.1 hd).elim (fun e=>e▸ho) (h1 d),r2,?_,h3⟩;rw[q7su,List.append_assoc,<-h2]
theorem qiv7(l:List UInt8):oks (pts l):=(q2hb _ l (Nat.le_refl _)).1
theorem q454(l:List UInt8):∃r,l=cbs (pts l)++r/\hd r=none:=(q2hb _ l (Nat.le_refl _)).2
def fin(l:List UInt8):Nat:=(cbs (pts l)).length
theorem q1um(l:List UInt8):fin l<=l.length:=by
 obtain⟨r,h,_⟩:=q454 l;unfold fin
 have:=congrArg List.length h
 simp at this;omega
def qpht(l:List UInt8):Int:=if fin l<l.length then(fin l:Int) else -1
def qecx(l:List UInt8):Bool:=decide (l.length<=65535)&&decide (qpht l<0)
theorem qbv6(l:List UInt8):qecx l=true↔l.length<=65535/\fin l=l.length:=by
 unfold qecx qpht
 have:=q1um l
 simp only[Bool.and_eq_true,decide_eq_true_eq];constructor
 ·rintro⟨h1,h2⟩;refine⟨h1,?_⟩;split at h2<;>omega
 ·rintro⟨h1,h2⟩;refine⟨h1,?_⟩;rw[if_neg (by omega)];omega
def marks(p:Nat):List Nat->List (Nat×Nat)
 |[]=>[]
 |c::cs=>(p,c)::marks (p+(cb c).length) cs
theorem qx0j(cs:List Nat):∀p,(marks p cs).length=cs.length:=by
 induction cs with
 |nil=>intro p;rfl
 |cons c cs ih=>intro p;simp[marks,ih]
theorem qfk7(a b:List Nat):∀p,marks p (a++b)=marks p a++marks (p+(cbs a).length) b:=by
 induction a with
 |nil=>intro p;simp[marks,cbs]
 |cons c a ih=>intro p;rw[q7su,List.length_append,List.cons_append,marks,ih,marks,List.cons_append,Nat.add_assoc]
theorem qwxc(a:List Nat)(c:Nat):marks 0 (a++[c])=marks 0 a++[((cbs a).length,c)]:=by rw[qfk7];simp[marks]
def enc2(l:List UInt8):List UInt8:=be l.length 2++l
theorem qnp6(l:List UInt8):(enc2 l).length=l.length+2:=by simp[enc2,q0rl];omega
theorem qpeh(l:List UInt8):num (l.take 2)<65536:=by
 have h:=qn9h (l.take 2);have hl:(l.take 2).length<=2:=by simp;omega
 have:=Nat.pow_le_pow_right (show 0<256 by decide) hl
 omega
def rdB(l:List UInt8):List UInt8×Nat×Nat:=
 if 2<=l.length/\2+num (l.take 2)<=l.length then((l.drop 2).take (num (l.take 2)),2+num (l.take 2),0) else([],0,3)
def rdT(l:List UInt8):List UInt8×Nat×Nat:=
 if (rdB l).2.2≠0 then([],0,3) else if qecx (rdB l).1 then rdB l else([],0,6)
theorem qsrz(l:List UInt8):((rdB l).2.2=0/\(rdB l).1.length+2=(rdB l).2.1/\(rdB l).2.1<=l.length/\(rdB l).2.1<65538/\l.take (rdB l).2.1=enc2 (rdB l).1)\/rdB l=([],0,3):=by
 unfold rdB;split
 ·rename_i h;refine .inl ⟨rfl,?_,h.2,by have:=qpeh l;simp;omega,?_⟩
  ·simp;omega
  ·have hl:((l.drop 2).take (num (l.take 2))).length=num (l.take 2):=by simp;omega
   have hb:=qz9g (l.take 2);have h2:(l.take 2).length=2:=by simp;omega
   rw[h2] at hb;show l.take (2+num (l.take 2))=enc2 _;rw[enc2,hl,hb,List.take_add]
 ·exact .inr rfl
def lvls:List UInt8->List (List UInt8)
 |[]=>[[]]
 |c::s=>if c=47 then []::lvls s else match lvls s with
  |[]=>[[c]]
  |l::ls=>(c::l)::ls
def q8nq:List (List UInt8)->List UInt8
 |[]=>[]
 |[l]=>l
 |l::m::ls=>l++47::q8nq (m::ls)
theorem q6q5(s:List UInt8):lvls s≠[]:=by
 cases s with
 |nil=>simp[lvls]
 |cons c s=>
  unfold lvls;split
  ·simp
  ·split<;>simp
theorem q3eu(s:List UInt8):lvls (47::s)=[]::lvls s:=by simp[lvls]
theorem q6p0{c:UInt8}(h:c≠47)(s:List UInt8):∃l ls,lvls s=l::ls/\lvls (c::s)=(c::l)::ls:=by obtain⟨l,ls,e⟩:=List.exists_cons_of_ne_nil (q6q5 s);exact⟨l,ls,e,by rw[lvls,if_neg h,e]⟩
theorem qcnz(l:List UInt8){ls:List (List UInt8)}(h:ls≠[]):q8nq (l::ls)=l++47::q8nq ls:=by
 cases ls with
 |nil=>exact absurd rfl h
 |cons m ls=>rfl
theorem qz8l(s:List UInt8):q8nq (lvls s)=s:=by
 induction s with
 |nil=>rfl
 |cons c s ih=>
  by_cases h:c=47
  ·subst h;rw[q3eu,qcnz _ (q6q5 s),ih];rfl
  ·obtain⟨l,ls,e1,e2⟩:=q6p0 h s;rw[e2];rw[e1] at ih;cases ls with
   |nil=>rw[<-ih];rfl
   |cons m ls=>rw[qcnz _ (by simp)] at ih ⊢;rw[<-ih];rfl
def flat(ls:List (List UInt8)):Prop:=∀l∈ls,(47:UInt8)∉l
theorem qxp9(s:List UInt8):flat (lvls s):=by
 induction s with
 |nil=>intro l hl;simp[lvls] at hl;subst hl;simp
 |cons c s ih=>
  by_cases h:c=47
  ·subst h;rw[q3eu];intro l hl;rcases List.mem_cons.1 hl with rfl|hl
   ·simp
   ·exact ih l hl
  ·obtain⟨l,ls,e1,e2⟩:=q6p0 h s;rw[e2];rw[e1] at ih;intro m hm;rcases List.mem_cons.1 hm with rfl|hm
   ·have:=ih l (List.mem_cons_self ..)
    simp[this,Ne.symm h]
   ·exact ih m (List.mem_cons_of_mem _ hm)
theorem qty4{l:List UInt8}(h:(47:UInt8)∉l):lvls l=[l]:=by
 induction l with
 |nil=>rfl
 |cons c l ih=>simp at h;rw[lvls,if_neg (fun e=>h.1 e.symm),ih h.2]
theorem quk3{l:List UInt8}(h:(47:UInt8)∉l)(s:List UInt8):lvls (l++47::s)=l::lvls s:=by
 induction l with
 |nil=>exact q3eu s
 |cons c l ih=>simp at h;rw[List.cons_append,lvls,if_neg (fun e=>h.1 e.symm),ih h.2]
theorem qspi(s:List UInt8):(lvls s).length=s.count 47+1:=by
 induction s with
 |nil=>rfl
 |cons c s ih=>
  by_cases h:c=47
  ·subst h;rw[q3eu,List.length_cons,ih,List.count_cons_self]
  ·obtain⟨l,ls,e1,e2⟩:=q6p0 h s;rw[e2,List.count_cons_of_ne h,<-ih,e1];rfl
def okl:List (List UInt8)->Prop
 |[]=>True
 |l::ls=>((43:UInt8)∈l->l=[43])/\((35:UInt8)∈l->l=[35]/\ls=[])/\okl ls
instance okl_dec:(ls:List (List UInt8))->Decidable (okl ls)
 |[]=>isTrue trivial
 |l::ls=>by
  have:=okl_dec ls
  unfold okl
  infer_instance
def q95c(s:List UInt8):Bool:=decide (s≠[])&&qecx s&&decide ((43:UInt8)∉s)&&decide ((35:UInt8)∉s)
def qw8n(s:List UInt8):Bool:=decide (s≠[])&&qecx s&&decide (okl (lvls s))
theorem q38c(s:List UInt8):qw8n s=true↔s≠[]/\qecx s=true/\okl (lvls s):=by unfold qw8n;simp[and_assoc]
structure PRow where
 shape:Nat
 kinds:List Int
 least:Nat
 most:Nat
def prow(id:Int):PRow:=
 if id=1 then⟨1,[3,16],0,1⟩
 else if id=2 then⟨3,[3,16],0,4294967295⟩
 else if id=3\/id=8 then⟨5,[3,16],0,0⟩
 else if id=9 then⟨6,[3,16],0,0⟩
 else if id=11 then⟨4,[3,8],1,268435455⟩
 else if id=17 then⟨3,[1,2,14],0,4294967295⟩
 else if id=18\/id=26 then⟨5,[2],0,0⟩
 else if id=19 then⟨2,[2],0,65535⟩
 else if id=21 then⟨5,[1,2,15],0,0⟩
 else if id=22 then⟨6,[1,2,15],0,0⟩
 else if id=23\/id=25 then⟨1,[1],0,1⟩
 else if id=24 then⟨3,[16],0,4294967295⟩
 else if id=28 then⟨5,[2,14],0,0⟩
 else if id=31 then⟨5,[2,4,5,6,7,9,11,14,15],0,0⟩
 else if id=33 then⟨2,[1,2],1,65535⟩
 else if id=34 then⟨2,[1,2],0,65535⟩
 else if id=35 then⟨2,[3],1,65535⟩
 else if id=36\/id=37\/id=40\/id=41\/id=42 then⟨1,[2],0,1⟩
 else if id=38 then⟨7,[1,2,3,4,5,6,7,8,9,10,11,14,15,16],0,0⟩
 else if id=39 then⟨3,[1,2],1,4294967295⟩
 else⟨0,[],0,0⟩
def qwgc(id:Int):Nat:=(prow id).shape
def mayP(kind id:Int):Bool:=(prow id).kinds.contains kind
def quux(kind id:Int):Bool:=mayP kind id&&(id==38 || (id==11&&kind==3))
def qr4y(kind:Int)(p:Pr):Nat:=
 if mayP kind p.id=false then 9
 else if qwgc p.id<=4 then
  if p.text≠[]\/p.value≠[] then 2
  else if p.n<(prow p.id).least\/(prow p.id).most<p.n then 9
  else 0
 else if p.n≠0\/(qwgc p.id≠7/\p.value≠[]) then 2
 else if qwgc p.id=6 then(if 65535<p.text.length then 2 else 0)
 else if qecx p.text=false\/qecx p.value=false then 6
 else if p.id=8/\q95c p.text=false then 9
 else 0
theorem q0dw{id:Int}(h:id<1\/42<id):prow id=⟨0,[],0,0⟩:=by
 unfold prow
 repeat rw[if_neg (by omega)]
theorem qoa5(P:Int->PRow->Bool)(h:(List.range 43).all (fun k=>P (k:Int) (prow (k:Int)))=true){id:Int}(hi:1<=id/\id<=42):P id (prow id)=true:=by
 have:=List.all_eq_true.1 h id.toNat (List.mem_range.2 (by omega))
 rwa [show((id.toNat:Nat):Int)=id by omega] at this
theorem qilb{kind id:Int}(h:mayP kind id=true):1<=id/\id<=42:=by
 rcases Int.lt_or_le id 1 with h1|h1
 ·unfold mayP at h;rw[q0dw (.inl h1)] at h;simp at h
 ·rcases Int.lt_or_le 42 id with h2|h2
  ·unfold mayP at h;rw[q0dw (.inr h2)] at h;simp at h
  ·exact⟨h1,h2⟩
theorem q06q{kind id:Int}(h:mayP kind id=true):(prow id).kinds≠[]:=by intro e;unfold mayP at h;rw[e] at h;simp at h
theorem qznl{kind id:Int}(h:mayP kind id=true):1<=qwgc id/\qwgc id<=7/\(qwgc id=1->(prow id).most<256)/\(qwgc id=2->(prow id).most<65536)/\(qwgc id=3->(prow id).most<4294967296)/\(qwgc id=4->(prow id).most<=268435455)/\(id=8->qwgc id=5):=by
 have:=qoa5 (fun i r=>r.kinds.isEmpty || (decide (1<=r.shape)&&decide (r.shape<=7)&&(decide (r.shape≠1) || decide (r.most<256))&&(decide (r.shape≠2) || decide (r.most<65536))&&(decide (r.shape≠3) || decide (r.most<4294967296))&&(decide (r.shape≠4) || decide (r.most<=268435455))&&(decide (i≠8) || decide (r.shape=5)))) (by decide) (qilb h)
 have hk:=q06q h;unfold qwgc;generalize prow id=r at *;simp only[Bool.or_eq_true,Bool.and_eq_true,decide_eq_true_eq,List.isEmpty_iff] at this;rcases this with e|⟨⟨⟨⟨⟨⟨h1,h2⟩,h3⟩,h4⟩,h5⟩,h6⟩,h7⟩
 ·exact absurd e hk
 ·exact⟨h1,h2,fun e=>h3.resolve_left (fun x=>x e),fun e=>h4.resolve_left (fun x=>x e),fun e=>h5.resolve_left (fun x=>x e),fun e=>h6.resolve_left (fun x=>x e),fun e=>h7.resolve_left (fun x=>x e)⟩
def qgdb(p:Pr):List UInt8:=
 if qwgc p.id=1 then be p.n 1 else if qwgc p.id=2 then be p.n 2 else if qwgc p.id=3 then be p.n 4
 else if qwgc p.id=4 then vb p.n (sz p.n) else if qwgc p.id=7 then enc2 p.text++enc2 p.value else enc2 p.text
def numP(id:Int)(c:Nat)(r:List UInt8):Pr×Nat×Nat:=if r.length<c then(⟨id,0,[],[]⟩,0,5) else(⟨id,num (r.take c),[],[]⟩,c,0)
def q91e(data:Bool)(r:List UInt8):List UInt8×Nat×Nat:=if (rdB r).2.2≠0 then([],0,5) else if data || qecx (rdB r).1 then((rdB r).1,(rdB r).2.1,0) else([],0,6)
def qij7(id:Int)(r:List UInt8):Pr×Nat×Nat:=
 if qwgc id=1 then numP id 1 r else if qwgc id=2 then numP id 2 r else if qwgc id=3 then numP id 4 r
 else if qwgc id=4 then(if rdE r≠0 then(⟨id,0,[],[]⟩,0,5) else(⟨id,rdV r,[],[]⟩,rdN r,0))
 else if qwgc id=7 then
  (
   if (q91e false r).2.2≠0 then(⟨id,0,[],[]⟩,0,(q91e false r).2.2)
   else if (q91e false (r.drop (q91e false r).2.1)).2.2≠0 then(⟨id,0,[],[]⟩,0,(q91e false (r.drop (q91e false r).2.1)).2.2)
   else(⟨id,0,(q91e false r).1,(q91e false (r.drop (q91e false r).2.1)).1⟩,(q91e false r).2.1+(q91e false (r.drop (q91e false r).2.1)).2.1,0))
 else if (q91e (qwgc id==6) r).2.2≠0 then(⟨id,0,[],[]⟩,0,(q91e (qwgc id==6) r).2.2) else(⟨id,0,(q91e (qwgc id==6) r).1,[]⟩,(q91e (qwgc id==6) r).2.1,0)
theorem qo1o{kind:Int}{p:Pr}(h:qr4y kind p=0):mayP kind p.id=true/\
 (qwgc p.id<=4->p.text=[]/\p.value=[]/\(prow p.id).least<=p.n/\p.n<=(prow p.id).most)/\
 (4<qwgc p.id->p.n=0/\(qwgc p.id≠7->p.value=[])/\(qwgc p.id=6->p.text.length<=65535)/\(qwgc p.id≠6->qecx p.text=true/\qecx p.value=true)):=by
 unfold qr4y at h;by_cases hm:mayP kind p.id=true
 ·rw[if_neg (by simp[hm])] at h;refine⟨hm,fun hs=>?_,fun hs=>?_⟩
  ·rw[if_pos hs] at h;split at h
   ·cases h
   ·rename_i h1;split at h
    ·cases h
    ·rename_i h2;simp only[not_or,Decidable.not_not] at h1;exact⟨h1.1,h1.2,by omega,by omega⟩
  ·rw[if_neg (by omega)] at h;split at h
   ·cases h
   ·rename_i h1;have h1a:p.n=0:=by
     rcases Nat.eq_zero_or_pos p.n with e|e
     ·exact e
     ·exact absurd (.inl (by omega)) h1
    have h1b:qwgc p.id≠7->p.value=[]:=fun e=>Classical.byContradiction fun x=>h1 (.inr ⟨e,x⟩);refine⟨h1a,h1b,fun e=>?_,fun e=>?_⟩
    ·rw[if_pos e] at h;split at h
     ·cases h
     ·omega
    ·rw[if_neg e] at h;split at h
     ·cases h
     ·rename_i h2;simp only[not_or,Bool.not_eq_false] at h2;exact h2
 ·rw[if_pos (by simpa using hm)] at h;cases h
def hasP(l:List Pr)(id:Int):Bool:=l.any fun p=>p.id==id
def qxv1(kind:Int)(l:List Pr)(id:Int):Bool:=hasP l id&&!quux kind id
def qwyx(l:List Pr):Bool:=hasP l 22&&!hasP l 21
def oneP(p:Pr):List UInt8:=UInt8.ofNat p.id.toNat::qgdb p
def q636(l:List Pr):List UInt8:=l.flatMap oneP
def q09m(kind:Int):List Pr->List Pr->Nat
 |_,[]=>0
 |pre,p::l=>if qr4y kind p≠0 then qr4y kind p else if qxv1 kind pre p.id then 9 else q09m kind (pre++[p]) l
def qpyu(kind:Int)(l:List Pr):Nat:=
 if 1000<l.length then 4 else if q09m kind [] l≠0 then q09m kind [] l else if qwyx l then 9 else if 268435455<(q636 l).length then 4 else 0
def q5aq(kind:Int)(l:List Pr):List UInt8×Nat:=
 if qpyu kind l≠0 then([],qpyu kind l) else(vb (q636 l).length (sz (q636 l).length)++q636 l,0)
def qwdr(kind:Int):Nat->List Pr->List UInt8->List Pr×Nat
 |0,out,_=>(out,0)
 |f+1,out,s=>match s with
  |[]=>(out,0)
  |b::r=>
   if mayP kind b.toNat=false then([],9)
   else if (qij7 b.toNat r).2.2≠0 then([],(qij7 b.toNat r).2.2)
   else if qr4y kind (qij7 b.toNat r).1≠0 then([],qr4y kind (qij7 b.toNat r).1)
   else if qxv1 kind out b.toNat then([],9)
   else if 1000<=out.length then([],4)
   else qwdr kind f (out++[(qij7 b.toNat r).1]) (r.drop (qij7 b.toNat r).2.1)
def qflw(kind:Int)(s:List UInt8):List Pr×Nat×Nat:=
 if rdE s≠0 then([],0,rdE s)
 else if s.length<rdN s+rdV s then([],0,3)
 else if (qwdr kind (rdV s) [] ((s.drop (rdN s)).take (rdV s))).2≠0 then([],0,(qwdr kind (rdV s) [] ((s.drop (rdN s)).take (rdV s))).2)
 else if qwyx (qwdr kind (rdV s) [] ((s.drop (rdN s)).take (rdV s))).1 then([],0,9)
 else((qwdr kind (rdV s) [] ((s.drop (rdN s)).take (rdV s))).1,rdN s+rdV s,0)
theorem qodo:q636 []=[]:=rfl
theorem qhx5(p:Pr)(l:List Pr):q636 (p::l)=oneP p++q636 l:=rfl
theorem qd67(a b:List Pr):q636 (a++b)=q636 a++q636 b:=by simp[q636]
theorem qnrl(p:Pr):(oneP p).length=(qgdb p).length+1:=rfl
theorem qpfx{kind:Int}{l:List Pr}(h:qpyu kind l=0):l.length<=1000/\q09m kind [] l=0/\qwyx l=false/\(q636 l).length<=268435455:=by
 unfold qpyu at h;split at h
 ·cases h
 ·split at h
  ·rename_i h2;exact absurd h h2
  ·split at h
   ·cases h
   ·split at h
    ·cases h
    ·refine⟨by omega,by simp_all,by simp_all,by omega⟩
theorem qjrn{id:Int}{c k:Nat}{r:List UInt8}{p:Pr}(h:numP id c r=(p,k,0)):p=⟨id,num (r.take c),[],[]⟩/\k=c/\c<=r.length/\be (num (r.take c)) c=r.take c:=by
 unfold numP at h;split at h
 ·simp at h
 ·rename_i hl;simp only[Prod.mk.injEq,and_true] at h;obtain⟨rfl,rfl⟩:=h;refine⟨rfl,rfl,by omega,?_⟩
  have:=qz9g (r.take c)
  rwa [List.length_take,Nat.min_eq_left (by omega)] at this
theorem qkkc{data:Bool}{r t:List UInt8}{k:Nat}(h:q91e data r=(t,k,0)):r.take k=enc2 t/\k<=r.length/\k=(enc2 t).length/\(data=false->qecx t=true)/\t.length<=65535:=by
 unfold q91e at h;rcases qsrz r with ⟨h1,h2,h3,h4,h5⟩|h1
 ·rw[if_neg (by simp[h1])] at h;split at h
  ·rename_i hv;simp only[Prod.mk.injEq,and_true] at h;obtain⟨rfl,rfl⟩:=h;refine⟨h5,h3,by rw[qnp6];omega,fun e=>by simpa [e] using hv,by omega⟩
  ·simp at h
 ·rw[h1] at h;simp at h
theorem q5uz{id:Int}{r:List UInt8}{p:Pr}{k:Nat}(_hs:1<=qwgc id)(h:qij7 id r=(p,k,0)):p.id=id/\k<=r.length/\qgdb p=r.take k:=by
 unfold qij7 at h;unfold qgdb;by_cases s1:qwgc id=1
 ·rw[if_pos s1] at h;obtain⟨rfl,rfl,hl,hb⟩:=qjrn h;exact⟨rfl,hl,by simp only[s1,if_true];exact hb⟩
 by_cases s2:qwgc id=2
 ·rw[if_neg s1,if_pos s2] at h;obtain⟨rfl,rfl,hl,hb⟩:=qjrn h;exact⟨rfl,hl,by simp only[s2,if_true,show ¬(2:Nat)=1 by decide,if_false];exact hb⟩
 by_cases s3:qwgc id=3
 ·rw[if_neg s1,if_neg s2,if_pos s3] at h;obtain⟨rfl,rfl,hl,hb⟩:=qjrn h;exact⟨rfl,hl,by simp only[s3,if_true,show ¬(3:Nat)=1 by decide,show ¬(3:Nat)=2 by decide,if_false];exact hb⟩
 by_cases s4:qwgc id=4
 ·rw[if_neg s1,if_neg s2,if_neg s3,if_pos s4] at h;split at h
  ·rename_i hne;simp only[Prod.mk.injEq] at h;exact absurd h.2.2 (by decide)
  ·rename_i hz;simp only[Prod.mk.injEq,and_true] at h;obtain⟨rfl,rfl⟩:=h;obtain⟨v,n,st,hr⟩:∃v n st,run 0 0 r=(v,n,st):=⟨_,_,_,rfl⟩
   obtain⟨e1,e2,e3⟩:=rd_of hr;have hst:st=1:=by
    rw[e3] at hz;rcases qh9e r 0 0 with h0|h0|h0
    all_goals (rw[hr] at h0;simp only at h0;subst h0)
    ·simp at hz
    ·rfl
    ·simp at hz
   subst hst;obtain⟨b1,b2,b3,b4⟩:=qvpf r v n hr;simp only[if_true] at e1 e2;rw[e1,e2];refine⟨rfl,b3,?_⟩;simp only[s4,if_true,show ¬(4:Nat)=1 by decide,show ¬(4:Nat)=2 by decide,show ¬(4:Nat)=3 by decide,if_false];rw[<-b2,b4]
 rw[if_neg s1,if_neg s2,if_neg s3,if_neg s4] at h;by_cases s7:qwgc id=7
 ·rw[if_pos s7] at h;split at h
  ·rename_i hne;simp only[Prod.mk.injEq] at h;exact absurd h.2.2 hne
  ·rename_i hz1;split at h
   ·rename_i hne;simp only[Prod.mk.injEq] at h;exact absurd h.2.2 hne
   ·rename_i hz2;simp only[Prod.mk.injEq,and_true] at h;obtain⟨rfl,rfl⟩:=h;simp only[ne_eq,Decidable.not_not] at hz1 hz2;obtain⟨a1,a2,a3,_,_⟩:=qkkc (data:=false) (r:=r) (t:=(q91e false r).1) (k:=(q91e false r).2.1) (by rw[<-hz1]);obtain⟨c1,c2,c3,_,_⟩:=qkkc (data:=false) (r:=r.drop (q91e false r).2.1) (t:=(q91e false (r.drop (q91e false r).2.1)).1) (k:=(q91e false (r.drop (q91e false r).2.1)).2.1) (by rw[<-hz2]);rw[List.length_drop] at c2;refine⟨rfl,by omega,?_⟩;simp only[s7,if_true,show ¬(7:Nat)=1 by decide,show ¬(7:Nat)=2 by decide,show ¬(7:Nat)=3 by decide,show ¬(7:Nat)=4 by decide,if_false];rw[<-a1,<-c1,List.take_add]
 ·rw[if_neg s7] at h;split at h
  ·rename_i hne;simp only[Prod.mk.injEq] at h;exact absurd h.2.2 hne
  ·rename_i hz1;simp only[Prod.mk.injEq,and_true] at h;obtain⟨rfl,rfl⟩:=h;simp only[ne_eq,Decidable.not_not] at hz1;obtain⟨a1,a2,a3,_,_⟩:=qkkc (data:=(qwgc id==6)) (r:=r) (t:=(q91e (qwgc id==6) r).1) (k:=(q91e (qwgc id==6) r).2.1) (by rw[<-hz1]);refine⟨rfl,a2,?_⟩;show(if qwgc id=1 then _ else _)=_;rw[if_neg s1,if_neg s2,if_neg s3,if_neg s4,if_neg s7];exact a1.symm
theorem qsu0(kind:Int):∀(f:Nat) (out:List Pr) (s:List UInt8) (l:List Pr),s.length<=f->out.length<=1000->qwdr kind f out s=(l,0)->∃m,l=out++m/\q09m kind out m=0/\q636 m=s/\l.length<=1000
 |0,out,s,l,hf,ho,h=>by
  have:s=[]:=List.eq_nil_of_length_eq_zero (by omega)
  subst this;simp only[qwdr,Prod.mk.injEq,and_true] at h;subst h;exact⟨[],by simp,rfl,rfl,ho⟩
 |f+1,out,[],l,hf,ho,h=>by simp only[qwdr,Prod.mk.injEq,and_true] at h;subst h;exact⟨[],by simp,rfl,rfl,ho⟩
 |f+1,out,b::r,l,hf,ho,h=>by
  rw[qwdr] at h;split at h
  ·simp at h
  ·rename_i hm;have hm:mayP kind b.toNat=true:=by simpa using hm
   split at h
   ·rename_i hne;simp only[Prod.mk.injEq] at h;exact absurd h.2 hne
   ·rename_i hn0;split at h
    ·rename_i hne;simp only[Prod.mk.injEq] at h;exact absurd h.2 hne
    ·rename_i hc;split at h
     ·simp at h
     ·rename_i ht;split at h
      ·simp at h
      ·rename_i hl;have hs1:=(qznl hm).1;obtain⟨e1,e2,e3⟩:=q5uz (id:=b.toNat) (r:=r) (p:=(qij7 b.toNat r).1) (k:=(qij7 b.toNat r).2.1) hs1 (by
        have:(qij7 b.toNat r).2.2=0:=by simpa using hn0
        rw[<-this])
       generalize (qij7 b.toNat r).1=p at *;generalize (qij7 b.toNat r).2.1=k at *;have hc:qr4y kind p=0:=by simpa using hc
       obtain⟨m,k1,k2,k3,k4⟩:=qsu0 kind f (out++[p]) (r.drop k) l (by rw[List.length_drop];simp at hf;omega) (by simp;omega) h;refine⟨p::m,by rw[k1];simp,?_,?_,k4⟩
       ·rw[q09m,if_neg (by simp[hc]),e1,if_neg ht];exact k2
       ·rw[qhx5,k3];unfold oneP;rw[e1,e3];simp
theorem qugf{kind:Int}{s:List UInt8}{l:List Pr}{n:Nat}(h:qflw kind s=(l,n,0)):qpyu kind l=0/\n<=s.length/\(q5aq kind l).1=s.take n:=by
 unfold qflw at h;split at h
 ·rename_i hne;simp only[Prod.mk.injEq] at h;exact absurd h.2.2 hne
 ·rename_i h0;split at h
  ·simp at h
  ·rename_i hle;split at h
   ·rename_i hne;simp only[Prod.mk.injEq] at h;exact absurd h.2.2 hne
   ·rename_i hf;split at h
    ·simp at h
    ·rename_i hlo;simp only[Prod.mk.injEq,and_true] at h;obtain⟨rfl,rfl⟩:=h;obtain⟨v,c,st,hr⟩:∃v n st,run 0 0 s=(v,n,st):=⟨_,_,_,rfl⟩
     obtain⟨e1,e2,e3⟩:=rd_of hr;have hst:st=1:=by
      rw[e3] at h0;rcases qh9e s 0 0 with h1|h1|h1
      all_goals (rw[hr] at h1;simp only at h1;subst h1)
      ·simp at h0
      ·rfl
      ·simp at h0
     subst hst;obtain⟨b1,b2,b3,b4⟩:=qvpf s v c hr;simp only[if_true] at e1 e2;rw[e1,e2] at hle hf hlo;rw[e1,e2];obtain⟨m,k1,k2,k3,k4⟩:=qsu0 kind v [] ((s.drop c).take v) (qwdr kind v [] ((s.drop c).take v)).1 (by rw[List.length_take];omega) (by simp) (by
      have:(qwdr kind v [] ((s.drop c).take v)).2=0:=by simpa using hf
      rw[<-this])
     rw[List.nil_append] at k1;rw[k1] at hlo k4 ⊢;have hlen:(q636 m).length=v:=by rw[k3,List.length_take,List.length_drop];omega
     have hv:qpyu kind m=0:=by unfold qpyu;rw[if_neg (by omega),if_neg (by simp[k2]),if_neg hlo,if_neg (by omega)]
     refine⟨hv,by omega,?_⟩;unfold q5aq;rw[if_neg (by simp[hv])];show vb (q636 m).length (sz (q636 m).length)++q636 m=_;rw[hlen,<-b2,<-b4,k3,List.take_add]
structure W4 where
 a:Nat
 b:Nat
 c:Nat
 d:Nat
def setc(s:W4)(n:Nat):W4:=
 if n<64 then {s with a:=s.a ||| 2^(n%64)} else if n<128 then {s with b:=s.b ||| 2^(n%64)} else if n<192 then {s with c:=s.c ||| 2^(n%64)} else {s with d:=s.d ||| 2^(n%64)}
def addR(s:W4)(f:Nat):Nat->W4
 |0=>s
 |n+1=>setc (addR s f n) (f+n)
def ofL(l:List Nat):W4:=l.foldl setc ⟨0,0,0,0⟩
def word(s:W4)(n:Nat):Nat:=if n<64 then s.a else if n<128 then s.b else if n<192 then s.c else s.d
def hasW(s:W4)(n:Nat):Bool:=decide (n<256)&&(word s n / 2^(n%64)%2==1)
structure OkW(s:W4):Prop where
 a:s.a<18446744073709551616
 b:s.b<18446744073709551616
 c:s.c<18446744073709551616
 d:s.d<18446744073709551616
theorem or_lt{x n:Nat}(hx:x<18446744073709551616)(hn:n<64):x ||| 2^n<18446744073709551616:=
 Nat.or_lt_two_pow (n:=64) hx (Nat.pow_lt_pow_right (by decide) hn)
theorem OkW.setc{s:W4}(h:OkW s)(n:Nat):OkW (setc s n):=by
 have hn:n%64<64:=Nat.mod_lt _ (by decide);unfold Proofs.YtefmhbioggcfaaaGreatDoor.setc;split
 ·exact⟨or_lt h.a hn,h.b,h.c,h.d⟩
 split
 ·exact⟨h.a,or_lt h.b hn,h.c,h.d⟩
 split
 ·exact⟨h.a,h.b,or_lt h.c hn,h.d⟩
 ·exact⟨h.a,h.b,h.c,or_lt h.d hn⟩
theorem OkW.addR{s:W4}(h:OkW s)(f:Nat):∀n,OkW (addR s f n)
 |0=>h
 |n+1=>(OkW.addR h f n).setc _
theorem q4il:∀(l:List Nat) (s:W4),OkW s->OkW (l.foldl setc s)
 |[],_,h=>h
 |n::l,_,h=>q4il l _ (h.setc n)
theorem OkW.ofL(l:List Nat):OkW (ofL l):=q4il l _ ⟨by decide,by decide,by decide,by decide⟩
def grp(kind:Int):Nat:=
 if kind=2 then 1 else if kind=4\/kind=5 then 2 else if kind=6\/kind=7 then 3 else if kind=9 then 4 else if kind=11 then 5 else if kind=14 then 6 else if kind=15 then 7 else 0
def qedv:Nat->List Nat
 |1=>[0,128,129,130,131,132,133,134,135,136,137,138,140,144,149,151,153,154,155,156,157,159]
 |2=>[0,16,128,131,135,144,145,151,153]
 |3=>[0,146]
 |4=>[0,1,2,128,131,135,143,145,151,158,161,162]
 |5=>[0,17,128,131,135,143,145]
 |6=>[0,4,128,129,130,131,135,137,139,141,142,143,144,147,148,149,150,151,152,153,154,155,156,157,158,159,160,161,162]
 |7=>[0,24,25]
 |_=>[]
def q71c:Nat->W4
 |1=>addR (addR (ofL [0,140,144,149,151,159]) 128 11) 153 5
 |2=>ofL [0,16,128,131,135,144,145,151,153]
 |3=>ofL [0,146]
 |4=>ofL [0,1,2,128,131,135,143,145,151,158,161,162]
 |5=>ofL [0,17,128,131,135,143,145]
 |6=>addR (addR (ofL [0,4,135,137,139,141,142,143,144]) 128 4) 147 16
 |7=>ofL [0,24,25]
 |_=>⟨0,0,0,0⟩
theorem qljz(kind:Int):grp kind<8:=by
 unfold grp
 repeat' (first|decide|split)
theorem qjuf:∀g,OkW (q71c g)
 |0=>⟨by decide,by decide,by decide,by decide⟩
 |1=>((OkW.ofL _).addR _ _).addR _ _
 |2=>OkW.ofL _
 |3=>OkW.ofL _
 |4=>OkW.ofL _
 |5=>OkW.ofL _
 |6=>((OkW.ofL _).addR _ _).addR _ _
 |7=>OkW.ofL _
 |n+8=>show OkW ⟨0,0,0,0⟩ from⟨by decide,by decide,by decide,by decide⟩
theorem qy5i:∀g<8,∀n<256,hasW (q71c g) n=(qedv g).contains n:=by decide+kernel
theorem q5yb:∀g<8,∀n∈qedv g,n<163:=by decide+kernel
theorem qi9u(kind:Int)(n:Nat):hasW (q71c (grp kind)) n=(qedv (grp kind)).contains n:=by
 by_cases hn:n<256
 ·exact qy5i _ (qljz kind) n hn
 ·have h1:(qedv (grp kind)).contains n=false:=by
   rw[Bool.eq_false_iff];intro h
   have:=q5yb _ (qljz kind) n (List.contains_iff_mem.1 h)
   omega
  rw[h1];unfold hasW;simp[hn]
def mayR(kind code:Int):Bool:=decide (0<=code)&&(qedv (grp kind)).contains code.toNat
def qfn3(code:Int):Bool:=decide (0<=code)&&decide (code<6)
def qw69(code:Int):Bool:=code==0 || code==1 || code==2 || code==128
def bitC(b:Bool)(n:Nat):Nat:=if b then n else 0
def qc61(p:Pk):Nat:=
 if p.kind=1 then bitC p.hasUser 128+bitC p.hasPass 64+bitC p.wRetain 32+8*(p.wQos%4).toNat+bitC p.hasWill 4+bitC p.clean 2 else 0
def qm70(p:Pk):Pk:=
 if p.kind=2 then {Pk.zero with kind:=p.kind,session:=p.session,code:=p.code,props:=p.props}
 else {Pk.zero with
  kind:=p.kind,clean:=p.clean,keep:=p.keep,client:=p.client,hasUser:=p.hasUser,hasPass:=p.hasPass,hasWill:=p.hasWill,props:=p.props,
  user:=if p.hasUser then p.user else [],pass:=if p.hasPass then p.pass else [],
  wTopic:=if p.hasWill then p.wTopic else [],wPayload:=if p.hasWill then p.wPayload else [],wQos:=if p.hasWill then p.wQos else 0,wRetain:=p.hasWill&&p.wRetain,wProps:=if p.hasWill then p.wProps else []}
def versC(v:Int):Bool:=v==4 || v==5
def okC(v:Int)(p:Pk):Bool:=
 versC v&&(p.kind==1 || p.kind==2)&&decide (p=qm70 p)&&!(v==4&&!(p.props.isEmpty&&p.wProps.isEmpty))&&
 if p.kind=2 then(if v=4 then qfn3 p.code else mayR 2 p.code)&&(!p.session || p.code==0)
 else !(v==4&&(p.client.isEmpty&&!p.clean || p.hasPass&&!p.hasUser))&&decide (0<=p.keep/\p.keep<=65535)&&decide (0<=p.wQos/\p.wQos<=2)
def rightC(v kind:Int)(l:List Pr):Nat:=if v=5 then qpyu kind l else 0
def validC(v:Int)(p:Pk):Nat:=
 if okC v p=false then 2 else if (qecx p.client&&qecx p.user)=false then 6 else if (p.hasWill&&!q95c p.wTopic)=true then 10
 else if 65535<p.wPayload.length\/65535<p.pass.length then 2
 else if rightC v p.kind p.props≠0 then rightC v p.kind p.props else rightC v 16 p.wProps
def tailC(v kind:Int)(l:List Pr):List UInt8:=if v=5 then(q5aq kind l).1 else []
def q1f4:List UInt8:=[77,81,84,84]
def rawC(v:Int)(p:Pk):List UInt8:=
 if p.kind=2 then UInt8.ofNat (bitC p.session 1)::UInt8.ofNat p.code.toNat::tailC v 2 p.props
 else enc2 q1f4++([UInt8.ofNat v.toNat]++([UInt8.ofNat (qc61 p)]++(be p.keep.toNat 2++(tailC v 1 p.props++(enc2 p.client++
  ((if p.hasWill then tailC v 16 p.wProps++(enc2 p.wTopic++enc2 p.wPayload) else [])++((if p.hasUser then enc2 p.user else [])++if p.hasPass then enc2 p.pass else [])))))))
def qso1(v:Int)(p:Pk):List UInt8×Nat:=if validC v p≠0 then([],validC v p) else(rawC v p,0)
structure Cs where
 r:List UInt8
 e:Nat
def Cs.fail(s:Cs)(e:Nat):Cs:=if s.e≠0 then s else⟨s.r,e⟩
def Cs.take(s:Cs)(n:Nat):List UInt8×Cs:=if s.e≠0 then([],s) else if s.r.length<n then([],⟨s.r,3⟩) else(s.r.take n,⟨s.r.drop n,0⟩)
def Cs.num(s:Cs)(n:Nat):Nat×Cs:=(Go.Proofs.YtefmhbioggcfaaaGreatDoor.num (s.take n).1,(s.take n).2)
def Cs.bin(s:Cs):List UInt8×Cs:=if s.e≠0 then([],s) else((rdB s.r).1,⟨s.r.drop (rdB s.r).2.1,(rdB s.r).2.2⟩)
def Cs.text(s:Cs):List UInt8×Cs:=if s.e≠0 then([],s) else((rdT s.r).1,⟨s.r.drop (rdT s.r).2.1,(rdT s.r).2.2⟩)
def Cs.props(s:Cs)(v kind:Int):List Pr×Cs:=if s.e≠0\/v≠5 then([],s) else((qflw kind s.r).1,⟨s.r.drop (qflw kind s.r).2.1,(qflw kind s.r).2.2⟩)
theorem Cs.take_app{x t:List UInt8}{n:Nat}(h:x.length=n):(Cs.mk (x++t) 0).take n=(x,⟨t,0⟩):=by subst h;simp[Cs.take]
theorem Cs.num_app{k c:Nat}{t:List UInt8}(h:k<256^c):(Cs.mk (be k c++t) 0).num c=(k,⟨t,0⟩):=by rw[Cs.num,Cs.take_app (q0rl c k),q7wd,Nat.mod_eq_of_lt h]
def qoy6(v:Int)(f:Nat):Bool:=f%2==1 || f / 8%4==3 || (f / 4%2==0&&f / 8%8 != 0) || (v==4&&f / 64==1)
def Cs.name(s:Cs):Cs:=if (s.take 6).2.e=0/\(s.take 6).1≠enc2 q1f4 then(s.take 6).2.fail 5 else(s.take 6).2
def Cs.vers(s:Cs)(v:Int):Cs:=if (s.num 1).2.e=0/\((s.num 1).1:Int)≠v then(s.num 1).2.fail 5 else(s.num 1).2
def Cs.flags(s:Cs)(v:Int):Nat×Cs:=((s.num 1).1,if (s.num 1).2.e=0/\qoy6 v (s.num 1).1=true then(s.num 1).2.fail 7 else(s.num 1).2)
def Cs.optT(s:Cs)(b:Bool):List UInt8×Cs:=if b then s.text else([],s)
def Cs.optB(s:Cs)(b:Bool):List UInt8×Cs:=if b then s.bin else([],s)
def Cs.optP(s:Cs)(b:Bool)(v kind:Int):List Pr×Cs:=if b then s.props v kind else([],s)
def qnld(v:Int)(s:Cs):Pk×Cs:=
 let c:=(s.name.vers v).flags v
 let d:=c.2.num 2
 let p:=d.2.props v 1
 let q:=p.2.text
 let wp:=q.2.optP (c.1 / 4%2==1) v 16
 let wt:=wp.2.optT (c.1 / 4%2==1)
 let wd:=wt.2.optB (c.1 / 4%2==1)
 let us:=wd.2.optT (c.1 / 128%2==1)
 let ps:=us.2.optB (c.1 / 64%2==1)
 ({Pk.zero with
  kind:=1,clean:=c.1 / 2%2==1,keep:=d.1,client:=q.1,hasUser:=c.1 / 128%2==1,user:=us.1,hasPass:=c.1 / 64%2==1,pass:=ps.1,hasWill:=c.1 / 4%2==1,
  wTopic:=wt.1,wPayload:=wd.1,wQos:=(c.1 / 8%4:Nat),wRetain:=c.1 / 32%2==1,wProps:=wp.1,props:=p.1},ps.2)
def qx6n(v:Int)(s:Cs):Pk×Cs:=
 let a:=s.num 1
 let s1:=if a.1 > 1 then a.2.fail 7 else a.2
 let b:=s1.num 1
 let p:=b.2.props v 2
 ({Pk.zero with kind:=2,session:=a.1==1,code:=b.1,props:=p.1},p.2)
def q56s(v kind:Int)(l:List UInt8):Pk×Nat:=
 if (versC v&&(kind==1 || kind==2))=false then(Pk.zero,2)
 else
  let x:=if kind=1 then qnld v ⟨l,0⟩ else qx6n v ⟨l,0⟩
  let s:=if x.2.e=0/\x.2.r≠[] then x.2.fail 5 else x.2
  let s:=s.fail (validC v x.1)
  if s.e≠0 then(Pk.zero,s.e) else(x.1,0)
theorem qgoi{v:Int}{p:Pk}(h:validC v p=0):okC v p=true/\qecx p.client=true/\qecx p.user=true/\(p.hasWill=true->q95c p.wTopic=true)/\p.wPayload.length<=65535/\p.pass.length<=65535/\rightC v p.kind p.props=0/\rightC v 16 p.wProps=0:=by
 rw[validC] at h;split at h
 ·cases h
 split at h
 ·cases h
 split at h
 ·cases h
 split at h
 ·cases h
 rename_i h1 h2 h3 h4;split at h
 ·rename_i h5;exact absurd h h5
 rename_i h5;rw[Bool.and_eq_false_iff,not_or,Bool.not_eq_false,Bool.not_eq_false] at h2;rw[not_or] at h4;refine⟨by simpa using h1,h2.1,h2.2,fun hw=>?_,by omega,by omega,by simpa using h5,h⟩;rw[hw] at h3;simpa using h3
theorem ok_c{v:Int}{p:Pk}(h:okC v p=true):(v=4\/v=5)/\(p.kind=1\/p.kind=2)/\p=qm70 p/\(v=4->p.props=[]/\p.wProps=[])/\
 (p.kind=2->(if v=4 then qfn3 p.code else mayR 2 p.code)=true/\(p.session=true->p.code=0))/\
 (p.kind=1->(v=4->(p.client=[]->p.clean=true)/\(p.hasPass=true->p.hasUser=true))/\(0<=p.keep/\p.keep<=65535)/\0<=p.wQos/\p.wQos<=2):=by
 unfold okC at h;simp only[Bool.and_eq_true,Bool.or_eq_true,beq_iff_eq,decide_eq_true_eq,versC] at h;obtain⟨⟨⟨⟨hv,hk⟩,hu⟩,h4⟩,hr⟩:=h;refine⟨hv,hk,hu,fun e=>?_,fun e=>?_,fun e=>?_⟩
 ·subst e;have h4:=h4;simp only[beq_self_eq_true,Bool.true_and,Bool.not_not,Bool.and_eq_true,List.isEmpty_iff] at h4;exact h4
 ·rw[if_pos e] at hr;simp only[Bool.and_eq_true,Bool.or_eq_true,Bool.not_eq_true',beq_iff_eq] at hr;refine⟨hr.1,fun es=>?_⟩;rcases hr.2 with h|h
  ·rw[es] at h;cases h
  ·exact h
 ·rw[if_neg (by omega)] at hr;simp only[Bool.and_eq_true,decide_eq_true_eq] at hr;refine⟨fun e4=>?_,hr.1.2,hr.2⟩;have h1:=hr.1.1;subst e4;simp only[beq_self_eq_true,Bool.true_and,Bool.not_eq_true',Bool.or_eq_false_iff,Bool.and_eq_false_iff,Bool.not_eq_false',List.isEmpty_eq_false_iff] at h1;refine⟨fun ec=>?_,fun ep=>?_⟩
  ·rcases h1.1 with h|h
   ·exact absurd ec h
   ·exact h
  ·rcases h1.2 with h|h
   ·rw[ep] at h;cases h
   ·exact h
theorem qp3s{v:Int}{c:Int}(h:(if v=4 then qfn3 c else mayR 2 c)=true):0<=c/\c<163:=by
 split at h
 ·simp[qfn3] at h;omega
 ·simp only[mayR,Bool.and_eq_true,decide_eq_true_eq] at h
  have:=q5yb (grp 2) (qljz 2) c.toNat (by simpa using h.2)
  omega
def fl(u a r w c:Bool)(q:Nat):Nat:=bitC u 128+bitC a 64+bitC r 32+8*q+bitC w 4+bitC c 2
theorem qwk3(u a r w c:Bool){q:Nat}(hq:q<3):fl u a r w c q<256/\(fl u a r w c q / 128%2==1)=u/\(fl u a r w c q / 64%2==1)=a/\(fl u a r w c q / 32%2==1)=r/\fl u a r w c q / 8%4=q/\(fl u a r w c q / 4%2==1)=w/\(fl u a r w c q / 2%2==1)=c:=by
 obtain rfl|rfl|rfl:q=0\/q=1\/q=2:=by omega
 all_goals (revert u a r w c;decide+kernel)
theorem qv7n{p:Pk}{q:Nat}(hk:p.kind=1)(hq:p.wQos=q)(h3:q<3):qc61 p=fl p.hasUser p.hasPass p.wRetain p.hasWill p.clean q:=by
 rw[qc61,if_pos hk,hq,fl]
 have:(((q:Nat):Int)%4).toNat=q:=by omega
 rw[this]
theorem qmh4{x:List UInt8}(h:q95c x=true):qecx x=true:=by simp only[q95c,Bool.and_eq_true] at h;exact h.1.1.2
theorem Cs.take_back{s:Cs}{n:Nat}(h:(s.take n).2.e=0):s.e=0/\s.r=(s.take n).1++(s.take n).2.r/\(s.take n).1.length=n:=by
 unfold Cs.take at h ⊢;split at h
 ·rename_i h1;exact absurd h h1
 ·rename_i h1;split at h
  ·cases h
  ·rename_i h2;rw[if_neg h1,if_neg h2];refine⟨by simpa using h1,(List.take_append_drop n s.r).symm,by simp;omega⟩
theorem Cs.num_back{s:Cs}{n:Nat}(h:(s.num n).2.e=0):s.e=0/\s.r=be (s.num n).1 n++(s.num n).2.r/\(s.num n).1<256^n:=by
 obtain⟨h1,h2,h3⟩:=Cs.take_back (s:=s) (n:=n) h;refine⟨h1,?_,?_⟩
 ·show s.r=be (Go.Proofs.YtefmhbioggcfaaaGreatDoor.num (s.take n).1) n++(s.take n).2.r
  have:=qz9g (s.take n).1
  rw[h3] at this;rw[this];exact h2
 ·have:=qn9h (s.take n).1
  rw[h3] at this;exact this
theorem Cs.bin_back{s:Cs}(h:s.bin.2.e=0):s.e=0/\s.r=enc2 s.bin.1++s.bin.2.r/\s.bin.1.length<=65535:=by
 unfold Cs.bin at h ⊢;split at h
 ·rename_i h1;exact absurd h h1
 ·rename_i h1;rw[if_neg h1];rcases qsrz s.r with ⟨_,h2,h3,h4,h5⟩|h2
  ·refine⟨by simpa using h1,?_,by show(rdB s.r).1.length<=65535;omega⟩;show s.r=enc2 (rdB s.r).1++s.r.drop (rdB s.r).2.1;rw[<-h5,List.take_append_drop]
  ·have h:(rdB s.r).2.2=0:=h;rw[h2] at h;cases h
theorem Cs.text_back{s:Cs}(h:s.text.2.e=0):s.e=0/\s.r=enc2 s.text.1++s.text.2.r/\qecx s.text.1=true:=by
 unfold Cs.text at h ⊢;split at h
 ·rename_i h1;exact absurd h h1
 ·rename_i h1;rw[if_neg h1];have h:(rdT s.r).2.2=0:=h;show s.e=0/\s.r=enc2 (rdT s.r).1++s.r.drop (rdT s.r).2.1/\qecx (rdT s.r).1=true;rw[rdT] at h ⊢;split at h
  ·cases h
  ·rename_i h2;split at h
   ·rename_i h3;rw[if_neg h2,if_pos h3];rcases qsrz s.r with ⟨_,_,_,_,h5⟩|h5
    ·exact⟨by simpa using h1,by rw[<-h5,List.take_append_drop],h3⟩
    ·rw[h5] at h2;exact absurd (by decide) h2
   ·cases h
theorem Cs.props_back{s:Cs}{v kind:Int}(h:(s.props v kind).2.e=0):s.e=0/\s.r=tailC v kind (s.props v kind).1++(s.props v kind).2.r/\rightC v kind (s.props v kind).1=0/\(v≠5->(s.props v kind).1=[]):=by
 unfold Cs.props at h ⊢;split at h
 ·rename_i h1;have h:s.e=0:=h;have hv:v≠5:=by
   rcases h1 with h1|h1
   ·exact absurd h h1
   ·exact h1
  rw[if_pos h1];exact⟨h,by simp[tailC,hv],by simp[rightC,hv],fun _=>rfl⟩
 ·rename_i h1;rw[if_neg h1];rw[not_or] at h1;have hv:v=5:=by simpa using h1.2
  have h:(qflw kind s.r).2.2=0:=h;obtain⟨h2,h3,h4⟩:=qugf (show qflw kind s.r=((qflw kind s.r).1,(qflw kind s.r).2.1,0) by rw[<-h]);refine⟨by simpa using h1.1,?_,by simp[rightC,hv,h2],fun h5=>absurd hv h5⟩;show s.r=tailC v kind (qflw kind s.r).1++s.r.drop (qflw kind s.r).2.1;rw[tailC,if_pos hv,h4,List.take_append_drop]
theorem Cs.fail_e{s:Cs}{e:Nat}(he:e≠0):(s.fail e).e≠0:=by
 unfold Cs.fail;split
 ·assumption
 ·exact he
theorem Cs.name_back{s:Cs}(h:s.name.e=0):s.e=0/\s.r=enc2 q1f4++s.name.r:=by
 unfold Cs.name at h ⊢;split at h
 ·exact absurd h (Cs.fail_e (by decide))
 ·rename_i h1;obtain⟨h2,h3,_⟩:=Cs.take_back h;rw[if_neg h1];rw[Decidable.not_and_iff_or_not] at h1;refine⟨h2,?_⟩;rcases h1 with h1|h1
  ·exact absurd h h1
  ·rw[Decidable.not_not] at h1;rw[<-h1];exact h3
theorem qpzx{k:Nat}:be k 1=[UInt8.ofNat k]:=by simp[be]
theorem Cs.vers_back{s:Cs}{v:Int}(h:(s.vers v).e=0):s.e=0/\s.r=[UInt8.ofNat v.toNat]++(s.vers v).r:=by
 unfold Cs.vers at h ⊢;split at h
 ·exact absurd h (Cs.fail_e (by decide))
 ·rename_i h1;obtain⟨h2,h3,_⟩:=Cs.num_back h;rw[if_neg h1];rw[Decidable.not_and_iff_or_not] at h1;refine⟨h2,?_⟩;rcases h1 with h1|h1
  ·exact absurd h h1
  ·rw[Decidable.not_not] at h1
   have:v.toNat=(s.num 1).1:=by omega
   rw[this,<-qpzx];exact h3
theorem Cs.flags_back{s:Cs}{v:Int}(h:(s.flags v).2.e=0):s.e=0/\s.r=[UInt8.ofNat (s.flags v).1]++(s.flags v).2.r/\(s.flags v).1<256/\qoy6 v (s.flags v).1=false:=by
 unfold Cs.flags at h ⊢;simp only at h ⊢;split at h
 ·exact absurd h (Cs.fail_e (by decide))
 ·rename_i h1;obtain⟨h2,h3,h4⟩:=Cs.num_back h;rw[if_neg h1];rw[Decidable.not_and_iff_or_not] at h1;refine⟨h2,by rw[<-qpzx];exact h3,by simpa using h4,?_⟩;rcases h1 with h1|h1
  ·exact absurd h h1
  ·simpa using h1
theorem Cs.optT_back{s:Cs}{b:Bool}(h:(s.optT b).2.e=0):s.e=0/\s.r=(if b then enc2 (s.optT b).1 else [])++(s.optT b).2.r/\qecx (s.optT b).1=true/\(b=false->(s.optT b).1=[]):=by
 cases b
 ·exact⟨h,by simp[Cs.optT],by simp[Cs.optT];decide+kernel,fun _=>rfl⟩
 ·obtain⟨h1,h2,h3⟩:=Cs.text_back (s:=s) h;exact⟨h1,h2,h3,fun e=>by cases e⟩
theorem Cs.optB_back{s:Cs}{b:Bool}(h:(s.optB b).2.e=0):s.e=0/\s.r=(if b then enc2 (s.optB b).1 else [])++(s.optB b).2.r/\(s.optB b).1.length<=65535/\(b=false->(s.optB b).1=[]):=by
 cases b
 ·exact⟨h,by simp[Cs.optB],by simp[Cs.optB],fun _=>rfl⟩
 ·obtain⟨h1,h2,h3⟩:=Cs.bin_back (s:=s) h;exact⟨h1,h2,h3,fun e=>by cases e⟩
theorem Cs.optP_back{s:Cs}{b:Bool}{v kind:Int}(h:(s.optP b v kind).2.e=0):s.e=0/\s.r=(if b then tailC v kind (s.optP b v kind).1 else [])++(s.optP b v kind).2.r/\(b=false->(s.optP b v kind).1=[]):=by
 cases b
 ·exact⟨h,by simp[Cs.optP],fun _=>rfl⟩
 ·obtain⟨h1,h2,_⟩:=Cs.props_back (s:=s) (v:=v) (kind:=kind) h;exact⟨h1,h2,fun e=>by cases e⟩
theorem qy6q(v:Int)(s:Cs){c d:Nat×Cs}{p wp:List Pr×Cs}{q wt wd us ps:List UInt8×Cs}(hc:(s.name.vers v).flags v=c)(hd:c.2.num 2=d)(hp:d.2.props v 1=p)(hq:p.2.text=q)
 (hwp:q.2.optP (c.1 / 4%2==1) v 16=wp) (hwt:wp.2.optT (c.1 / 4%2==1)=wt) (hwd:wt.2.optB (c.1 / 4%2==1)=wd) (hus:wd.2.optT (c.1 / 128%2==1)=us) (hps:us.2.optB (c.1 / 64%2==1)=ps) :
 qnld v s=({Pk.zero with
 kind:=1,clean:=c.1 / 2%2==1,keep:=d.1,client:=q.1,hasUser:=c.1 / 128%2==1,user:=us.1,hasPass:=c.1 / 64%2==1,pass:=ps.1,hasWill:=c.1 / 4%2==1,
 wTopic:=wt.1,wPayload:=wd.1,wQos:=(c.1 / 8%4:Nat),wRetain:=c.1 / 32%2==1,wProps:=wp.1,props:=p.1},ps.2):=by
 subst hc hd hp hq hwp hwt hwd hus hps
 rfl
theorem q3c1:∀f<256,f%2=0->f=fl (f / 128%2==1) (f / 64%2==1) (f / 32%2==1) (f / 4%2==1) (f / 2%2==1) (f / 8%4):=by decide+kernel
theorem qyg2{v:Int}{s:Cs}(h:(qnld v s).2.e=0):s.e=0/\s.r=rawC v (qnld v s).1++(qnld v s).2.r/\(qnld v s).1.kind=1:=by
 obtain⟨c,hc⟩:∃c,(s.name.vers v).flags v=c:=⟨_,rfl⟩
 obtain⟨d,hd⟩:∃d,c.2.num 2=d:=⟨_,rfl⟩
 obtain⟨p,hp⟩:∃p,d.2.props v 1=p:=⟨_,rfl⟩
 obtain⟨q,hq⟩:∃q,p.2.text=q:=⟨_,rfl⟩
 obtain⟨wp,hwp⟩:∃x,q.2.optP (c.1 / 4%2==1) v 16=x:=⟨_,rfl⟩
 obtain⟨wt,hwt⟩:∃x,wp.2.optT (c.1 / 4%2==1)=x:=⟨_,rfl⟩
 obtain⟨wd,hwd⟩:∃x,wt.2.optB (c.1 / 4%2==1)=x:=⟨_,rfl⟩
 obtain⟨us,hus⟩:∃x,wd.2.optT (c.1 / 128%2==1)=x:=⟨_,rfl⟩
 obtain⟨ps,hps⟩:∃x,us.2.optB (c.1 / 64%2==1)=x:=⟨_,rfl⟩
 rw[qy6q v s hc hd hp hq hwp hwt hwd hus hps] at h ⊢;have h:ps.2.e=0:=h;obtain⟨g9,r9,_,_⟩:=Cs.optB_back (s:=us.2) (b:=c.1 / 64%2==1) (by rw[hps];exact h);rw[hps] at r9;obtain⟨g8,r8,_,_⟩:=Cs.optT_back (s:=wd.2) (b:=c.1 / 128%2==1) (by rw[hus];exact g9);rw[hus] at r8;obtain⟨g7,r7,_,_⟩:=Cs.optB_back (s:=wt.2) (b:=c.1 / 4%2==1) (by rw[hwd];exact g8);rw[hwd] at r7;obtain⟨g6,r6,_,_⟩:=Cs.optT_back (s:=wp.2) (b:=c.1 / 4%2==1) (by rw[hwt];exact g7);rw[hwt] at r6;obtain⟨g5,r5,_⟩:=Cs.optP_back (s:=q.2) (b:=c.1 / 4%2==1) (v:=v) (kind:=16) (by rw[hwp];exact g6);rw[hwp] at r5;obtain⟨g4,r4,_⟩:=Cs.text_back (s:=p.2) (by rw[hq];exact g5);rw[hq] at r4;obtain⟨g3,r3,_⟩:=Cs.props_back (s:=d.2) (v:=v) (kind:=1) (by rw[hp];exact g4);rw[hp] at r3;obtain⟨g2,r2,_⟩:=Cs.num_back (s:=c.2) (n:=2) (by rw[hd];exact g3);rw[hd] at r2;obtain⟨g1,r1,f256,fw⟩:=Cs.flags_back (s:=s.name.vers v) (v:=v) (by rw[hc];exact g2);rw[hc] at r1 f256 fw;obtain⟨g0,r0⟩:=Cs.vers_back g1;obtain⟨gm,rm⟩:=Cs.name_back g0;refine⟨gm,?_,rfl⟩;have hf:qc61 {Pk.zero with
  kind:=1,clean:=c.1 / 2%2==1,keep:=d.1,client:=q.1,hasUser:=c.1 / 128%2==1,user:=us.1,hasPass:=c.1 / 64%2==1,pass:=ps.1,hasWill:=c.1 / 4%2==1,
  wTopic:=wt.1,wPayload:=wd.1,wQos:=(c.1 / 8%4:Nat),wRetain:=c.1 / 32%2==1,wProps:=wp.1,props:=p.1}=c.1:=by
  have h2:c.1%2=0:=by simp only[qoy6,Bool.or_eq_false_iff,beq_eq_false_iff_ne] at fw;omega
  rw[qv7n (q:=c.1 / 8%4) rfl rfl]
  ·exact(q3c1 c.1 f256 h2).symm
  ·simp only[qoy6,Bool.or_eq_false_iff,beq_eq_false_iff_ne] at fw;omega
 obtain⟨x,hx⟩:∃x:Pk,{Pk.zero with
  kind:=1,clean:=c.1 / 2%2==1,keep:=d.1,client:=q.1,hasUser:=c.1 / 128%2==1,user:=us.1,hasPass:=c.1 / 64%2==1,pass:=ps.1,hasWill:=c.1 / 4%2==1,
  wTopic:=wt.1,wPayload:=wd.1,wQos:=(c.1 / 8%4:Nat),wRetain:=c.1 / 32%2==1,wProps:=wp.1,props:=p.1}=x:=⟨_,rfl⟩
 rw[hx] at hf ⊢;have k1:¬x.kind=2:=by rw[<-hx];exact(by decide:¬(1:Int)=2)
 rw[rawC,if_neg k1,hf,<-hx,rm,r0,r1,r2,r3,r4,r5,r6,r7,r8,r9];cases (c.1 / 4%2==1)<;>simp
theorem q55w{v:Int}{s:Cs}(h:(qx6n v s).2.e=0):s.e=0/\s.r=rawC v (qx6n v s).1++(qx6n v s).2.r/\(qx6n v s).1.kind=2:=by
 obtain⟨a,ha⟩:∃a,s.num 1=a:=⟨_,rfl⟩
 obtain⟨b,hb⟩:∃b,(if a.1 > 1 then a.2.fail 7 else a.2).num 1=b:=⟨_,rfl⟩
 obtain⟨p,hp⟩:∃p,b.2.props v 2=p:=⟨_,rfl⟩
 have e:qx6n v s=({Pk.zero with kind:=2,session:=a.1==1,code:=b.1,props:=p.1},p.2):=by subst ha hb hp;rfl
 rw[e] at h ⊢;obtain⟨g2,r2,_⟩:=Cs.props_back (s:=b.2) (v:=v) (kind:=2) (by rw[hp];exact h);rw[hp] at r2;obtain⟨g1,r1,_⟩:=Cs.num_back (n:=1) (by rw[hb];exact g2);rw[hb] at r1;split at g1
 ·exact absurd g1 (Cs.fail_e (by decide))
 rename_i h1;rw[if_neg h1] at r1;obtain⟨g0,r0,_⟩:=Cs.num_back (s:=s) (n:=1) (by rw[ha];exact g1);rw[ha] at r0;refine⟨g0,?_,rfl⟩;have hb:bitC (a.1==1) 1=a.1:=by
  obtain e|e:a.1=0\/a.1=1:=by omega
  all_goals rw[e];rfl
 rw[r0,r1,r2,rawC,if_pos rfl,qpzx,qpzx];simp[hb]
theorem Cs.fail_keep{s:Cs}{e:Nat}(h:s.e≠0):(s.fail e).e≠0:=by rw[Cs.fail,if_pos h];exact h
theorem Cs.fail_no{s:Cs}{e:Nat}(h:(s.fail e).e=0):s.e=0/\e=0:=by
 unfold Cs.fail at h;split at h
 ·rename_i h1;exact absurd h h1
 ·rename_i h1;exact⟨by simpa using h1,h⟩
theorem qqbo{v kind:Int}{l:List UInt8}{q:Pk}(h:q56s v kind l=(q,0)):validC v q=0/\rawC v q=l/\q.kind=kind:=by
 unfold q56s at h;split at h
 ·cases h
 rename_i hk;rw[Bool.not_eq_false] at hk;simp only at h;have hp:∀x:Pk×Cs,(if kind=1 then qnld v ⟨l,0⟩ else qx6n v ⟨l,0⟩)=x->x.2.e=0->l=rawC v x.1++x.2.r/\x.1.kind=kind:=by
  intro x hx he;split at hx
  ·rename_i h1;subst hx;obtain⟨_,h2,h3⟩:=qyg2 he;exact⟨h2,by rw[h3,h1]⟩
  ·rename_i h1;subst hx;obtain⟨_,h2,h3⟩:=q55w he;refine⟨h2,?_⟩;rw[h3];simp only[Bool.and_eq_true,Bool.or_eq_true,beq_iff_eq] at hk;omega
 generalize hx:(if kind=1 then qnld v ⟨l,0⟩ else qx6n v ⟨l,0⟩)=x at h;have hp:=hp x hx;split at h
 ·have hn:((x.2.fail 5).fail (validC v x.1)).e≠0:=Cs.fail_keep (Cs.fail_e (by decide));rw[if_pos hn] at h;exact absurd (Prod.mk.inj h).2 hn
 ·rename_i h5;split at h
  ·rename_i hn;exact absurd (Prod.mk.inj h).2 hn
  ·rename_i h2;rw[ne_eq,Decidable.not_not] at h2;have h:=(Prod.mk.inj h).1;subst h;obtain⟨h3,h4⟩:=Cs.fail_no h2;obtain⟨h6,h7⟩:=hp h3;have hr:x.2.r=[]:=by
    rcases Decidable.em (x.2.r=[]) with h8|h8
    ·exact h8
    ·exact absurd ⟨h3,h8⟩ h5
   rw[hr,List.append_nil] at h6;exact⟨h4,h6.symm,h7⟩
def qveh(x:Cs)(f:Nat):Cs:=(if x.e=0/\x.r≠[] then x.fail 5 else x).fail f
theorem qemw{s:Cs}{e:Nat}(h:(s.fail e).e=0):s.e=0/\e=0:=by
 unfold Cs.fail at h;split at h
 ·rename_i h1;exact absurd h h1
 ·rename_i h1;exact⟨by simpa using h1,h⟩
def qzno(v kind code:Int)(l:List Pr):List UInt8:=
 if v=5/\(code≠0\/l≠[]) then UInt8.ofNat code.toNat::(if l≠[] then(q5aq kind l).1 else []) else []
def qiby(p:Pk):Pk:={Pk.zero with kind:=p.kind,id:=p.id,code:=p.code,props:=p.props}
def qvya(k:Int):Bool:=decide (4<=k)&&decide (k<=7)
def okA(v:Int)(p:Pk):Bool:=
 versC v&&qvya p.kind&&decide (p=qiby p)&&!(v==4&&!(p.code==0&&p.props.isEmpty))&&(decide (1<=p.id)&&decide (p.id<=65535))&&mayR p.kind p.code
def qryp(v:Int)(p:Pk):Nat:=if okA v p=false then 2 else rightC v p.kind p.props
def rawA(v:Int)(p:Pk):List UInt8:=be p.id.toNat 2++qzno v p.kind p.code p.props
def q04h(v:Int)(p:Pk):List UInt8×Nat:=if qryp v p≠0 then([],qryp v p) else(rawA v p,0)
def Cs.rest(s:Cs)(v kind:Int):(Nat×List Pr)×Cs:=
 if v≠5\/s.e≠0\/s.r=[] then((0,[]),s)
 else
  let c:=s.num 1
  let p:=if c.2.r=[] then([],c.2) else c.2.props v kind
  ((c.1,p.1),if p.2.e=0/\p.2.r=[]/\qzno v kind c.1 p.1≠s.r then p.2.fail 5 else p.2)
def qngm(v kind:Int)(s:Cs):Pk×Cs:=
 let i:=s.num 2
 let r:=i.2.rest v kind
 ({Pk.zero with kind:=kind,id:=(i.1:Nat),code:=(r.1.1:Nat),props:=r.1.2},r.2)
def q9uf(v kind:Int)(l:List UInt8):Pk×Nat:=
 if (versC v&&qvya kind)=false then(Pk.zero,2)
 else
  let x:=qngm v kind ⟨l,0⟩
  let s:=qveh x.2 (qryp v x.1)
  if s.e≠0 then(Pk.zero,s.e) else(x.1,0)
theorem qaiv{k c:Int}(h:mayR k c=true):0<=c/\c<163:=by
 simp only[mayR,Bool.and_eq_true,decide_eq_true_eq] at h
 have:=q5yb (grp k) (qljz k) c.toNat (by simpa using h.2)
 omega
theorem ok_a{v:Int}{p:Pk}(h:okA v p=true):(v=4\/v=5)/\(4<=p.kind/\p.kind<=7)/\p=qiby p/\(v=4->p.code=0/\p.props=[])/\(1<=p.id/\p.id<=65535)/\mayR p.kind p.code=true:=by unfold okA at h;simp only[Bool.and_eq_true,Bool.or_eq_true,beq_iff_eq,decide_eq_true_eq,versC,qvya] at h;obtain⟨⟨⟨⟨⟨hv,hk⟩,hu⟩,h4⟩,hi⟩,hm⟩:=h;refine⟨hv,hk,hu,fun e=>?_,hi,hm⟩;subst e;simpa using h4
theorem q858{v:Int}{p:Pk}(h:qryp v p=0):okA v p=true/\rightC v p.kind p.props=0:=by
 rw[qryp] at h;split at h
 ·cases h
 ·rename_i h1;exact⟨by simpa using h1,h⟩
theorem q0lq{x:Cs}{f:Nat}(h:(qveh x f).e=0):x.e=0/\x.r=[]/\f=0:=by
 unfold qveh at h;obtain⟨h1,h2⟩:=qemw h;by_cases hx:x.e=0/\x.r≠[]
 ·rw[if_pos hx] at h1;exact absurd (qemw h1).2 (by decide)
 ·rw[if_neg hx] at h1;refine⟨h1,?_,h2⟩;by_cases hr:x.r=[]
  ·exact hr
  ·exact absurd ⟨h1,hr⟩ hx
theorem qgvz{v k:Int}{l:List UInt8}(h:(q9uf v k l).2=0):qryp v (q9uf v k l).1=0/\rawA v (q9uf v k l).1=l/\(q9uf v k l).1.kind=k:=by
 unfold q9uf at h ⊢;split at h
 ·cases h
 rename_i h1;rw[if_neg h1];simp only at h ⊢;split at h
 ·rename_i h2;exact absurd h h2
 rename_i h2;rw[if_neg h2];have h2:(qveh (qngm v k ⟨l,0⟩).2 (qryp v (qngm v k ⟨l,0⟩).1)).e=0:=by simpa using h2
 obtain⟨h3,h4,h5⟩:=q0lq h2;refine⟨h5,?_,rfl⟩;obtain⟨i,hi⟩:∃i,(Cs.mk l 0).num 2=i:=⟨_,rfl⟩
 obtain⟨r,hr⟩:∃r,i.2.rest v k=r:=⟨_,rfl⟩
 have hx:qngm v k ⟨l,0⟩=({Pk.zero with kind:=k,id:=(i.1:Nat),code:=(r.1.1:Nat),props:=r.1.2},r.2):=by subst hi hr;rfl
 rw[hx] at h3 h4 ⊢;have h3:r.2.e=0:=h3;have h4:r.2.r=[]:=h4;have hs:i.2.e=0/\qzno v k (r.1.1:Nat) r.1.2=i.2.r:=by
  unfold Cs.rest at hr;split at hr
  ·rename_i hc;subst hr;refine⟨h3,?_⟩;have h4:i.2.r=[]:=h4;rw[h4];simp[qzno]
  ·rename_i hc;have he:i.2.e=0:=by
    by_cases he:i.2.e=0
    ·exact he
    ·exact absurd (.inr (.inl he)) hc
   refine⟨he,?_⟩;simp only at hr;obtain⟨p,hp⟩:∃p,(if (i.2.num 1).2.r=[] then([],(i.2.num 1).2) else(i.2.num 1).2.props v k)=p:=⟨_,rfl⟩
   rw[hp] at hr;subst hr;simp only at h3 h4 ⊢;by_cases hw:p.2.e=0/\p.2.r=[]/\qzno v k (i.2.num 1).1 p.1≠i.2.r
   ·rw[if_pos hw] at h3;exact absurd (qemw h3).2 (by decide)
   ·rw[if_neg hw] at h3 h4;by_cases he:qzno v k (i.2.num 1).1 p.1=i.2.r
    ·exact he
    ·exact absurd ⟨h3,h4,he⟩ hw
 have hb:=Cs.num_back (s:=Cs.mk l 0) (n:=2) (by rw[hi];exact hs.1);rw[hi] at hb;have e:l=be i.1 2++i.2.r:=hb.2.1;rw[e,<-hs.2]
 rfl
theorem qjfk{kind:Int}{s:List UInt8}(h:(qflw kind s).2.2≠0):qflw kind s=([],0,(qflw kind s).2.2):=by
 unfold qflw at *
 repeat' split
 all_goals first|rfl|skip
 all_goals rename_i h1 h2 h3 h4;rw[if_neg h1,if_neg h2,if_neg h3,if_neg h4] at h;exact absurd rfl h
theorem qjdx(kind:Int):qflw kind []=([],0,3):=rfl
def necA(p:Pk):Nat:=if p.props≠[] then 2 else if p.code≠0 then 1 else 0
theorem qxhf(p:Pk):necA p=0\/necA p=1\/necA p=2:=by
 unfold necA;by_cases h:p.props=[]
 ·by_cases h1:p.code=0<;>simp[h,h1]
 ·simp[h]
def qolc(kind:Int)(s:Cs):(Nat×List Pr×Nat)×Cs:=
 if s.r=[] then((0,[],0),s)
 else if (s.num 1).2.r=[] then(((s.num 1).1,[],1),(s.num 1).2)
 else(((s.num 1).1,(qflw kind (s.num 1).2.r).1,2),((s.num 1).2.take (qflw kind (s.num 1).2.r).2.1).2.fail (qflw kind (s.num 1).2.r).2.2)
def midB(v kind:Int)(s:Cs):(Nat×List Pr×Nat)×Cs:=if v=5/\s.e=0 then qolc kind s else((0,[],0),s)
def pkB(kind:Int)(i c:Nat)(l:List Pr):Pk:={Pk.zero with kind:=kind,id:=(i:Nat),code:=(c:Nat),props:=l}
def qts0(v kind:Int)(s:Cs):Pk×Cs:=
 let i:=s.num 2
 let t:=midB v kind i.2
 let p:=pkB kind i.1 t.1.1 t.1.2.1
 (p,if t.2.r≠[]\/necA p<t.1.2.2 then t.2.fail 5 else t.2)
theorem Cs.num_one{b:UInt8}{t:List UInt8}:(Cs.mk (b::t) 0).num 1=(b.toNat,⟨t,0⟩):=by
 have h:=Cs.num_app (k:=b.toNat) (c:=1) (t:=t) (by have:=b.toNat_lt;omega);have e:be b.toNat 1=[b]:=by simp[be]
 rw[e] at h;exact h
theorem q1h8{kind:Int}{t:List UInt8}:((Cs.mk t 0).take (qflw kind t).2.1).2.fail (qflw kind t).2.2=⟨t.drop (qflw kind t).2.1,(qflw kind t).2.2⟩:=by
 have hle:(qflw kind t).2.1<=t.length:=by
  by_cases hF:(qflw kind t).2.2=0
  ·obtain⟨L,k,F,hq⟩:∃L k F,qflw kind t=(L,k,F):=⟨_,_,_,rfl⟩
   rw[hq] at hF ⊢;have hF:F=0:=hF;subst hF;exact(qugf hq).2.1
  ·rw[qjfk hF];exact Nat.zero_le _
 have h:¬t.length<(qflw kind t).2.1:=by omega
 simp[Cs.take,Cs.fail,h]
theorem qhjx(x:Cs)(f:Nat):(qveh x f).e=if x.e≠0 then x.e else if x.r≠[] then 5 else f:=by
 unfold qveh Cs.fail;by_cases he:x.e=0
 ·by_cases hr:x.r=[]
  ·simp[he,hr]
  ·simp[he,hr]
 ·simp[he]
def endB(p:Pk)(t:(Nat×List Pr×Nat)×Cs):Cs:=if t.2.r≠[]\/necA p<t.1.2.2 then t.2.fail 5 else t.2
theorem qiq9(y:Cs)(p:Pk)(f:Nat):(if y.e≠0 then y.e else if y.r≠[] then 5 else f)=if (endB p ((0,[],0),y)).e≠0 then(endB p ((0,[],0),y)).e else f:=by unfold endB Cs.fail;by_cases he:y.e=0<;>by_cases hr:y.r=[]<;>simp[he,hr]
theorem qn1g(v kind:Int)(y:Cs):(midB v kind y).1.1=(y.rest v kind).1.1/\(midB v kind y).1.2.1=(y.rest v kind).1.2/\
 ∀i f,(if (y.rest v kind).2.e≠0 then(y.rest v kind).2.e else if (y.rest v kind).2.r≠[] then 5 else f)=
  if (endB (pkB kind i (midB v kind y).1.1 (midB v kind y).1.2.1) (midB v kind y)).e≠0 then(endB (pkB kind i (midB v kind y).1.1 (midB v kind y).1.2.1) (midB v kind y)).e else f:=by
 obtain⟨r,e⟩:=y;unfold midB Cs.rest;by_cases h5:v=5
 ·subst h5;by_cases he:e=0
  ·subst he;rw[if_pos ⟨rfl,rfl⟩];cases r with
   |nil=>rw[if_pos (.inr (.inr rfl))];exact⟨rfl,rfl,fun i f=>qiq9 _ _ _⟩
   |cons b t=>
    rw[if_neg (by simp)];unfold qolc;rw[if_neg (show ¬(Cs.mk (b::t) 0).r=[] by simp)];simp only[Cs.num_one];cases t with
    |nil=>
     rw[if_pos rfl,if_pos rfl];refine⟨rfl,rfl,fun i f=>?_⟩;unfold endB necA pkB qzno Cs.fail;by_cases hz:b.toNat=0
     ·simp[hz]
     ·simp[hz]
    |cons c t=>
     rw[if_neg (by simp),if_neg (by simp),q1h8];obtain⟨L,k,F,hq⟩:∃L k F,qflw kind (c::t)=(L,k,F):=⟨_,_,_,rfl⟩
     have hp:(Cs.mk (c::t) 0).props 5 kind=(L,⟨(c::t).drop k,F⟩):=by simp[Cs.props,hq]
     rw[hp,hq];refine⟨rfl,rfl,fun i f=>?_⟩;by_cases hF:F=0
     ·subst hF;by_cases hd:(c::t).drop k=[]
      ·have hbk:=qugf hq;have htk:(q5aq kind L).1=c::t:=by have h3:=hbk.2.2;rw[List.take_of_length_le (List.drop_eq_nil_iff.1 hd)] at h3;exact h3
       have hb:UInt8.ofNat ((b.toNat:Nat):Int).toNat=b:=by simp
       simp only[hd];unfold endB necA pkB qzno Cs.fail;by_cases hL:L=[]
       ·subst hL;by_cases hz:b.toNat=0
        ·simp[hz]
        ·simp[hz]
       ·have hs:(if (5:Int)=5/\(((b.toNat:Nat):Int)≠0\/L≠[]) then UInt8.ofNat ((b.toNat:Nat):Int).toNat::(if L≠[] then(q5aq kind L).1 else []) else [])=b::c::t:=by rw[if_pos ⟨rfl,.inr hL⟩,if_pos hL,hb,htk]
        rw[hs];simp[hL]
      ·unfold endB Cs.fail;simp[hd]
     ·unfold endB Cs.fail;simp[hF]
  ·rw[if_neg (fun h=>he h.2),if_pos (.inr (.inl he))];exact⟨rfl,rfl,fun i f=>qiq9 _ _ _⟩
 ·rw[if_neg (fun h=>h5 h.1),if_pos (.inl h5)];exact⟨rfl,rfl,fun i f=>qiq9 _ _ _⟩
theorem qye3(v kind:Int)(s:Cs):(qts0 v kind s).1=(qngm v kind s).1:=by obtain⟨h1,h2,_⟩:=qn1g v kind (s.num 2).2;show pkB kind (s.num 2).1 (midB v kind (s.num 2).2).1.1 (midB v kind (s.num 2).2).1.2.1=pkB kind (s.num 2).1 ((s.num 2).2.rest v kind).1.1 ((s.num 2).2.rest v kind).1.2;rw[h1,h2]
theorem q2qi(v kind:Int)(s:Cs)(f:Nat):(qveh (qngm v kind s).2 f).e=if (qts0 v kind s).2.e≠0 then(qts0 v kind s).2.e else f:=by rw[qhjx];exact(qn1g v kind (s.num 2).2).2.2 (s.num 2).1 f
theorem q96o(v kind:Int)(l:List UInt8):q9uf v kind l=if (versC v&&qvya kind)=false then(Pk.zero,2) else
 let x:=qts0 v kind ⟨l,0⟩
 let e:=if x.2.e=0 then qryp v x.1 else x.2.e
 if e≠0 then(Pk.zero,e) else(x.1,0):=by
 unfold q9uf;split
 ·rfl
 ·simp only[q2qi,qye3];by_cases h:(qts0 v kind ⟨l,0⟩).2.e=0<;>simp[h]
theorem qlmc(a b:List UInt8):bs a++bs b=bs (a++b):=by apply ByteArray.ext;simp[bs]
theorem qkrc(l:List UInt8):(bs l).size=l.length:=by simp[bs,ByteArray.size]
end Go.Proofs.YtefmhbioggcfaaaGreatDoor
