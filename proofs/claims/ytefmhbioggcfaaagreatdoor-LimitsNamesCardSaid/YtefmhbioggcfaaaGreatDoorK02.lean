/- Plain facts on variable byte integers: how a reader goes on by each byte, the bytes of a number, and that each undoes the other. No condition. -/
import Derived.Lib.Hide
import Derived.WalkSpells
import Derived.WalkLawsBesides
import Derived.BigQuiet
import Derived.Test.YtefmhbioggcfaaaGreatDoorRows
namespace Go.Proofs.YtefmhbioggcfaaaGreatDoor
def nxt(b:UInt8)(n:Nat):Nat:=if 128<=b.toNat then(if n=4 then 2 else 0) else if b.toNat=0/\1<n then 2 else 1
def grow(v n:Nat)(b:UInt8):Nat:=v+b.toNat%128*128^n
def run(v n:Nat):List UInt8->Nat×Nat×Nat
 |[]=>(v,n,0)
 |b::l=>if nxt b (n+1)=0 then run (grow v n b) (n+1) l else(grow v n b,n+1,nxt b (n+1))
theorem qlf0(b:UInt8)(n:Nat):nxt b n=0\/nxt b n=1\/nxt b n=2:=by unfold nxt;split<;>split<;>simp
theorem qv8z{b:UInt8}{n:Nat}:nxt b n=0↔128<=b.toNat/\n≠4:=by
 unfold nxt;split<;>split<;>simp_all
 all_goals omega
theorem qicf{b:UInt8}{n:Nat}:nxt b n=1↔b.toNat<128/\(0<b.toNat\/n<=1):=by unfold nxt;split<;>split<;>simp_all<;>omega
theorem qt6b{b:UInt8}{n:Nat}:nxt b n=2↔(128<=b.toNat/\n=4)\/(b.toNat=0/\1<n):=by unfold nxt;split<;>split<;>simp_all<;>omega
theorem qpfr{v n:Nat}(b:UInt8)(h:v<128^n):grow v n b<128^(n+1):=by
 unfold grow;have h1:b.toNat%128<=127:=by omega
 have h2:b.toNat%128*128^n<=127*128^n:=Nat.mul_le_mul_right _ h1;rw[Nat.pow_succ];omega
theorem qomx{v n:Nat}{b:UInt8}(l:List UInt8)(h:nxt b (n+1)=0):run v n (b::l)=run (grow v n b) (n+1) l:=by simp[run,h]
theorem q408{v n:Nat}{b:UInt8}(l:List UInt8)(h:nxt b (n+1)≠0):run v n (b::l)=(grow v n b,n+1,nxt b (n+1)):=by simp[run,h]
theorem qh9e:∀(l:List UInt8) (v n:Nat),(run v n l).2.2=0\/(run v n l).2.2=1\/(run v n l).2.2=2:=by
 intro l
 induction l with
 |nil=>intro v n;simp[run]
 |cons a l ih=>
  intro v n;by_cases h0:nxt a (n+1)=0
  ·rw[qomx _ h0];exact ih _ _
  ·rw[q408 _ h0];exact qlf0 _ _
def rdV(l:List UInt8):Nat:=if (run 0 0 l).2.2=1 then(run 0 0 l).1 else 0
def rdN(l:List UInt8):Nat:=if (run 0 0 l).2.2=1 then(run 0 0 l).2.1 else 0
def rdE(l:List UInt8):Nat:=if (run 0 0 l).2.2=0 then 3 else if (run 0 0 l).2.2=1 then 0 else 5
theorem rd_of{l:List UInt8}{v n st:Nat}(h:run 0 0 l=(v,n,st)):rdV l=(if st=1 then v else 0)/\rdN l=(if st=1 then n else 0)/\rdE l=if st=0 then 3 else if st=1 then 0 else 5:=by simp[rdV,rdN,rdE,h]
def sz(n:Int):Nat:=if n<0\/268435455<n then 0 else if n<128 then 1 else if n<16384 then 2 else if n<2097152 then 3 else 4
def byt(n c i:Nat):UInt8:=UInt8.ofNat (n / 128^i%128+if i+1<c then 128 else 0)
def vb(n c:Nat):List UInt8:=(List.range c).map (byt n c)
theorem q8sw(n c:Nat):(vb n c).length=c:=by simp[vb]
theorem qa5k(n c i:Nat):(byt n c i).toNat=n / 128^i%128+if i+1<c then 128 else 0:=by
 unfold byt
 have:n / 128^i%128<128:=Nat.mod_lt _ (by decide)
 simp only[UInt8.toNat_ofNat'];split<;>omega
theorem qnl4(n:Nat)(h:n<=268435455):(sz n=1/\n<128)\/(sz n=2/\128<=n/\n<16384)\/(sz n=3/\16384<=n/\n<2097152)\/(sz n=4/\2097152<=n):=by
 unfold sz;split
 ·omega
 ·split
  ·omega
  ·split
   ·omega
   ·split<;>omega
theorem qbck{n:Int}:sz n=0↔n<0\/268435455<n:=by
 unfold sz;split
 ·simp[*]
 ·split
  ·simp[*]
  ·split
   ·simp[*]
   ·split<;>simp[*]
theorem quzn(n c k:Nat)(hc:c<=4)(hk:k+1<c):nxt (byt n c k) (k+1)=0/\grow (n%128^k) k (byt n c k)=n%128^(k+1):=by have e:=qa5k n c k;rw[if_pos (by omega)] at e;refine⟨qv8z.2 ⟨by omega,by omega⟩,?_⟩;unfold grow;rw[e,Nat.pow_succ,Nat.mod_mul,Nat.add_mod_right,Nat.mod_mod,Nat.mul_comm]
theorem qq79(n k:Nat)(hn:n<=268435455)(hk:k+1=sz n):nxt (byt n (sz n) k) (k+1)=1/\grow (n%128^k) k (byt n (sz n) k)=n:=by
 have hs:=qnl4 n hn;rw[<-hk] at hs ⊢;have hlt:n<128^(k+1):=by rcases hs with ⟨h,_⟩|⟨h,_⟩|⟨h,_⟩|⟨h,_⟩<;>(obtain rfl:=Nat.succ.inj h;simp;omega)
 have hge:k=0\/128^k<=n:=by rcases hs with ⟨h,_⟩|⟨h,_⟩|⟨h,_⟩|⟨h,_⟩<;>(obtain rfl:=Nat.succ.inj h;simp;try omega)
 have e:=qa5k n (k+1) k;rw[if_neg (by omega)] at e;have hd:n / 128^k<128:=by rw[Nat.div_lt_iff_lt_mul (Nat.pow_pos (by decide))];rw[Nat.pow_succ] at hlt;omega
 refine⟨qicf.2 ⟨by omega,?_⟩,?_⟩
 ·rcases hge with h|h
  ·right;omega
  ·left
   have:0<n / 128^k:=Nat.div_pos h (Nat.pow_pos (by decide))
   omega
 ·unfold grow;rw[e]
  have:=Nat.mod_add_div n (128^k)
  rw[Nat.add_zero,Nat.mod_eq_of_lt hd,Nat.mod_eq_of_lt hd,Nat.mul_comm];exact this
theorem q0uc(n c:Nat)(hc:c<=4):∀i,i<c->∀t,run 0 0 ((List.range i).map (byt n c)++t)=run (n%128^i) i t:=by
 intro i
 induction i with
 |zero=>intro _ t;simp[Nat.mod_one]
 |succ i ih=>intro hi t;obtain⟨h0,hg⟩:=quzn n c i hc hi;rw[List.range_succ,List.map_append,List.append_assoc,ih (by omega)];show run _ _ (byt n c i::t)=_;rw[qomx _ h0,hg]
theorem qvwp(n:Nat)(hn:n<=268435455)(t:List UInt8):run 0 0 (vb n (sz n)++t)=(n,sz n,1):=by
 have hs:=qnl4 n hn;obtain⟨c,hc⟩:∃c,sz n=c+1:=⟨sz n-1,by omega⟩
 obtain⟨h1,hg⟩:=qq79 n c hn hc.symm;rw[hc] at h1 hg ⊢;unfold vb;rw[List.range_succ,List.map_append,List.append_assoc,q0uc n (c+1) (by omega) c (by omega)];show run _ _ (byt n (c+1) c::t)=_;rw[q408 _ (by rw[h1];decide),h1,hg]
theorem qvpf(l:List UInt8)(v n:Nat)(h:run 0 0 l=(v,n,1)):v<=268435455/\n=sz v/\n<=l.length/\l.take n=vb v n:=by
 have ofb:∀(a:UInt8) (x c i:Nat),a.toNat=(x / 128^i%128+if i+1<c then 128 else 0)->a=byt x c i:=fun a x c i e=>UInt8.toNat_inj.1 (by rw[qa5k,e]);cases l with
 |nil=>simp[run] at h
 |cons a l=>
  have ha:=a.toNat_lt;by_cases ha0:nxt a (0+1)=0
  ·rw[qomx _ ha0] at h;have ha1:=(qv8z.1 ha0).1;cases l with
   |nil=>simp[run] at h
   |cons b l=>
    have hb:=b.toNat_lt;by_cases hb0:nxt b (0+1+1)=0
    ·rw[qomx _ hb0] at h;have hb1:=(qv8z.1 hb0).1;cases l with
     |nil=>simp[run] at h
     |cons c l=>
      have hc:=c.toNat_lt;by_cases hc0:nxt c (0+1+1+1)=0
      ·rw[qomx _ hc0] at h;have hc1:=(qv8z.1 hc0).1;cases l with
       |nil=>simp[run] at h
       |cons d l=>
        have hd:=d.toNat_lt;by_cases hd0:nxt d (0+1+1+1+1)=0
        ·exact absurd (qv8z.1 hd0).2 (by decide)
        ·rw[q408 _ hd0] at h;simp only[Prod.mk.injEq] at h;obtain⟨hv,rfl,h1⟩:=h;have h2:=qicf.1 h1;have e:v=a.toNat%128+b.toNat%128*128+c.toNat%128*16384+d.toNat*2097152:=by rw[<-hv];simp[grow];omega
         clear hv;refine⟨by omega,by unfold sz;rw[if_neg (by omega),if_neg (by omega),if_neg (by omega),if_neg (by omega)],by simp,?_⟩;simp[vb,List.range_succ];exact⟨ofb _ _ _ _ (by simp;omega),ofb _ _ _ _ (by simp;omega),ofb _ _ _ _ (by simp;omega),ofb _ _ _ _ (by simp;omega)⟩
      ·rw[q408 _ hc0] at h;simp only[Prod.mk.injEq] at h;obtain⟨hv,rfl,h1⟩:=h;have h2:=qicf.1 h1;have e:v=a.toNat%128+b.toNat%128*128+c.toNat*16384:=by rw[<-hv];simp[grow];omega
       clear hv;refine⟨by omega,by unfold sz;rw[if_neg (by omega),if_neg (by omega),if_neg (by omega),if_pos (by omega)],by simp,?_⟩;simp[vb,List.range_succ];exact⟨ofb _ _ _ _ (by simp;omega),ofb _ _ _ _ (by simp;omega),ofb _ _ _ _ (by simp;omega)⟩
    ·rw[q408 _ hb0] at h;simp only[Prod.mk.injEq] at h;obtain⟨hv,rfl,h1⟩:=h;have h2:=qicf.1 h1;have e:v=a.toNat%128+b.toNat*128:=by rw[<-hv];simp[grow];omega
     clear hv;refine⟨by omega,by unfold sz;rw[if_neg (by omega),if_neg (by omega),if_pos (by omega)],by simp,?_⟩;simp[vb,List.range_succ];exact⟨ofb _ _ _ _ (by simp;omega),ofb _ _ _ _ (by simp;omega)⟩
  ·rw[q408 _ ha0] at h;simp only[Prod.mk.injEq] at h;obtain⟨hv,rfl,h1⟩:=h;have h2:=qicf.1 h1;have e:v=a.toNat:=by rw[<-hv];simp[grow];omega
   clear hv;refine⟨by omega,by unfold sz;rw[if_neg (by omega),if_pos (by omega)],by simp,?_⟩;simp[vb,List.range_succ];exact ofb _ _ _ _ (by simp;omega)
structure Hd where
 kind:Int
 flags:Int
 length:Int
deriving DecidableEq
def verH(v:Int):Bool:=v==4 || v==5
def qbe2(v k:Int):Bool:=decide (1<=k)&&(decide (k<15) || (k==15&&v==5))
def qg3k(k f:Int):Bool:=
 if k=3 then decide (0<=f/\f<=15/\f / 2%4<3/\(f<8\/0<f / 2%4)) else if k=6\/k=8\/k=10 then f==2 else f==0
def q9d8(v:Int)(h:Hd):Nat:=
 if verH v=false then 2 else if qbe2 v h.kind=false then 8 else if qg3k h.kind h.flags=false then 7 else if h.length<0\/268435455<h.length then 2 else 0
def qytq(h:Hd):UInt8:=UInt8.ofNat (16*h.kind+h.flags).toNat
def rawH(h:Hd):List UInt8:=qytq h::vb h.length.toNat (sz h.length)
def qnxm(v:Int)(h:Hd):List UInt8:=if q9d8 v h=0 then rawH h else []
def noH:Hd:=⟨0,0,0⟩
def q1f7(b:UInt8):Hd:=⟨(b.toNat / 16:Nat),(b.toNat%16:Nat),0⟩
def qday(v:Int):List UInt8->Hd×Nat×Nat
 |[]=>if verH v=false then(noH,0,2) else(noH,0,3)
 |b::r=>
  if q9d8 v (q1f7 b)≠0 then(noH,0,q9d8 v (q1f7 b)) else
  if rdE r≠0 then(noH,0,rdE r) else
  (⟨(b.toNat / 16:Nat),(b.toNat%16:Nat),(rdV r:Nat)⟩,1+rdN r,0)
theorem qwts(v:Int):qday v []=if verH v=false then(noH,0,2) else(noH,0,3):=rfl
theorem qr52(v:Int)(b:UInt8)(r:List UInt8):qday v (b::r)=if q9d8 v (q1f7 b)≠0 then(noH,0,q9d8 v (q1f7 b)) else
 if rdE r≠0 then(noH,0,rdE r) else(⟨(b.toNat / 16:Nat),(b.toNat%16:Nat),(rdV r:Nat)⟩,1+rdN r,0):=rfl
theorem q39c{v k:Int}(h:qbe2 v k=true):1<=k/\k<=15:=by unfold qbe2 at h;simp only[Bool.and_eq_true,Bool.or_eq_true,decide_eq_true_eq,beq_iff_eq] at h;omega
theorem qo5i{k f:Int}(h:qg3k k f=true):0<=f/\f<=15:=by
 unfold qg3k at h;split at h
 ·rw[decide_eq_true_eq] at h;omega
 ·split at h<;>(rw[beq_iff_eq] at h;omega)
theorem qri3{v:Int}{h:Hd}:q9d8 v h=0↔verH v=true/\qbe2 v h.kind=true/\qg3k h.kind h.flags=true/\0<=h.length/\h.length<=268435455:=by
 unfold q9d8;cases h1:verH v
 ·simp
 cases h2:qbe2 v h.kind
 ·simp
 cases h3:qg3k h.kind h.flags
 ·simp
 by_cases h4:h.length<0\/268435455<h.length
 ·simp only[Bool.true_eq_false,if_false,if_pos h4];constructor
  ·intro h;cases h
  ·intro h;omega
 ·simp only[Bool.true_eq_false,if_false,if_neg h4];constructor
  ·intro _;exact⟨trivial,trivial,trivial,by omega,by omega⟩
  ·intro _;trivial
theorem q8x8{v k f l:Int}(h:q9d8 v ⟨k,f,l⟩=0):q9d8 v ⟨k,f,0⟩=0:=by rw[qri3] at h ⊢;exact⟨h.1,h.2.1,h.2.2.1,Int.le_refl _,(by decide:(0:Int)<=268435455)⟩
theorem q4c1{v:Int}{h:Hd}(hc:q9d8 v h=0):((qytq h).toNat:Int)=16*h.kind+h.flags:=by
 rw[qri3] at hc;have h1:=q39c hc.2.1;have h2:=qo5i hc.2.2.1;unfold qytq
 have:(UInt8.ofNat (16*h.kind+h.flags).toNat).toNat=(16*h.kind+h.flags).toNat%256:=by simp
 rw[this];omega
theorem qjwf{v:Int}{h:Hd}(hc:q9d8 v h=0):(((qytq h).toNat / 16:Nat):Int)=h.kind/\(((qytq h).toNat%16:Nat):Int)=h.flags:=by have h0:=q4c1 hc;rw[qri3] at hc;have h1:=q39c hc.2.1;have h2:=qo5i hc.2.2.1;omega
theorem qpsc{v:Int}{h:Hd}(hc:q9d8 v h=0):q1f7 (qytq h)=⟨h.kind,h.flags,0⟩:=by unfold q1f7;rw[(qjwf hc).1,(qjwf hc).2]
theorem qzlb{v:Int}{h:Hd}(hc:q9d8 v h=0)(t:List UInt8):qday v (rawH h++t)=(h,(rawH h).length,0):=by
 have hz:=qri3.1 hc;obtain⟨n,hn⟩:∃n:Nat,h.length=(n:Int):=⟨h.length.toNat,by omega⟩
 have hr:=qvwp n (by omega) t;have h1:=rd_of hr;simp only[if_true] at h1;have e1:rawH h++t=qytq h::(vb n (sz n)++t):=by unfold rawH;rw[hn];simp
 rw[e1,qr52,qpsc hc];have hlow:q9d8 v ⟨h.kind,h.flags,0⟩=0:=q8x8 (l:=h.length) hc;rw[if_neg (by rw[hlow];simp),h1.1,h1.2.1,h1.2.2,if_neg (by simp),(qjwf hc).1,(qjwf hc).2];have e2:(rawH h).length=1+sz n:=by unfold rawH;rw[hn,List.length_cons,q8sw];omega
 rw[e2,<-hn]
theorem ql6q{v:Int}{b:UInt8}{l:Int}(h:q9d8 v (q1f7 b)=0)(h0:0<=l)(h1:l<=268435455):q9d8 v ⟨(b.toNat / 16:Nat),(b.toNat%16:Nat),l⟩=0:=by rw[qri3] at h ⊢;exact⟨h.1,h.2.1,h.2.2.1,h0,h1⟩
theorem qdej(b:UInt8)(l:Int):qytq ⟨(b.toNat / 16:Nat),(b.toNat%16:Nat),l⟩=b:=by
 unfold qytq;have hb:=b.toNat_lt
 have:(16*((b.toNat / 16:Nat):Int)+((b.toNat%16:Nat):Int)).toNat=b.toNat:=by omega
 show UInt8.ofNat (16*((b.toNat / 16:Nat):Int)+((b.toNat%16:Nat):Int)).toNat=b;rw[this];simp
theorem qu5k{v:Int}{l:List UInt8}(h:(qday v l).2.2=0):q9d8 v (qday v l).1=0/\(qday v l).2.1<=l.length/\rawH (qday v l).1=l.take (qday v l).2.1:=by
 cases l with
 |nil=>rw[qwts] at h;split at h<;>simp at h
 |cons b r=>
  rw[qr52] at h ⊢;by_cases h1:q9d8 v (q1f7 b)≠0
  ·rw[if_pos h1] at h;exact absurd h h1
  rw[if_neg h1] at h ⊢;by_cases h2:rdE r≠0
  ·rw[if_pos h2] at h;exact absurd h h2
  rw[if_neg h2];have h1':q9d8 v (q1f7 b)=0:=Classical.byContradiction h1;have h2':rdE r=0:=Classical.byContradiction h2;have hst:(run 0 0 r).2.2=1:=by
   unfold rdE at h2';split at h2'
   ·cases h2'
   ·split at h2'
    ·assumption
    ·cases h2'
  have hv:rdV r=(run 0 0 r).1:=by unfold rdV;rw[if_pos hst]
  have hn:rdN r=(run 0 0 r).2.1:=by unfold rdN;rw[if_pos hst]
  obtain⟨b1,b2,b3,b4⟩:=qvpf r (run 0 0 r).1 (run 0 0 r).2.1 (by rw[<-hst]);rw[hv,hn];refine⟨ql6q h1' (by omega) (by omega),by simp only[List.length_cons];omega,?_⟩;simp only[rawH,qdej];rw[Int.toNat_natCast,<-b2,<-b4,Nat.add_comm 1,List.take_succ_cons]
def q0xk(dup:Bool)(qos:Int):Bool:=decide (0<=qos)&&decide (qos<=2)&&!(dup&&qos==0)
def qgl0(dup retain:Bool)(qos:Int):Int:=2*qos+(if dup then 8 else 0)+if retain then 1 else 0
def qjyu(v k:Int)(dup retain:Bool)(qos:Int):Int×Nat:=
 if verH v=false then(0,2) else if qbe2 v k=false then(0,8) else
 if k=6\/k=8\/k=10 then(2,0) else if k=3 then(if q0xk dup qos then(qgl0 dup retain qos,0) else(0,7)) else(0,0)
theorem qhp2{v k:Int}{dup retain:Bool}{qos:Int}(h:(qjyu v k dup retain qos).2=0):verH v=true/\qbe2 v k=true/\qg3k k (qjyu v k dup retain qos).1=true:=by
 unfold qjyu at h ⊢;cases h1:verH v
 ·rw[h1] at h;simp at h
 cases h2:qbe2 v k
 ·rw[h1,h2] at h;simp at h
 rw[h1,h2] at h;simp only[Bool.true_eq_false,if_false] at h ⊢;refine⟨trivial,trivial,?_⟩;by_cases h3:k=6\/k=8\/k=10
 ·rw[if_pos h3];unfold qg3k;rw[if_neg (by omega),if_pos h3];rfl
 rw[if_neg h3] at h ⊢;by_cases h4:k=3
 ·rw[if_pos h4] at h ⊢;cases h5:q0xk dup qos
  ·rw[h5] at h;simp at h
  unfold qg3k;rw[if_pos h4,if_pos rfl,decide_eq_true_eq];unfold q0xk at h5;simp only[Bool.and_eq_true,decide_eq_true_eq,Bool.not_eq_true'] at h5;obtain⟨⟨q0,q2⟩,h6⟩:=h5;unfold qgl0;cases dup<;>cases retain<;>simp at h6 ⊢<;>omega
 ·rw[if_neg h4];unfold qg3k;rw[if_neg h4,if_neg h3];rfl
theorem q25l{v k f:Int}{dup retain:Bool}{qos:Int}(h:(qjyu v k dup retain qos).2=0)(hk:k≠3):qg3k k f=(f==(qjyu v k dup retain qos).1):=by
 have hf:=qhp2 h;unfold qjyu at h ⊢;rw[hf.1,hf.2.1] at h ⊢;simp only[Bool.true_eq_false,if_false] at h ⊢;unfold qg3k;rw[if_neg hk];by_cases h3:k=6\/k=8\/k=10
 ·rw[if_pos h3,if_pos h3]
 ·rw[if_neg h3,if_neg h3,if_neg hk]
end Go.Proofs.YtefmhbioggcfaaaGreatDoor
namespace Go.Proofs.YtefmhbioggcfaaaGreatDoor
open Go.RowKit
def u8v(b:UInt8):Value := .int .u8 b.toNat
def bs(l:List UInt8):ByteArray:=⟨l.toArray⟩
theorem qrze(s:ByteArray):s.toList=s.data.toList:=ByteArray.toList_eq s
theorem q0c6(l:List UInt8):(bs l).toList=l:=by rw[qrze];rfl
theorem qphn(s:ByteArray)(k:Nat)(h:k<s.size):s.data.toList.take (k+1)=s.data.toList.take k++[s[k]]:=by rw[List.take_succ_eq_append_getElem (by simpa using h)];rfl
theorem qlvy{w:World}{b:Nat}{cs:Array Value}{t:TypeId}(h:w.heap[b]?=some (.cells cs t (0,0)))(j:Nat)(u:Value) :
 (w.setCell ⟨b,j,none⟩ u).heap[b]?=some (.cells (cs.setIfInBounds j u) t (0,0)):=by
 simp[World.setCell,Array.getElem?_modify,h]
theorem q99v(w:World)(b j:Nat)(u:Value):w.grownBy (w.setCell ⟨b,j,none⟩ u) (some b):=
 ⟨rfl,rfl,rfl,by simp[World.setCell],fun k _ hne=>Below.heap_setCell w ⟨b,j,none⟩ u k (fun e=>hne (by rw[e]))⟩
theorem qgju{w w':World}{n:Nat}{r:Option Nat}(h:(w.drewN n).grownBy w' r):w.grownBy w' r:=⟨h.os,h.tape,h.output,h.size,h.block⟩
theorem qo6d{a b c:World}{r:Option Nat}(h:a.grownBy b r)(k:b.grownBy c r):a.grownBy c r:=
 ⟨k.os.trans h.os,k.tape.trans h.tape,k.output.trans h.output,Nat.le_trans h.size k.size,fun i hi hne=>(k.block i (Nat.lt_of_lt_of_le hi h.size) hne).trans (h.block i hi hne)⟩
theorem qnpu{B:Nat}{a b:World}(h:Below B a b)(n:Nat):Below B a (b.drewN n):=⟨h.os,h.tape,h.output,h.size,h.block⟩
section
variable{w W W':World}{g:FuncId}{args:Array Value}{v v':Value}
end
end Go.Proofs.YtefmhbioggcfaaaGreatDoor
