/- Plain facts on variable byte integers: how a reader goes on by each byte, the bytes of a number, and that each undoes the other. No condition. -/
import Derived.Test.YtombgnfedafkjaaGreatDoorK04
namespace Go.Proofs.YtombgnfedafkjaaGreatDoor
def nxt(b:UInt8)(n:Nat):Nat:=if 128<=b.toNat then(if n=4 then 2 else 0) else if b.toNat=0/\1<n then 2 else 1
def grow(v n:Nat)(b:UInt8):Nat:=v+b.toNat%128*128^n
def run(v n:Nat):List UInt8->Nat×Nat×Nat
 |[]=>(v,n,0)
 |b::l=>if nxt b (n+1)=0 then run (grow v n b) (n+1) l else(grow v n b,n+1,nxt b (n+1))
theorem qlf0(b:UInt8)(n:Nat):nxt b n=0\/nxt b n=1\/nxt b n=2:=by unfold nxt;split<;>split<;>simp
theorem qv8z{b:UInt8}{n:Nat}:nxt b n=0↔128<=b.toNat/\n≠4:=by
 unfold nxt;split<;>split<;>simp_all
 all_goals omega
theorem qicf{b:UInt8}{n:Nat}:nxt b n=1↔b.toNat<128/\(0<b.toNat\/n<=1):=by unfold nxt;split<;>split<;>simp_all<;>omega
theorem qt6b{b:UInt8}{n:Nat}:nxt b n=2↔(128<=b.toNat/\n=4)\/(b.toNat=0/\1<n):=by unfold nxt;split<;>split<;>simp_all<;>omega
theorem qpfr{v n:Nat}(b:UInt8)(h:v<128^n):grow v n b<128^(n+1):=by
 unfold grow;have h1:b.toNat%128<=127:=by omega
 have h2:b.toNat%128*128^n<=127*128^n:=Nat.mul_le_mul_right _ h1;rw[Nat.pow_succ];omega
theorem qomx{v n:Nat}{b:UInt8}(l:List UInt8)(h:nxt b (n+1)=0):run v n (b::l)=run (grow v n b) (n+1) l:=by simp[run,h]
theorem q408{v n:Nat}{b:UInt8}(l:List UInt8)(h:nxt b (n+1)≠0):run v n (b::l)=(grow v n b,n+1,nxt b (n+1)):=by simp[run,h]
theorem qh9e:∀(l:List UInt8) (v n:Nat),(run v n l).2.2=0\/(run v n l).2.2=1\/(run v n l).2.2=2:=by
 intro l
 induction l with
 |nil=>intro v n;simp[run]
 |cons a l ih=>
  intro v n;by_cases h0:nxt a (n+1)=0
  ·rw[qomx _ h0];exact ih _ _
  ·rw[q408 _ h0];exact qlf0 _ _
def rdV(l:List UInt8):Nat:=if (run 0 0 l).2.2=1 then(run 0 0 l).1 else 0
def rdN(l:List UInt8):Nat:=if (run 0 0 l).2.2=1 then(run 0 0 l).2.1 else 0
def rdE(l:List UInt8):Nat:=if (run 0 0 l).2.2=0 then 3 else if (run 0 0 l).2.2=1 then 0 else 5
theorem rd_of{l:List UInt8}{v n st:Nat}(h:run 0 0 l=(v,n,st)):rdV l=(if st=1 then v else 0)/\rdN l=(if st=1 then n else 0)/\rdE l=if st=0 then 3 else if st=1 then 0 else 5:=by simp[rdV,rdN,rdE,h]
def sz(n:Int):Nat:=if n<0\/268435455<n then 0 else if n<128 then 1 else if n<16384 then 2 else if n<2097152 then 3 else 4
def byt(n c i:Nat):UInt8:=UInt8.ofNat (n / 128^i%128+if i+1<c then 128 else 0)
def vb(n c:Nat):List UInt8:=(List.range c).map (byt n c)
theorem q8sw(n c:Nat):(vb n c).length=c:=by simp[vb]
theorem qa5k(n c i:Nat):(byt n c i).toNat=n / 128^i%128+if i+1<c then 128 else 0:=by
 unfold byt
 have:n / 128^i%128<128:=Nat.mod_lt _ (by decide)
 simp only[UInt8.toNat_ofNat'];split<;>omega
theorem qnl4(n:Nat)(h:n<=268435455):(sz n=1/\n<128)\/(sz n=2/\128<=n/\n<16384)\/(sz n=3/\16384<=n/\n<2097152)\/(sz n=4/\2097152<=n):=by
 unfold sz;split
 ·omega
 ·split
  ·omega
  ·split
   ·omega
   ·split<;>omega
theorem qbck{n:Int}:sz n=0↔n<0\/268435455<n:=by
 unfold sz;split
 ·simp[*]
 ·split
  ·simp[*]
  ·split
   ·simp[*]
   ·split<;>simp[*]
theorem quzn(n c k:Nat)(hc:c<=4)(hk:k+1<c):nxt (byt n c k) (k+1)=0/\grow (n%128^k) k (byt n c k)=n%128^(k+1):=by have e:=qa5k n c k;rw[if_pos (by omega)] at e;refine⟨qv8z.2 ⟨by omega,by omega⟩,?_⟩;unfold grow;rw[e,Nat.pow_succ,Nat.mod_mul,Nat.add_mod_right,Nat.mod_mod,Nat.mul_comm]
theorem qq79(n k:Nat)(hn:n<=268435455)(hk:k+1=sz n):nxt (byt n (sz n) k) (k+1)=1/\grow (n%128^k) k (byt n (sz n) k)=n:=by
 have hs:=qnl4 n hn;rw[<-hk] at hs ⊢;have hlt:n<128^(k+1):=by rcases hs with ⟨h,_⟩|⟨h,_⟩|⟨h,_⟩|⟨h,_⟩<;>(obtain rfl:=Nat.succ.inj h;simp;omega)
 have hge:k=0\/128^k<=n:=by rcases hs with ⟨h,_⟩|⟨h,_⟩|⟨h,_⟩|⟨h,_⟩<;>(obtain rfl:=Nat.succ.inj h;simp;try omega)
 have e:=qa5k n (k+1) k;rw[if_neg (by omega)] at e;have hd:n / 128^k<128:=by rw[Nat.div_lt_iff_lt_mul (Nat.pow_pos (by decide))];rw[Nat.pow_succ] at hlt;omega
 refine⟨qicf.2 ⟨by omega,?_⟩,?_⟩
 ·rcases hge with h|h
  ·right;omega
  ·left
   have:0<n / 128^k:=Nat.div_pos h (Nat.pow_pos (by decide))
   omega
 ·unfold grow;rw[e]
  have:=Nat.mod_add_div n (128^k)
  rw[Nat.add_zero,Nat.mod_eq_of_lt hd,Nat.mod_eq_of_lt hd,Nat.mul_comm];exact this
theorem q0uc(n c:Nat)(hc:c<=4):∀i,i<c->∀t,run 0 0 ((List.range i).map (byt n c)++t)=run (n%128^i) i t:=by
 intro i
 induction i with
 |zero=>intro _ t;simp[Nat.mod_one]
 |succ i ih=>intro hi t;obtain⟨h0,hg⟩:=quzn n c i hc hi;rw[List.range_succ,List.map_append,List.append_assoc,ih (by omega)];show run _ _ (byt n c i::t)=_;rw[qomx _ h0,hg]
theorem qvwp(n:Nat)(hn:n<=268435455)(t:List UInt8):run 0 0 (vb n (sz n)++t)=(n,sz n,1):=by
 have hs:=qnl4 n hn;obtain⟨c,hc⟩:∃c,sz n=c+1:=⟨sz n-1,by omega⟩
 obtain⟨h1,hg⟩:=qq79 n c hn hc.symm;rw[hc] at h1 hg ⊢;unfold vb;rw[List.range_succ,List.map_append,List.append_assoc,q0uc n (c+1) (by omega) c (by omega)];show run _ _ (byt n (c+1) c::t)=_;rw[q408 _ (by rw[h1];decide),h1,hg]
theorem qvpf(l:List UInt8)(v n:Nat)(h:run 0 0 l=(v,n,1)):v<=268435455/\n=sz v/\n<=l.length/\l.take n=vb v n:=by
 have ofb:∀(a:UInt8) (x c i:Nat),a.toNat=(x / 128^i%128+if i+1<c then 128 else 0)->a=byt x c i:=fun a x c i e=>UInt8.toNat_inj.1 (by rw[qa5k,e]);cases l with
 |nil=>simp[run] at h
 |cons a l=>
  have ha:=a.toNat_lt;by_cases ha0:nxt a (0+1)=0
  ·rw[qomx _ ha0] at h;have ha1:=(qv8z.1 ha0).1;cases l with
   |nil=>simp[run] at h
   |cons b l=>
    have hb:=b.toNat_lt;by_cases hb0:nxt b (0+1+1)=0
    ·rw[qomx _ hb0] at h;have hb1:=(qv8z.1 hb0).1;cases l with
     |nil=>simp[run] at h
     |cons c l=>
      have hc:=c.toNat_lt;by_cases hc0:nxt c (0+1+1+1)=0
      ·rw[qomx _ hc0] at h;have hc1:=(qv8z.1 hc0).1;cases l with
       |nil=>simp[run] at h
       |cons d l=>
        have hd:=d.toNat_lt;by_cases hd0:nxt d (0+1+1+1+1)=0
        ·exact absurd (qv8z.1 hd0).2 (by decide)
        ·rw[q408 _ hd0] at h;simp only[Prod.mk.injEq] at h;obtain⟨hv,rfl,h1⟩:=h;have h2:=qicf.1 h1;have e:v=a.toNat%128+b.toNat%128*128+c.toNat%128*16384+d.toNat*2097152:=by rw[<-hv];simp[grow];omega
         clear hv;refine⟨by omega,by unfold sz;rw[if_neg (by omega),if_neg (by omega),if_neg (by omega),if_neg (by omega)],by simp,?_⟩;simp[vb,List.range_succ];exact⟨ofb _ _ _ _ (by simp;omega),ofb _ _ _ _ (by simp;omega),ofb _ _ _ _ (by simp;omega),ofb _ _ _ _ (by simp;omega)⟩
      ·rw[q408 _ hc0] at h;simp only[Prod.mk.injEq] at h;obtain⟨hv,rfl,h1⟩:=h;have h2:=qicf.1 h1;have e:v=a.toNat%128+b.toNat%128*128+c.toNat*16384:=by rw[<-hv];simp[grow];omega
       clear hv;refine⟨by omega,by unfold sz;rw[if_neg (by omega),if_neg (by omega),if_neg (by omega),if_pos (by omega)],by simp,?_⟩;simp[vb,List.range_succ];exact⟨ofb _ _ _ _ (by simp;omega),ofb _ _ _ _ (by simp;omega),ofb _ _ _ _ (by simp;omega)⟩
    ·rw[q408 _ hb0] at h;simp only[Prod.mk.injEq] at h;obtain⟨hv,rfl,h1⟩:=h;have h2:=qicf.1 h1;have e:v=a.toNat%128+b.toNat*128:=by rw[<-hv];simp[grow];omega
     clear hv;refine⟨by omega,by unfold sz;rw[if_neg (by omega),if_neg (by omega),if_pos (by omega)],by simp,?_⟩;simp[vb,List.range_succ];exact⟨ofb _ _ _ _ (by simp;omega),ofb _ _ _ _ (by simp;omega)⟩
  ·rw[q408 _ ha0] at h;simp only[Prod.mk.injEq] at h;obtain⟨hv,rfl,h1⟩:=h;have h2:=qicf.1 h1;have e:v=a.toNat:=by rw[<-hv];simp[grow];omega
   clear hv;refine⟨by omega,by unfold sz;rw[if_neg (by omega),if_pos (by omega)],by simp,?_⟩;simp[vb,List.range_succ];exact ofb _ _ _ _ (by simp;omega)
structure Hd where
 kind:Int
 flags:Int
 length:Int
deriving DecidableEq
def verH(v:Int):Bool:=v==4 || v==5
def qbe2(v k:Int):Bool:=decide (1<=k)&&(decide (k<15) || (k==15&&v==5))
def qg3k(k f:Int):Bool:=
 if k=3 then decide (0<=f/\f<=15/\f / 2%4<3/\(f<8\/0<f / 2%4)) else if k=6\/k=8\/k=10 then f==2 else f==0
def q9d8(v:Int)(h:Hd):Nat:=
 if verH v=false then 2 else if qbe2 v h.kind=false then 8 else if qg3k h.kind h.flags=false then 7 else if h.length<0\/268435455<h.length then 2 else 0
def qytq(h:Hd):UInt8:=UInt8.ofNat (16*h.kind+h.flags).toNat
def rawH(h:Hd):List UInt8:=qytq h::vb h.length.toNat (sz h.length)
def qnxm(v:Int)(h:Hd):List UInt8:=if q9d8 v h=0 then rawH h else []
def noH:Hd:=⟨0,0,0⟩
def q1f7(b:UInt8):Hd:=⟨(b.toNat / 16:Nat),(b.toNat%16:Nat),0⟩
def qday(v:Int):List UInt8->Hd×Nat×Nat
 |[]=>if verH v=false then(noH,0,2) else(noH,0,3)
 |b::r=>
  if q9d8 v (q1f7 b)≠0 then(noH,0,q9d8 v (q1f7 b)) else
  if rdE r≠0 then(noH,0,rdE r) else
  (⟨(b.toNat / 16:Nat),(b.toNat%16:Nat),(rdV r:Nat)⟩,1+rdN r,0)
theorem qwts(v:Int):qday v []=if verH v=false then(noH,0,2) else(noH,0,3):=rfl
theorem qr52(v:Int)(b:UInt8)(r:List UInt8):qday v (b::r)=if q9d8 v (q1f7 b)≠0 then(noH,0,q9d8 v (q1f7 b)) else
 if rdE r≠0 then(noH,0,rdE r) else(⟨(b.toNat / 16:Nat),(b.toNat%16:Nat),(rdV r:Nat)⟩,1+rdN r,0):=rfl
theorem q39c{v k:Int}(h:qbe2 v k=true):1<=k/\k<=15:=by unfold qbe2 at h;simp only[Bool.and_eq_true,Bool.or_eq_true,decide_eq_true_eq,beq_iff_eq] at h;omega
theorem qo5i{k f:Int}(h:qg3k k f=true):0<=f/\f<=15:=by
 unfold qg3k at h;split at h
 ·rw[decide_eq_true_eq] at h;omega
 ·split at h<;>(rw[beq_iff_eq] at h;omega)
theorem qri3{v:Int}{h:Hd}:q9d8 v h=0↔verH v=true/\qbe2 v h.kind=true/\qg3k h.kind h.flags=true/\0<=h.length/\h.length<=268435455:=by
 unfold q9d8;cases h1:verH v
 ·simp
 cases h2:qbe2 v h.kind
 ·simp
 cases h3:qg3k h.kind h.flags
 ·simp
 by_cases h4:h.length<0\/268435455<h.length
 ·simp only[Bool.true_eq_false,if_false,if_pos h4];constructor
  ·intro h;cases h
  ·intro h;omega
 ·simp only[Bool.true_eq_false,if_false,if_neg h4];constructor
  ·intro _;exact⟨trivial,trivial,trivial,by omega,by omega⟩
  ·intro _;trivial
theorem q8x8{v k f l:Int}(h:q9d8 v ⟨k,f,l⟩=0):q9d8 v ⟨k,f,0⟩=0:=by rw[qri3] at h ⊢;exact⟨h.1,h.2.1,h.2.2.1,Int.le_refl _,(by decide:(0:Int)<=268435455)⟩
theorem q4c1{v:Int}{h:Hd}(hc:q9d8 v h=0):((qytq h).toNat:Int)=16*h.kind+h.flags:=by
 rw[qri3] at hc;have h1:=q39c hc.2.1;have h2:=qo5i hc.2.2.1;unfold qytq
 have:(UInt8.ofNat (16*h.kind+h.flags).toNat).toNat=(16*h.kind+h.flags).toNat%256:=by simp
 rw[this];omega
theorem qjwf{v:Int}{h:Hd}(hc:q9d8 v h=0):(((qytq h).toNat / 16:Nat):Int)=h.kind/\(((qytq h).toNat%16:Nat):Int)=h.flags:=by have h0:=q4c1 hc;rw[qri3] at hc;have h1:=q39c hc.2.1;have h2:=qo5i hc.2.2.1;omega
theorem qpsc{v:Int}{h:Hd}(hc:q9d8 v h=0):q1f7 (qytq h)=⟨h.kind,h.flags,0⟩:=by unfold q1f7;rw[(qjwf hc).1,(qjwf hc).2]
theorem qzlb{v:Int}{h:Hd}(hc:q9d8 v h=0)(t:List UInt8):qday v (rawH h++t)=(h,(rawH h).length,0):=by
 have hz:=qri3.1 hc;obtain⟨n,hn⟩:∃n:Nat,h.length=(n:Int):=⟨h.length.toNat,by omega⟩
 have hr:=qvwp n (by omega) t;have h1:=rd_of hr;simp only[if_true] at h1;have e1:rawH h++t=qytq h::(vb n (sz n)++t):=by unfold rawH;rw[hn];simp
 rw[e1,qr52,qpsc hc];have hlow:q9d8 v ⟨h.kind,h.flags,0⟩=0:=q8x8 (l:=h.length) hc;rw[if_neg (by rw[hlow];simp),h1.1,h1.2.1,h1.2.2,if_neg (by simp),(qjwf hc).1,(qjwf hc).2];have e2:(rawH h).length=1+sz n:=by unfold rawH;rw[hn,List.length_cons,q8sw];omega
 rw[e2,<-hn]
theorem ql6q{v:Int}{b:UInt8}{l:Int}(h:q9d8 v (q1f7 b)=0)(h0:0<=l)(h1:l<=268435455):q9d8 v ⟨(b.toNat / 16:Nat),(b.toNat%16:Nat),l⟩=0:=by rw[qri3] at h ⊢;exact⟨h.1,h.2.1,h.2.2.1,h0,h1⟩
theorem qdej(b:UInt8)(l:Int):qytq ⟨(b.toNat / 16:Nat),(b.toNat%16:Nat),l⟩=b:=by
 unfold qytq;have hb:=b.toNat_lt
 have:(16*((b.toNat / 16:Nat):Int)+((b.toNat%16:Nat):Int)).toNat=b.toNat:=by omega
 show UInt8.ofNat (16*((b.toNat / 16:Nat):Int)+((b.toNat%16:Nat):Int)).toNat=b;rw[this];simp
theorem qu5k{v:Int}{l:List UInt8}(h:(qday v l).2.2=0):q9d8 v (qday v l).1=0/\(qday v l).2.1<=l.length/\rawH (qday v l).1=l.take (qday v l).2.1:=by
 cases l with
 |nil=>rw[qwts] at h;split at h<;>simp at h
 |cons b r=>
  rw[qr52] at h ⊢;by_cases h1:q9d8 v (q1f7 b)≠0
  ·rw[if_pos h1] at h;exact absurd h h1
  rw[if_neg h1] at h ⊢;by_cases h2:rdE r≠0
  ·rw[if_pos h2] at h;exact absurd h h2
  rw[if_neg h2];have h1':q9d8 v (q1f7 b)=0:=Classical.byContradiction h1;have h2':rdE r=0:=Classical.byContradiction h2;have hst:(run 0 0 r).2.2=1:=by
   unfold rdE at h2';split at h2'
   ·cases h2'
   ·split at h2'
    ·assumption
    ·cases h2'
  have hv:rdV r=(run 0 0 r).1:=by unfold rdV;rw[if_pos hst]
  have hn:rdN r=(run 0 0 r).2.1:=by unfold rdN;rw[if_pos hst]
  obtain⟨b1,b2,b3,b4⟩:=qvpf r (run 0 0 r).1 (run 0 0 r).2.1 (by rw[<-hst]);rw[hv,hn];refine⟨ql6q h1' (by omega) (by omega),by simp only[List.length_cons];omega,?_⟩;simp only[rawH,qdej];rw[Int.toNat_natCast,<-b2,<-b4,Nat.add_comm 1,List.take_succ_cons]
def q0xk(dup:Bool)(qos:Int):Bool:=decide (0<=qos)&&decide (qos<=2)&&!(dup&&qos==0)
def qgl0(dup retain:Bool)(qos:Int):Int:=2*qos+(if dup then 8 else 0)+if retain then 1 else 0
def qjyu(v k:Int)(dup retain:Bool)(qos:Int):Int×Nat:=
 if verH v=false then(0,2) else if qbe2 v k=false then(0,8) else
 if k=6\/k=8\/k=10 then(2,0) else if k=3 then(if q0xk dup qos then(qgl0 dup retain qos,0) else(0,7)) else(0,0)
theorem qhp2{v k:Int}{dup retain:Bool}{qos:Int}(h:(qjyu v k dup retain qos).2=0):verH v=true/\qbe2 v k=true/\qg3k k (qjyu v k dup retain qos).1=true:=by
 unfold qjyu at h ⊢;cases h1:verH v
 ·rw[h1] at h;simp at h
 cases h2:qbe2 v k
 ·rw[h1,h2] at h;simp at h
 rw[h1,h2] at h;simp only[Bool.true_eq_false,if_false] at h ⊢;refine⟨trivial,trivial,?_⟩;by_cases h3:k=6\/k=8\/k=10
 ·rw[if_pos h3];unfold qg3k;rw[if_neg (by omega),if_pos h3];rfl
 rw[if_neg h3] at h ⊢;by_cases h4:k=3
 ·rw[if_pos h4] at h ⊢;cases h5:q0xk dup qos
  ·rw[h5] at h;simp at h
  unfold qg3k;rw[if_pos h4,if_pos rfl,decide_eq_true_eq];unfold q0xk at h5;simp only[Bool.and_eq_true,decide_eq_true_eq,Bool.not_eq_true'] at h5;obtain⟨⟨q0,q2⟩,h6⟩:=h5;unfold qgl0;cases dup<;>cases retain<;>simp at h6 ⊢<;>omega
 ·rw[if_neg h4];unfold qg3k;rw[if_neg h4,if_neg h3];rfl
theorem q25l{v k f:Int}{dup retain:Bool}{qos:Int}(h:(qjyu v k dup retain qos).2=0)(hk:k≠3):qg3k k f=(f==(qjyu v k dup retain qos).1):=by
 have hf:=qhp2 h;unfold qjyu at h ⊢;rw[hf.1,hf.2.1] at h ⊢;simp only[Bool.true_eq_false,if_false] at h ⊢;unfold qg3k;rw[if_neg hk];by_cases h3:k=6\/k=8\/k=10
 ·rw[if_pos h3,if_pos h3]
 ·rw[if_neg h3,if_neg h3,if_neg hk]
def okc(c:Nat):Prop:=0<c/\(c<55296\/(57344<=c/\c<=1114111))
def cb(c:Nat):List UInt8:=
 if c<128 then [UInt8.ofNat c]
 else if c<2048 then [UInt8.ofNat (192+c / 64),UInt8.ofNat (128+c%64)]
 else if c<65536 then [UInt8.ofNat (224+c / 4096),UInt8.ofNat (128+c / 64%64),UInt8.ofNat (128+c%64)]
 else [UInt8.ofNat (240+c / 262144),UInt8.ofNat (128+c / 4096%64),UInt8.ofNat (128+c / 64%64),UInt8.ofNat (128+c%64)]
theorem qpx1(c:Nat):Utf8.valid (c:Int)=true↔c<55296\/(57344<=c/\c<=1114111):=by unfold Utf8.valid;simp only[Bool.or_eq_true,Bool.and_eq_true,decide_eq_true_eq];omega
theorem qe4n{c:Nat}(h:okc c):Utf8.valid (c:Int)=true:=(qpx1 c).2 h.2
def dl(l:List UInt8):Nat×Nat:=
 let at' (k:Nat):Nat:=(l.getD k 0).toNat
 let cont (k:Nat):Bool:=k<l.length&&at' k / 64==2
 let b0:=at' 0
 if b0<128 then(b0,1)
 else if b0 / 32==6&&cont 1 then
  let c:=(b0%32)*64+at' 1%64
  if c≥128 then(c,2) else(65533,1)
 else if b0 / 16==14&&cont 1&&cont 2 then
  let c:=(b0%16)*4096+(at' 1%64)*64+at' 2%64
  if c≥2048&&Utf8.valid c then(c,3) else(65533,1)
 else if b0 / 8==30&&cont 1&&cont 2&&cont 3 then
  let c:=(b0%8)*262144+(at' 1%64)*4096+(at' 2%64)*64+at' 3%64
  if c≥65536&&Utf8.valid c then(c,4) else(65533,1)
 else(65533,1)
theorem qiqk(s:ByteArray)(i k:Nat):s.get! (i+k)=(s.data.toList.drop i).getD k 0:=by
 rw[ByteArray.get!,List.getD_eq_getElem?_getD,List.getElem?_drop,Array.getElem!_eq_getD,Array.getD_eq_getD_getElem?];simp
 rfl
theorem q4qv(s:ByteArray)(i k:Nat):(i+k<s.size)=(k<(s.data.toList.drop i).length):=by
 have:s.size=s.data.toList.length:=by simp
 rw[this,List.length_drop];apply propext;omega
theorem qf0g(s:ByteArray)(i:Nat):Utf8.decode s i=dl (s.data.toList.drop i):=by
 unfold Utf8.decode dl;simp only[qiqk,q4qv]
 rfl
def hd(l:List UInt8):Option Nat:=if l=[]\/(dl l).1=0\/((dl l).1=65533/\(dl l).2=1) then none else some (dl l).1
theorem n8{n:Nat}(h:n<256):(UInt8.ofNat n).toNat=n:=by rw[UInt8.toNat_ofNat'];omega
theorem b8(b:UInt8){n:Nat}(h:b.toNat=n):UInt8.ofNat n=b:=by subst h;simp
theorem qyly{c:Nat}(h:okc c)(l:List UInt8):dl (cb c++l)=(c,(cb c).length):=by
 have hv:=qe4n h;obtain⟨h0,h1⟩:=h;unfold cb;split
 ·rename_i h2;simp[dl,n8 (show c<256 by omega),h2]
 ·split
  ·rename_i h2 h3;have e0:=n8 (show 192+c / 64<256 by omega);have e1:=n8 (show 128+c%64<256 by omega);simp only[dl,List.cons_append,List.nil_append,List.getD_cons_zero,List.getD_cons_succ,e0,e1];rw[if_neg (by omega),if_pos (by simp;omega),if_pos (by omega)];simp;omega
  ·split
   ·rename_i h2 h3 h4;have e0:=n8 (show 224+c / 4096<256 by omega);have e1:=n8 (show 128+c / 64%64<256 by omega);have e2:=n8 (show 128+c%64<256 by omega);have ec:(224+c / 4096)%16*4096+(128+c / 64%64)%64*64+(128+c%64)%64=c:=by omega
    simp only[dl,List.cons_append,List.nil_append,List.getD_cons_zero,List.getD_cons_succ,e0,e1,e2,ec];rw[if_neg (by omega),if_neg (by simp;omega),if_pos (by simp;omega),if_pos (by simp[hv];omega)];simp
   ·rename_i h2 h3 h4;have e0:=n8 (show 240+c / 262144<256 by omega);have e1:=n8 (show 128+c / 4096%64<256 by omega);have e2:=n8 (show 128+c / 64%64<256 by omega);have e3:=n8 (show 128+c%64<256 by omega);have ec:(240+c / 262144)%8*262144+(128+c / 4096%64)%64*4096+(128+c / 64%64)%64*64+(128+c%64)%64=c:=by omega
    simp only[dl,List.cons_append,List.nil_append,List.getD_cons_zero,List.getD_cons_succ,e0,e1,e2,e3,ec];rw[if_neg (by omega),if_neg (by simp;omega),if_neg (by simp;omega),if_pos (by simp;omega),if_pos (by simp[hv];omega)];simp
theorem qp6t(c:Nat):0<(cb c).length:=by unfold cb;split<;>(try split)<;>(try split)<;>simp
theorem qqv9(c:Nat):(cb c).length=if c<128 then 1 else if c<2048 then 2 else if c<65536 then 3 else 4:=by unfold cb;split<;>(try split)<;>(try split)<;>simp
theorem q3q9(c:Nat)(l:List UInt8):cb c++l≠[]:=by
 have:=qp6t c
 intro h
 have:(cb c++l).length=0:=by rw[h];rfl
 simp at this;simp[this] at *
theorem qwug{c:Nat}(h:okc c)(l:List UInt8):hd (cb c++l)=some c:=by
 unfold hd;rw[qyly h,if_neg];rintro(e|e|⟨e,e2⟩)
 ·exact q3q9 c l e
 ·have:=h.1;simp at e;omega
 ·simp at e e2;subst e;simp[qqv9] at e2
theorem qp9j(l:List UInt8)(hl:l≠[]):dl l=(65533,1)\/(dl l).1=0\/(okc (dl l).1/\(dl l).2=(cb (dl l).1).length/\∃r,l=cb (dl l).1++r):=by
 unfold dl;simp only[];obtain⟨b0,l0,rfl⟩:=List.exists_cons_of_ne_nil hl;have h0:=b0.toNat_lt;simp only[List.getD_cons_zero,List.getD_cons_succ,List.length_cons];split
 ·rename_i hb;by_cases hz:b0.toNat=0
  ·exact .inr (.inl hz)
  ·refine .inr (.inr ⟨⟨by omega,by omega⟩,?_,l0,?_⟩)
   ·simp[cb,hb]
   ·simp[cb,hb]
 ·split
  ·rename_i hb hc;rcases l0 with _|⟨b1,l1⟩
   ·simp at hc
   simp at hc;have h1:=b1.toNat_lt;simp only[List.getD_cons_zero];split
   ·rename_i hd;have hk:¬b0.toNat%32*64+b1.toNat%64<128:=by omega
    have hk2:b0.toNat%32*64+b1.toNat%64<2048:=by omega
    refine .inr (.inr ⟨⟨by simp;omega,by simp;omega⟩,?_,l1,?_⟩)
    ·simp[cb,hk,hk2]
    ·simp only[cb,hk,hk2,if_true,if_false];rw[b8 b0 (by omega),b8 b1 (by omega)]
     rfl
   ·exact .inl rfl
  ·split
   ·rename_i hb hb2 hc;rcases l0 with _|⟨b1,_|⟨b2,l2⟩⟩
    ·simp at hc
    ·simp at hc
    simp at hc;have h1:=b1.toNat_lt;have h2:=b2.toNat_lt;simp only[List.getD_cons_zero,List.getD_cons_succ];split
    ·rename_i hd;simp only[Bool.and_eq_true,decide_eq_true_eq,qpx1] at hd;generalize hC:b0.toNat%16*4096+b1.toNat%64*64+b2.toNat%64=C at hd;have hk:¬C<128:=by omega
     have hk2:¬C<2048:=by omega
     have hk3:C<65536:=by omega
     refine .inr (.inr ⟨⟨by simp;omega,hd.2⟩,?_,l2,?_⟩)
     ·simp[cb,hk,hk2,hk3]
     ·simp only[cb,hk,hk2,hk3,if_false];rw[b8 b0 (by omega),b8 b1 (by omega),b8 b2 (by omega)]
      rfl
    ·exact .inl rfl
   ·split
    ·rename_i hb hb2 hb3 hc;rcases l0 with _|⟨b1,_|⟨b2,_|⟨b3,l3⟩⟩⟩
     ·simp at hc
     ·simp at hc
     ·simp at hc
     simp at hc;have h1:=b1.toNat_lt;have h2:=b2.toNat_lt;have h3:=b3.toNat_lt;simp only[List.getD_cons_zero,List.getD_cons_succ];split
     ·rename_i hd;simp only[Bool.and_eq_true,decide_eq_true_eq,qpx1] at hd;generalize hC:b0.toNat%8*262144+b1.toNat%64*4096+b2.toNat%64*64+b3.toNat%64=C at hd;have hk:¬C<128:=by omega
      have hk2:¬C<2048:=by omega
      have hk3:¬C<65536:=by omega
      refine .inr (.inr ⟨⟨by simp;omega,hd.2⟩,?_,l3,?_⟩)
      ·simp[cb,hk,hk2,hk3]
      ·simp only[cb,hk,hk2,hk3,if_false];rw[b8 b0 (by omega),b8 b1 (by omega),b8 b2 (by omega),b8 b3 (by omega)]
       rfl
     ·exact .inl rfl
    ·exact .inl rfl
theorem qsz3{l:List UInt8}{c:Nat}(h:hd l=some c):okc c/\∃r,l=cb c++r:=by
 unfold hd at h;split at h
 ·cases h
 ·rename_i hn;have e:(dl l).1=c:=by simpa using h
  have hne:l≠[]:=fun e=>hn (.inl e);rcases qp9j l hne with h1|h1|⟨h1,_,h2⟩
  ·exact absurd (.inr (.inr (by rw[h1];exact⟨rfl,rfl⟩))) hn
  ·exact absurd (.inr (.inl h1)) hn
  ·rw[e] at h1 h2;exact⟨h1,h2⟩
theorem q51d{l:List UInt8}(hl:l≠[])(h:hd l=none):dl l=(65533,1)\/(dl l).1=0:=by
 rcases qp9j l hl with h1|h1|⟨h1,h2,h3,h4⟩
 ·exact .inl h1
 ·exact .inr h1
 ·generalize (dl l).1=c at h1 h4;subst h4;rw[qwug h1] at h;cases h
def pts(l:List UInt8):List Nat:=
 match _h:hd l with
 |none=>[]
 |some c=>c::pts (l.drop (cb c).length)
termination_by l.length
decreasing_by
 obtain⟨_,r,rfl⟩:=qsz3 _h
 have:=qp6t c
 simp;omega
def cbs(cs:List Nat):List UInt8:=cs.flatMap cb
def oks(cs:List Nat):Prop:=∀c∈cs,okc c
theorem qbw4:cbs []=[]:=rfl
theorem q7su(c:Nat)(cs:List Nat):cbs (c::cs)=cb c++cbs cs:=rfl
theorem q5g4(a b:List Nat):cbs (a++b)=cbs a++cbs b:=by simp[cbs]
theorem q6ts(a:List Nat)(c:Nat):cbs (a++[c])=cbs a++cb c:=by simp[cbs]
theorem qvel{l:List UInt8}(h:hd l=none):pts l=[]:=by
 rw[pts];split
 ·rfl
 ·rename_i c hc;rw[h] at hc;cases hc
theorem qqzy{c:Nat}(h:okc c)(l:List UInt8):pts (cb c++l)=c::pts l:=by
 rw[pts];have e:=qwug h l;split
 ·rename_i hc;rw[e] at hc;cases hc
 ·rename_i c' hc;rw[e] at hc;obtain rfl:c=c':=by simpa using hc
  simp
theorem q2qr:hd []=none:=by simp[hd]
theorem qahv:pts []=[]:=qvel q2qr
theorem q2hb:∀(n:Nat) (l:List UInt8),l.length<=n->oks (pts l)/\∃r,l=cbs (pts l)++r/\hd r=none
 |0,l,h=>by obtain rfl:l=[]:=List.eq_nil_of_length_eq_zero (by omega);rw[qahv];exact⟨by simp[oks],[],rfl,q2qr⟩
 |n+1,l,h=>by
  cases hc:hd l with
  |none=>rw[qvel hc];exact⟨by simp[oks],l,rfl,hc⟩
  |some c=>
   obtain⟨ho,r,rfl⟩:=qsz3 hc
   have:=qp6t c
   rw[qqzy ho];obtain⟨h1,r2,h2,h3⟩:=q2hb n r (by simp at h;omega);refine⟨fun d hd=>(List.mem_cons.1 hd).elim (fun e=>e▸ho) (h1 d),r2,?_,h3⟩;rw[q7su,List.append_assoc,<-h2]
theorem qiv7(l:List UInt8):oks (pts l):=(q2hb _ l (Nat.le_refl _)).1
theorem q454(l:List UInt8):∃r,l=cbs (pts l)++r/\hd r=none:=(q2hb _ l (Nat.le_refl _)).2
def fin(l:List UInt8):Nat:=(cbs (pts l)).length
theorem q1um(l:List UInt8):fin l<=l.length:=by
 obtain⟨r,h,_⟩:=q454 l;unfold fin
 have:=congrArg List.length h
 simp at this;omega
def qpht(l:List UInt8):Int:=if fin l<l.length then(fin l:Int) else -1
def qecx(l:List UInt8):Bool:=decide (l.length<=65535)&&decide (qpht l<0)
theorem qbv6(l:List UInt8):qecx l=true↔l.length<=65535/\fin l=l.length:=by
 unfold qecx qpht
 have:=q1um l
 simp only[Bool.and_eq_true,decide_eq_true_eq];constructor
 ·rintro⟨h1,h2⟩;refine⟨h1,?_⟩;split at h2<;>omega
 ·rintro⟨h1,h2⟩;refine⟨h1,?_⟩;rw[if_neg (by omega)];omega
def marks(p:Nat):List Nat->List (Nat×Nat)
 |[]=>[]
 |c::cs=>(p,c)::marks (p+(cb c).length) cs
theorem qx0j(cs:List Nat):∀p,(marks p cs).length=cs.length:=by
 induction cs with
 |nil=>intro p;rfl
 |cons c cs ih=>intro p;simp[marks,ih]
theorem qfk7(a b:List Nat):∀p,marks p (a++b)=marks p a++marks (p+(cbs a).length) b:=by
 induction a with
 |nil=>intro p;simp[marks,cbs]
 |cons c a ih=>intro p;rw[q7su,List.length_append,List.cons_append,marks,ih,marks,List.cons_append,Nat.add_assoc]
theorem qwxc(a:List Nat)(c:Nat):marks 0 (a++[c])=marks 0 a++[((cbs a).length,c)]:=by rw[qfk7];simp[marks]
def be(n:Nat):Nat->List UInt8
 |0=>[]
 |c+1=>be (n / 256) c++[UInt8.ofNat n]
theorem q0rl(c:Nat):∀n,(be n c).length=c:=by
 induction c with
 |zero=>intro n;rfl
 |succ c ih=>intro n;simp[be,ih]
theorem qxkn(n c k:Nat)(hk:k<c):be (n / 256^(c-(k+1))) (k+1)=be (n / 256^(c-k)) k++[UInt8.ofNat (n / 256^(c-(k+1)))]:=by
 have e:c-k=(c-(k+1))+1:=by omega
 rw[be,e,Nat.pow_succ,Nat.div_div_eq_div_mul]
def num(l:List UInt8):Nat:=l.foldl (fun a b=>a*256+b.toNat) 0
theorem q4zn(l:List UInt8)(b:UInt8):num (l++[b])=num l*256+b.toNat:=by simp[num]
theorem qn9h(l:List UInt8):num l<256^l.length:=by
 have key:∀(k:Nat) (l:List UInt8),l.length=k->num l<256^k:=by
  intro k
  induction k with
  |zero=>intro l h;have:l=[]:=List.eq_nil_of_length_eq_zero h;subst this;decide
  |succ k ih=>
   intro l h;rcases List.eq_nil_or_concat l with rfl|⟨l',b,rfl⟩
   ·simp at h
   ·simp at h
    have:=ih l' h
    have hb:=b.toNat_lt;rw[List.concat_eq_append,q4zn,Nat.pow_succ];omega
 exact key _ l rfl
theorem q7wd(c:Nat):∀n,num (be n c)=n%256^c:=by
 induction c with
 |zero=>intro n;simp[be,num,Nat.mod_one]
 |succ c ih=>intro n;rw[be,q4zn,ih,Nat.pow_succ,Nat.mul_comm (256^c) 256,Nat.mod_mul,UInt8.toNat_ofNat'];omega
theorem qz9g(l:List UInt8):be (num l) l.length=l:=by
 have key:∀(k:Nat) (l:List UInt8),l.length=k->be (num l) k=l:=by
  intro k
  induction k with
  |zero=>intro l h;have:l=[]:=List.eq_nil_of_length_eq_zero h;subst this;rfl
  |succ k ih=>
   intro l h;rcases List.eq_nil_or_concat l with rfl|⟨l',b,rfl⟩
   ·simp at h
   ·simp at h;have hb:=b.toNat_lt;rw[List.concat_eq_append,q4zn,be];have e:(num l'*256+b.toNat) / 256=num l':=by omega
    rw[e,ih l' h]
    congr 2
    apply UInt8.toNat_inj.1;rw[UInt8.toNat_ofNat'];omega
 exact key _ l rfl
def enc2(l:List UInt8):List UInt8:=be l.length 2++l
theorem qnp6(l:List UInt8):(enc2 l).length=l.length+2:=by simp[enc2,q0rl];omega
theorem qpeh(l:List UInt8):num (l.take 2)<65536:=by
 have h:=qn9h (l.take 2);have hl:(l.take 2).length<=2:=by simp;omega
 have:=Nat.pow_le_pow_right (show 0<256 by decide) hl
 omega
def rdB(l:List UInt8):List UInt8×Nat×Nat:=
 if 2<=l.length/\2+num (l.take 2)<=l.length then((l.drop 2).take (num (l.take 2)),2+num (l.take 2),0) else([],0,3)
def rdT(l:List UInt8):List UInt8×Nat×Nat:=
 if (rdB l).2.2≠0 then([],0,3) else if qecx (rdB l).1 then rdB l else([],0,6)
theorem qsrz(l:List UInt8):((rdB l).2.2=0/\(rdB l).1.length+2=(rdB l).2.1/\(rdB l).2.1<=l.length/\(rdB l).2.1<65538/\l.take (rdB l).2.1=enc2 (rdB l).1)\/rdB l=([],0,3):=by
 unfold rdB;split
 ·rename_i h;refine .inl ⟨rfl,?_,h.2,by have:=qpeh l;simp;omega,?_⟩
  ·simp;omega
  ·have hl:((l.drop 2).take (num (l.take 2))).length=num (l.take 2):=by simp;omega
   have hb:=qz9g (l.take 2);have h2:(l.take 2).length=2:=by simp;omega
   rw[h2] at hb;show l.take (2+num (l.take 2))=enc2 _;rw[enc2,hl,hb,List.take_add]
 ·exact .inr rfl
def lvls:List UInt8->List (List UInt8)
 |[]=>[[]]
 |c::s=>if c=47 then []::lvls s else match lvls s with
  |[]=>[[c]]
  |l::ls=>(c::l)::ls
def q8nq:List (List UInt8)->List UInt8
 |[]=>[]
 |[l]=>l
 |l::m::ls=>l++47::q8nq (m::ls)
theorem q6q5(s:List UInt8):lvls s≠[]:=by
 cases s with
 |nil=>simp[lvls]
 |cons c s=>
  unfold lvls;split
  ·simp
  ·split<;>simp
theorem q3eu(s:List UInt8):lvls (47::s)=[]::lvls s:=by simp[lvls]
theorem q6p0{c:UInt8}(h:c≠47)(s:List UInt8):∃l ls,lvls s=l::ls/\lvls (c::s)=(c::l)::ls:=by obtain⟨l,ls,e⟩:=List.exists_cons_of_ne_nil (q6q5 s);exact⟨l,ls,e,by rw[lvls,if_neg h,e]⟩
theorem qcnz(l:List UInt8){ls:List (List UInt8)}(h:ls≠[]):q8nq (l::ls)=l++47::q8nq ls:=by
 cases ls with
 |nil=>exact absurd rfl h
 |cons m ls=>rfl
theorem qz8l(s:List UInt8):q8nq (lvls s)=s:=by
 induction s with
 |nil=>rfl
 |cons c s ih=>
  by_cases h:c=47
  ·subst h;rw[q3eu,qcnz _ (q6q5 s),ih];rfl
  ·obtain⟨l,ls,e1,e2⟩:=q6p0 h s;rw[e2];rw[e1] at ih;cases ls with
   |nil=>rw[<-ih];rfl
   |cons m ls=>rw[qcnz _ (by simp)] at ih ⊢;rw[<-ih];rfl
def flat(ls:List (List UInt8)):Prop:=∀l∈ls,(47:UInt8)∉l
theorem qxp9(s:List UInt8):flat (lvls s):=by
 induction s with
 |nil=>intro l hl;simp[lvls] at hl;subst hl;simp
 |cons c s ih=>
  by_cases h:c=47
  ·subst h;rw[q3eu];intro l hl;rcases List.mem_cons.1 hl with rfl|hl
   ·simp
   ·exact ih l hl
  ·obtain⟨l,ls,e1,e2⟩:=q6p0 h s;rw[e2];rw[e1] at ih;intro m hm;rcases List.mem_cons.1 hm with rfl|hm
   ·have:=ih l (List.mem_cons_self ..)
    simp[this,Ne.symm h]
   ·exact ih m (List.mem_cons_of_mem _ hm)
theorem qty4{l:List UInt8}(h:(47:UInt8)∉l):lvls l=[l]:=by
 induction l with
 |nil=>rfl
 |cons c l ih=>simp at h;rw[lvls,if_neg (fun e=>h.1 e.symm),ih h.2]
theorem quk3{l:List UInt8}(h:(47:UInt8)∉l)(s:List UInt8):lvls (l++47::s)=l::lvls s:=by
 induction l with
 |nil=>exact q3eu s
 |cons c l ih=>simp at h;rw[List.cons_append,lvls,if_neg (fun e=>h.1 e.symm),ih h.2]
theorem qspi(s:List UInt8):(lvls s).length=s.count 47+1:=by
 induction s with
 |nil=>rfl
 |cons c s ih=>
  by_cases h:c=47
  ·subst h;rw[q3eu,List.length_cons,ih,List.count_cons_self]
  ·obtain⟨l,ls,e1,e2⟩:=q6p0 h s;rw[e2,List.count_cons_of_ne h,<-ih,e1];rfl
def okl:List (List UInt8)->Prop
 |[]=>True
 |l::ls=>((43:UInt8)∈l->l=[43])/\((35:UInt8)∈l->l=[35]/\ls=[])/\okl ls
instance okl_dec:(ls:List (List UInt8))->Decidable (okl ls)
 |[]=>isTrue trivial
 |l::ls=>by
  have:=okl_dec ls
  unfold okl
  infer_instance
def q95c(s:List UInt8):Bool:=decide (s≠[])&&qecx s&&decide ((43:UInt8)∉s)&&decide ((35:UInt8)∉s)
def qw8n(s:List UInt8):Bool:=decide (s≠[])&&qecx s&&decide (okl (lvls s))
theorem q38c(s:List UInt8):qw8n s=true↔s≠[]/\qecx s=true/\okl (lvls s):=by unfold qw8n;simp[and_assoc]
structure PRow where
 shape:Nat
 kinds:List Int
 least:Nat
 most:Nat
def prow(id:Int):PRow:=
 if id=1 then⟨1,[3,16],0,1⟩
 else if id=2 then⟨3,[3,16],0,4294967295⟩
 else if id=3\/id=8 then⟨5,[3,16],0,0⟩
 else if id=9 then⟨6,[3,16],0,0⟩
 else if id=11 then⟨4,[3,8],1,268435455⟩
 else if id=17 then⟨3,[1,2,14],0,4294967295⟩
 else if id=18\/id=26 then⟨5,[2],0,0⟩
 else if id=19 then⟨2,[2],0,65535⟩
 else if id=21 then⟨5,[1,2,15],0,0⟩
 else if id=22 then⟨6,[1,2,15],0,0⟩
 else if id=23\/id=25 then⟨1,[1],0,1⟩
 else if id=24 then⟨3,[16],0,4294967295⟩
 else if id=28 then⟨5,[2,14],0,0⟩
 else if id=31 then⟨5,[2,4,5,6,7,9,11,14,15],0,0⟩
 else if id=33 then⟨2,[1,2],1,65535⟩
 else if id=34 then⟨2,[1,2],0,65535⟩
 else if id=35 then⟨2,[3],1,65535⟩
 else if id=36\/id=37\/id=40\/id=41\/id=42 then⟨1,[2],0,1⟩
 else if id=38 then⟨7,[1,2,3,4,5,6,7,8,9,10,11,14,15,16],0,0⟩
 else if id=39 then⟨3,[1,2],1,4294967295⟩
 else⟨0,[],0,0⟩
def qwgc(id:Int):Nat:=(prow id).shape
def mayP(kind id:Int):Bool:=(prow id).kinds.contains kind
def quux(kind id:Int):Bool:=mayP kind id&&(id==38 || (id==11&&kind==3))
def qr4y(kind:Int)(p:Pr):Nat:=
 if mayP kind p.id=false then 9
 else if qwgc p.id<=4 then
  if p.text≠[]\/p.value≠[] then 2
  else if p.n<(prow p.id).least\/(prow p.id).most<p.n then 9
  else 0
 else if p.n≠0\/(qwgc p.id≠7/\p.value≠[]) then 2
 else if qwgc p.id=6 then(if 65535<p.text.length then 2 else 0)
 else if qecx p.text=false\/qecx p.value=false then 6
 else if p.id=8/\q95c p.text=false then 9
 else 0
theorem q0dw{id:Int}(h:id<1\/42<id):prow id=⟨0,[],0,0⟩:=by
 unfold prow
 repeat rw[if_neg (by omega)]
theorem qoa5(P:Int->PRow->Bool)(h:(List.range 43).all (fun k=>P (k:Int) (prow (k:Int)))=true){id:Int}(hi:1<=id/\id<=42):P id (prow id)=true:=by
 have:=List.all_eq_true.1 h id.toNat (List.mem_range.2 (by omega))
 rwa [show((id.toNat:Nat):Int)=id by omega] at this
theorem qilb{kind id:Int}(h:mayP kind id=true):1<=id/\id<=42:=by
 rcases Int.lt_or_le id 1 with h1|h1
 ·unfold mayP at h;rw[q0dw (.inl h1)] at h;simp at h
 ·rcases Int.lt_or_le 42 id with h2|h2
  ·unfold mayP at h;rw[q0dw (.inr h2)] at h;simp at h
  ·exact⟨h1,h2⟩
theorem q06q{kind id:Int}(h:mayP kind id=true):(prow id).kinds≠[]:=by intro e;unfold mayP at h;rw[e] at h;simp at h
theorem qznl{kind id:Int}(h:mayP kind id=true):1<=qwgc id/\qwgc id<=7/\(qwgc id=1->(prow id).most<256)/\(qwgc id=2->(prow id).most<65536)/\(qwgc id=3->(prow id).most<4294967296)/\(qwgc id=4->(prow id).most<=268435455)/\(id=8->qwgc id=5):=by
 have:=qoa5 (fun i r=>r.kinds.isEmpty || (decide (1<=r.shape)&&decide (r.shape<=7)&&(decide (r.shape≠1) || decide (r.most<256))&&(decide (r.shape≠2) || decide (r.most<65536))&&(decide (r.shape≠3) || decide (r.most<4294967296))&&(decide (r.shape≠4) || decide (r.most<=268435455))&&(decide (i≠8) || decide (r.shape=5)))) (by decide) (qilb h)
 have hk:=q06q h;unfold qwgc;generalize prow id=r at *;simp only[Bool.or_eq_true,Bool.and_eq_true,decide_eq_true_eq,List.isEmpty_iff] at this;rcases this with e|⟨⟨⟨⟨⟨⟨h1,h2⟩,h3⟩,h4⟩,h5⟩,h6⟩,h7⟩
 ·exact absurd e hk
 ·exact⟨h1,h2,fun e=>h3.resolve_left (fun x=>x e),fun e=>h4.resolve_left (fun x=>x e),fun e=>h5.resolve_left (fun x=>x e),fun e=>h6.resolve_left (fun x=>x e),fun e=>h7.resolve_left (fun x=>x e)⟩
def qgdb(p:Pr):List UInt8:=
 if qwgc p.id=1 then be p.n 1 else if qwgc p.id=2 then be p.n 2 else if qwgc p.id=3 then be p.n 4
 else if qwgc p.id=4 then vb p.n (sz p.n) else if qwgc p.id=7 then enc2 p.text++enc2 p.value else enc2 p.text
def numP(id:Int)(c:Nat)(r:List UInt8):Pr×Nat×Nat:=if r.length<c then(⟨id,0,[],[]⟩,0,5) else(⟨id,num (r.take c),[],[]⟩,c,0)
def q91e(data:Bool)(r:List UInt8):List UInt8×Nat×Nat:=if (rdB r).2.2≠0 then([],0,5) else if data || qecx (rdB r).1 then((rdB r).1,(rdB r).2.1,0) else([],0,6)
def qij7(id:Int)(r:List UInt8):Pr×Nat×Nat:=
 if qwgc id=1 then numP id 1 r else if qwgc id=2 then numP id 2 r else if qwgc id=3 then numP id 4 r
 else if qwgc id=4 then(if rdE r≠0 then(⟨id,0,[],[]⟩,0,5) else(⟨id,rdV r,[],[]⟩,rdN r,0))
 else if qwgc id=7 then
  (
   if (q91e false r).2.2≠0 then(⟨id,0,[],[]⟩,0,(q91e false r).2.2)
   else if (q91e false (r.drop (q91e false r).2.1)).2.2≠0 then(⟨id,0,[],[]⟩,0,(q91e false (r.drop (q91e false r).2.1)).2.2)
   else(⟨id,0,(q91e false r).1,(q91e false (r.drop (q91e false r).2.1)).1⟩,(q91e false r).2.1+(q91e false (r.drop (q91e false r).2.1)).2.1,0))
 else if (q91e (qwgc id==6) r).2.2≠0 then(⟨id,0,[],[]⟩,0,(q91e (qwgc id==6) r).2.2) else(⟨id,0,(q91e (qwgc id==6) r).1,[]⟩,(q91e (qwgc id==6) r).2.1,0)
theorem qo1o{kind:Int}{p:Pr}(h:qr4y kind p=0):mayP kind p.id=true/\
 (qwgc p.id<=4->p.text=[]/\p.value=[]/\(prow p.id).least<=p.n/\p.n<=(prow p.id).most)/\
 (4<qwgc p.id->p.n=0/\(qwgc p.id≠7->p.value=[])/\(qwgc p.id=6->p.text.length<=65535)/\(qwgc p.id≠6->qecx p.text=true/\qecx p.value=true)):=by
 unfold qr4y at h;by_cases hm:mayP kind p.id=true
 ·rw[if_neg (by simp[hm])] at h;refine⟨hm,fun hs=>?_,fun hs=>?_⟩
  ·rw[if_pos hs] at h;split at h
   ·cases h
   ·rename_i h1;split at h
    ·cases h
    ·rename_i h2;simp only[not_or,Decidable.not_not] at h1;exact⟨h1.1,h1.2,by omega,by omega⟩
  ·rw[if_neg (by omega)] at h;split at h
   ·cases h
   ·rename_i h1;have h1a:p.n=0:=by
     rcases Nat.eq_zero_or_pos p.n with e|e
     ·exact e
     ·exact absurd (.inl (by omega)) h1
    have h1b:qwgc p.id≠7->p.value=[]:=fun e=>Classical.byContradiction fun x=>h1 (.inr ⟨e,x⟩);refine⟨h1a,h1b,fun e=>?_,fun e=>?_⟩
    ·rw[if_pos e] at h;split at h
     ·cases h
     ·omega
    ·rw[if_neg e] at h;split at h
     ·cases h
     ·rename_i h2;simp only[not_or,Bool.not_eq_false] at h2;exact h2
 ·rw[if_pos (by simpa using hm)] at h;cases h
end Go.Proofs.YtombgnfedafkjaaGreatDoor
