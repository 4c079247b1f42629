/- What all layers share: bytes as cells, and what a world keeps qk87 a store, a draw or a call. No condition. -/
import Derived.WalkSpells
import Derived.WalkLawsBesides
import Derived.Lib.Hide
import Derived.BigQuiet
import Derived.Deep.RegionLaw
import Derived.Test.YtlhkgidoaggodaaGreatDoorRows
namespace Go.Proofs.YtlhkgidoaggodaaGreatDoor
open Go.RowKit
def u8v(b:UInt8):Value := .int .u8 b.toNat
def bs(l:List UInt8):ByteArray:=⟨l.toArray⟩
theorem qrze(s:ByteArray):s.toList=s.data.toList:=ByteArray.toList_eq s
theorem q0c6(l:List UInt8):(bs l).toList=l:=by rw[qrze];rfl
theorem qphn(s:ByteArray)(k:Nat)(h:k<s.size):s.data.toList.take (k+1)=s.data.toList.take k++[s[k]]:=by rw[List.take_succ_eq_append_getElem (by simpa using h)];rfl
theorem qlvy{w:World}{b:Nat}{cs:Array Value}{t:TypeId}(h:w.heap[b]?=some (.cells cs t (0,0)))(j:Nat)(u:Value) :
 (w.setCell ⟨b,j,none⟩ u).heap[b]?=some (.cells (cs.setIfInBounds j u) t (0,0)):=by
 simp[World.setCell,Array.getElem?_modify,h]
theorem q99v(w:World)(b j:Nat)(u:Value):w.grownBy (w.setCell ⟨b,j,none⟩ u) (some b):=
 ⟨rfl,rfl,rfl,by simp[World.setCell],fun k _ hne=>Below.heap_setCell w ⟨b,j,none⟩ u k (fun e=>hne (by rw[e]))⟩
theorem qgju{w w':World}{n:Nat}{r:Option Nat}(h:(w.drewN n).grownBy w' r):w.grownBy w' r:=⟨h.os,h.tape,h.output,h.size,h.block⟩
theorem qo6d{a b c:World}{r:Option Nat}(h:a.grownBy b r)(k:b.grownBy c r):a.grownBy c r:=
 ⟨k.os.trans h.os,k.tape.trans h.tape,k.output.trans h.output,Nat.le_trans h.size k.size,fun i hi hne=>(k.block i (Nat.lt_of_lt_of_le hi h.size) hne).trans (h.block i hi hne)⟩
theorem qnpu{B:Nat}{a b:World}(h:Below B a b)(n:Nat):Below B a (b.drewN n):=⟨h.os,h.tape,h.output,h.size,h.block⟩
section
variable{w W W':World}{g:FuncId}{args:Array Value}{v v':Value}
end
theorem q6zi{P:Program}{W:World}{ops:Array Oper}{o:Oper}{a:Act}{K:Act->World->Prop}{Q:Exit->Act->World->Prop}{E:Prop}(hgd:o.guard=none)(s x:Operand)(t u:TypeId)
 (ho:o.op=.call {callee := .builtin .append,args:=#[s,x],argTypes:=#[t,u]}) {y sl y':Value} {W':World} (hs:a.eval s=y) (hx:a.eval x=sl)
 (hr:(Builtin.append_ #[t,u] o.type #[y,sl]).run P W=.ok y' W') (h:K (a.put o.dst y') W'):if Region.wanted o (yielded ops a.tmps)=true then Oper.wp P o a W K Q else E:=by
 have hw:Region.wanted o (yielded ops a.tmps)=true:=by simp[Region.wanted,hgd]
 rw[if_pos hw];unfold Oper.wp execOp;simp only[ho,resolve,invoke,builtin,Sem.run_bind,Sem.run_pure,Result.andThen_ok,List.map_toArray,List.map_cons,List.map_nil,hs,hx,hr];exact h
end Go.Proofs.YtlhkgidoaggodaaGreatDoor
namespace Go.Proofs.YtlhkgidoaggodaaGreatDoor
def nxt(b:UInt8)(n:Nat):Nat:=if 128<=b.toNat then(if n=4 then 2 else 0) else if b.toNat=0/\1<n then 2 else 1
def grow(v n:Nat)(b:UInt8):Nat:=v+b.toNat%128*128^n
def run(v n:Nat):List UInt8->Nat×Nat×Nat
 |[]=>(v,n,0)
 |b::l=>if nxt b (n+1)=0 then run (grow v n b) (n+1) l else(grow v n b,n+1,nxt b (n+1))
theorem qlf0(b:UInt8)(n:Nat):nxt b n=0\/nxt b n=1\/nxt b n=2:=by unfold nxt;split<;>split<;>simp
theorem qv8z{b:UInt8}{n:Nat}:nxt b n=0↔128<=b.toNat/\n≠4:=by
 unfold nxt;split<;>split<;>simp_all
 all_goals omega
theorem qicf{b:UInt8}{n:Nat}:nxt b n=1↔b.toNat<128/\(0<b.toNat\/n<=1):=by unfold nxt;split<;>split<;>simp_all<;>omega
theorem qt6b{b:UInt8}{n:Nat}:nxt b n=2↔(128<=b.toNat/\n=4)\/(b.toNat=0/\1<n):=by unfold nxt;split<;>split<;>simp_all<;>omega
theorem qpfr{v n:Nat}(b:UInt8)(h:v<128^n):grow v n b<128^(n+1):=by
 unfold grow;have h1:b.toNat%128<=127:=by omega
 have h2:b.toNat%128*128^n<=127*128^n:=Nat.mul_le_mul_right _ h1;rw[Nat.pow_succ];omega
theorem qomx{v n:Nat}{b:UInt8}(l:List UInt8)(h:nxt b (n+1)=0):run v n (b::l)=run (grow v n b) (n+1) l:=by simp[run,h]
theorem q408{v n:Nat}{b:UInt8}(l:List UInt8)(h:nxt b (n+1)≠0):run v n (b::l)=(grow v n b,n+1,nxt b (n+1)):=by simp[run,h]
theorem qeqk:∀(l:List UInt8) (v n v' n':Nat),n<4->v<128^n->run v n l=(v',n',0)->n'=n+l.length/\n'<4/\v'<128^n':=by
 intro l
 induction l with
 |nil=>intro v n v' n' hn hv h;simp[run] at h;obtain⟨rfl,rfl⟩:=h;exact⟨by simp,hn,hv⟩
 |cons a l ih=>
  intro v n v' n' hn hv h;by_cases h0:nxt a (n+1)=0
  ·rw[qomx _ h0] at h;have h4:=(qv8z.1 h0).2;obtain⟨e,h2,h3⟩:=ih _ _ _ _ (by omega) (qpfr a hv) h;exact⟨by simp;omega,h2,h3⟩
  ·rw[q408 _ h0] at h;simp at h;exact absurd h.2.2 h0
theorem qh9e:∀(l:List UInt8) (v n:Nat),(run v n l).2.2=0\/(run v n l).2.2=1\/(run v n l).2.2=2:=by
 intro l
 induction l with
 |nil=>intro v n;simp[run]
 |cons a l ih=>
  intro v n;by_cases h0:nxt a (n+1)=0
  ·rw[qomx _ h0];exact ih _ _
  ·rw[q408 _ h0];exact qlf0 _ _
def rdV(l:List UInt8):Nat:=if (run 0 0 l).2.2=1 then(run 0 0 l).1 else 0
def rdN(l:List UInt8):Nat:=if (run 0 0 l).2.2=1 then(run 0 0 l).2.1 else 0
def rdE(l:List UInt8):Nat:=if (run 0 0 l).2.2=0 then 3 else if (run 0 0 l).2.2=1 then 0 else 5
theorem rd_of{l:List UInt8}{v n st:Nat}(h:run 0 0 l=(v,n,st)):rdV l=(if st=1 then v else 0)/\rdN l=(if st=1 then n else 0)/\rdE l=if st=0 then 3 else if st=1 then 0 else 5:=by simp[rdV,rdN,rdE,h]
def sz(n:Int):Nat:=if n<0\/268435455<n then 0 else if n<128 then 1 else if n<16384 then 2 else if n<2097152 then 3 else 4
def byt(n c i:Nat):UInt8:=UInt8.ofNat (n / 128^i%128+if i+1<c then 128 else 0)
def vb(n c:Nat):List UInt8:=(List.range c).map (byt n c)
theorem q8sw(n c:Nat):(vb n c).length=c:=by simp[vb]
theorem qa5k(n c i:Nat):(byt n c i).toNat=n / 128^i%128+if i+1<c then 128 else 0:=by
 unfold byt
 have:n / 128^i%128<128:=Nat.mod_lt _ (by decide)
 simp only[UInt8.toNat_ofNat'];split<;>omega
theorem qnl4(n:Nat)(h:n<=268435455):(sz n=1/\n<128)\/(sz n=2/\128<=n/\n<16384)\/(sz n=3/\16384<=n/\n<2097152)\/(sz n=4/\2097152<=n):=by
 unfold sz;split
 ·omega
 ·split
  ·omega
  ·split
   ·omega
   ·split<;>omega
theorem qbck{n:Int}:sz n=0↔n<0\/268435455<n:=by
 unfold sz;split
 ·simp[*]
 ·split
  ·simp[*]
  ·split
   ·simp[*]
   ·split<;>simp[*]
theorem quzn(n c k:Nat)(hc:c<=4)(hk:k+1<c):nxt (byt n c k) (k+1)=0/\grow (n%128^k) k (byt n c k)=n%128^(k+1):=by have e:=qa5k n c k;rw[if_pos (by omega)] at e;refine⟨qv8z.2 ⟨by omega,by omega⟩,?_⟩;unfold grow;rw[e,Nat.pow_succ,Nat.mod_mul,Nat.add_mod_right,Nat.mod_mod,Nat.mul_comm]
theorem qq79(n k:Nat)(hn:n<=268435455)(hk:k+1=sz n):nxt (byt n (sz n) k) (k+1)=1/\grow (n%128^k) k (byt n (sz n) k)=n:=by
 have hs:=qnl4 n hn;rw[<-hk] at hs ⊢;have hlt:n<128^(k+1):=by rcases hs with ⟨h,_⟩|⟨h,_⟩|⟨h,_⟩|⟨h,_⟩<;>(obtain rfl:=Nat.succ.inj h;simp;omega)
 have hge:k=0\/128^k<=n:=by rcases hs with ⟨h,_⟩|⟨h,_⟩|⟨h,_⟩|⟨h,_⟩<;>(obtain rfl:=Nat.succ.inj h;simp;try omega)
 have e:=qa5k n (k+1) k;rw[if_neg (by omega)] at e;have hd:n / 128^k<128:=by rw[Nat.div_lt_iff_lt_mul (Nat.pow_pos (by decide))];rw[Nat.pow_succ] at hlt;omega
 refine⟨qicf.2 ⟨by omega,?_⟩,?_⟩
 ·rcases hge with h|h
  ·right;omega
  ·left
   have:0<n / 128^k:=Nat.div_pos h (Nat.pow_pos (by decide))
   omega
 ·unfold grow;rw[e]
  have:=Nat.mod_add_div n (128^k)
  rw[Nat.add_zero,Nat.mod_eq_of_lt hd,Nat.mod_eq_of_lt hd,Nat.mul_comm];exact this
theorem q0uc(n c:Nat)(hc:c<=4):∀i,i<c->∀t,run 0 0 ((List.range i).map (byt n c)++t)=run (n%128^i) i t:=by
 intro i
 induction i with
 |zero=>intro _ t;simp[Nat.mod_one]
 |succ i ih=>intro hi t;obtain⟨h0,hg⟩:=quzn n c i hc hi;rw[List.range_succ,List.map_append,List.append_assoc,ih (by omega)];show run _ _ (byt n c i::t)=_;rw[qomx _ h0,hg]
theorem qvwp(n:Nat)(hn:n<=268435455)(t:List UInt8):run 0 0 (vb n (sz n)++t)=(n,sz n,1):=by
 have hs:=qnl4 n hn;obtain⟨c,hc⟩:∃c,sz n=c+1:=⟨sz n-1,by omega⟩
 obtain⟨h1,hg⟩:=qq79 n c hn hc.symm;rw[hc] at h1 hg ⊢;unfold vb;rw[List.range_succ,List.map_append,List.append_assoc,q0uc n (c+1) (by omega) c (by omega)];show run _ _ (byt n (c+1) c::t)=_;rw[q408 _ (by rw[h1];decide),h1,hg]
theorem qvpf(l:List UInt8)(v n:Nat)(h:run 0 0 l=(v,n,1)):v<=268435455/\n=sz v/\n<=l.length/\l.take n=vb v n:=by
 have ofb:∀(a:UInt8) (x c i:Nat),a.toNat=(x / 128^i%128+if i+1<c then 128 else 0)->a=byt x c i:=fun a x c i e=>UInt8.toNat_inj.1 (by rw[qa5k,e]);cases l with
 |nil=>simp[run] at h
 |cons a l=>
  have ha:=a.toNat_lt;by_cases ha0:nxt a (0+1)=0
  ·rw[qomx _ ha0] at h;have ha1:=(qv8z.1 ha0).1;cases l with
   |nil=>simp[run] at h
   |cons b l=>
    have hb:=b.toNat_lt;by_cases hb0:nxt b (0+1+1)=0
    ·rw[qomx _ hb0] at h;have hb1:=(qv8z.1 hb0).1;cases l with
     |nil=>simp[run] at h
     |cons c l=>
      have hc:=c.toNat_lt;by_cases hc0:nxt c (0+1+1+1)=0
      ·rw[qomx _ hc0] at h;have hc1:=(qv8z.1 hc0).1;cases l with
       |nil=>simp[run] at h
       |cons d l=>
        have hd:=d.toNat_lt;by_cases hd0:nxt d (0+1+1+1+1)=0
        ·exact absurd (qv8z.1 hd0).2 (by decide)
        ·rw[q408 _ hd0] at h;simp only[Prod.mk.injEq] at h;obtain⟨hv,rfl,h1⟩:=h;have h2:=qicf.1 h1;have e:v=a.toNat%128+b.toNat%128*128+c.toNat%128*16384+d.toNat*2097152:=by rw[<-hv];simp[grow];omega
         clear hv;refine⟨by omega,by unfold sz;rw[if_neg (by omega),if_neg (by omega),if_neg (by omega),if_neg (by omega)],by simp,?_⟩;simp[vb,List.range_succ];exact⟨ofb _ _ _ _ (by simp;omega),ofb _ _ _ _ (by simp;omega),ofb _ _ _ _ (by simp;omega),ofb _ _ _ _ (by simp;omega)⟩
      ·rw[q408 _ hc0] at h;simp only[Prod.mk.injEq] at h;obtain⟨hv,rfl,h1⟩:=h;have h2:=qicf.1 h1;have e:v=a.toNat%128+b.toNat%128*128+c.toNat*16384:=by rw[<-hv];simp[grow];omega
       clear hv;refine⟨by omega,by unfold sz;rw[if_neg (by omega),if_neg (by omega),if_neg (by omega),if_pos (by omega)],by simp,?_⟩;simp[vb,List.range_succ];exact⟨ofb _ _ _ _ (by simp;omega),ofb _ _ _ _ (by simp;omega),ofb _ _ _ _ (by simp;omega)⟩
    ·rw[q408 _ hb0] at h;simp only[Prod.mk.injEq] at h;obtain⟨hv,rfl,h1⟩:=h;have h2:=qicf.1 h1;have e:v=a.toNat%128+b.toNat*128:=by rw[<-hv];simp[grow];omega
     clear hv;refine⟨by omega,by unfold sz;rw[if_neg (by omega),if_neg (by omega),if_pos (by omega)],by simp,?_⟩;simp[vb,List.range_succ];exact⟨ofb _ _ _ _ (by simp;omega),ofb _ _ _ _ (by simp;omega)⟩
  ·rw[q408 _ ha0] at h;simp only[Prod.mk.injEq] at h;obtain⟨hv,rfl,h1⟩:=h;have h2:=qicf.1 h1;have e:v=a.toNat:=by rw[<-hv];simp[grow];omega
   clear hv;refine⟨by omega,by unfold sz;rw[if_neg (by omega),if_pos (by omega)],by simp,?_⟩;simp[vb,List.range_succ];exact ofb _ _ _ _ (by simp;omega)
structure Hd where
 kind:Int
 flags:Int
 length:Int
deriving DecidableEq
def verH(v:Int):Bool:=v==4 || v==5
def qbe2(v k:Int):Bool:=decide (1<=k)&&(decide (k<15) || (k==15&&v==5))
def qg3k(k f:Int):Bool:=
 if k=3 then decide (0<=f/\f<=15/\f / 2%4<3/\(f<8\/0<f / 2%4)) else if k=6\/k=8\/k=10 then f==2 else f==0
def q9d8(v:Int)(h:Hd):Nat:=
 if verH v=false then 2 else if qbe2 v h.kind=false then 8 else if qg3k h.kind h.flags=false then 7 else if h.length<0\/268435455<h.length then 2 else 0
def qytq(h:Hd):UInt8:=UInt8.ofNat (16*h.kind+h.flags).toNat
def rawH(h:Hd):List UInt8:=qytq h::vb h.length.toNat (sz h.length)
def noH:Hd:=⟨0,0,0⟩
def q1f7(b:UInt8):Hd:=⟨(b.toNat / 16:Nat),(b.toNat%16:Nat),0⟩
def qday(v:Int):List UInt8->Hd×Nat×Nat
 |[]=>if verH v=false then(noH,0,2) else(noH,0,3)
 |b::r=>
  if q9d8 v (q1f7 b)≠0 then(noH,0,q9d8 v (q1f7 b)) else
  if rdE r≠0 then(noH,0,rdE r) else
  (⟨(b.toNat / 16:Nat),(b.toNat%16:Nat),(rdV r:Nat)⟩,1+rdN r,0)
theorem qwts(v:Int):qday v []=if verH v=false then(noH,0,2) else(noH,0,3):=rfl
theorem qr52(v:Int)(b:UInt8)(r:List UInt8):qday v (b::r)=if q9d8 v (q1f7 b)≠0 then(noH,0,q9d8 v (q1f7 b)) else
 if rdE r≠0 then(noH,0,rdE r) else(⟨(b.toNat / 16:Nat),(b.toNat%16:Nat),(rdV r:Nat)⟩,1+rdN r,0):=rfl
theorem q39c{v k:Int}(h:qbe2 v k=true):1<=k/\k<=15:=by unfold qbe2 at h;simp only[Bool.and_eq_true,Bool.or_eq_true,decide_eq_true_eq,beq_iff_eq] at h;omega
theorem qo5i{k f:Int}(h:qg3k k f=true):0<=f/\f<=15:=by
 unfold qg3k at h;split at h
 ·rw[decide_eq_true_eq] at h;omega
 ·split at h<;>(rw[beq_iff_eq] at h;omega)
theorem qri3{v:Int}{h:Hd}:q9d8 v h=0↔verH v=true/\qbe2 v h.kind=true/\qg3k h.kind h.flags=true/\0<=h.length/\h.length<=268435455:=by
 unfold q9d8;cases h1:verH v
 ·simp
 cases h2:qbe2 v h.kind
 ·simp
 cases h3:qg3k h.kind h.flags
 ·simp
 by_cases h4:h.length<0\/268435455<h.length
 ·simp only[Bool.true_eq_false,if_false,if_pos h4];constructor
  ·intro h;cases h
  ·intro h;omega
 ·simp only[Bool.true_eq_false,if_false,if_neg h4];constructor
  ·intro _;exact⟨trivial,trivial,trivial,by omega,by omega⟩
  ·intro _;trivial
theorem q8x8{v k f l:Int}(h:q9d8 v ⟨k,f,l⟩=0):q9d8 v ⟨k,f,0⟩=0:=by rw[qri3] at h ⊢;exact⟨h.1,h.2.1,h.2.2.1,Int.le_refl _,(by decide:(0:Int)<=268435455)⟩
theorem q4c1{v:Int}{h:Hd}(hc:q9d8 v h=0):((qytq h).toNat:Int)=16*h.kind+h.flags:=by
 rw[qri3] at hc;have h1:=q39c hc.2.1;have h2:=qo5i hc.2.2.1;unfold qytq
 have:(UInt8.ofNat (16*h.kind+h.flags).toNat).toNat=(16*h.kind+h.flags).toNat%256:=by simp
 rw[this];omega
theorem qjwf{v:Int}{h:Hd}(hc:q9d8 v h=0):(((qytq h).toNat / 16:Nat):Int)=h.kind/\(((qytq h).toNat%16:Nat):Int)=h.flags:=by have h0:=q4c1 hc;rw[qri3] at hc;have h1:=q39c hc.2.1;have h2:=qo5i hc.2.2.1;omega
theorem qpsc{v:Int}{h:Hd}(hc:q9d8 v h=0):q1f7 (qytq h)=⟨h.kind,h.flags,0⟩:=by unfold q1f7;rw[(qjwf hc).1,(qjwf hc).2]
theorem qzlb{v:Int}{h:Hd}(hc:q9d8 v h=0)(t:List UInt8):qday v (rawH h++t)=(h,(rawH h).length,0):=by
 have hz:=qri3.1 hc;obtain⟨n,hn⟩:∃n:Nat,h.length=(n:Int):=⟨h.length.toNat,by omega⟩
 have hr:=qvwp n (by omega) t;have h1:=rd_of hr;simp only[if_true] at h1;have e1:rawH h++t=qytq h::(vb n (sz n)++t):=by unfold rawH;rw[hn];simp
 rw[e1,qr52,qpsc hc];have hlow:q9d8 v ⟨h.kind,h.flags,0⟩=0:=q8x8 (l:=h.length) hc;rw[if_neg (by rw[hlow];simp),h1.1,h1.2.1,h1.2.2,if_neg (by simp),(qjwf hc).1,(qjwf hc).2];have e2:(rawH h).length=1+sz n:=by unfold rawH;rw[hn,List.length_cons,q8sw];omega
 rw[e2,<-hn]
theorem ql6q{v:Int}{b:UInt8}{l:Int}(h:q9d8 v (q1f7 b)=0)(h0:0<=l)(h1:l<=268435455):q9d8 v ⟨(b.toNat / 16:Nat),(b.toNat%16:Nat),l⟩=0:=by rw[qri3] at h ⊢;exact⟨h.1,h.2.1,h.2.2.1,h0,h1⟩
theorem qdej(b:UInt8)(l:Int):qytq ⟨(b.toNat / 16:Nat),(b.toNat%16:Nat),l⟩=b:=by
 unfold qytq;have hb:=b.toNat_lt
 have:(16*((b.toNat / 16:Nat):Int)+((b.toNat%16:Nat):Int)).toNat=b.toNat:=by omega
 show UInt8.ofNat (16*((b.toNat / 16:Nat):Int)+((b.toNat%16:Nat):Int)).toNat=b;rw[this];simp
theorem qu5k{v:Int}{l:List UInt8}(h:(qday v l).2.2=0):q9d8 v (qday v l).1=0/\(qday v l).2.1<=l.length/\rawH (qday v l).1=l.take (qday v l).2.1:=by
 cases l with
 |nil=>rw[qwts] at h;split at h<;>simp at h
 |cons b r=>
  rw[qr52] at h ⊢;by_cases h1:q9d8 v (q1f7 b)≠0
  ·rw[if_pos h1] at h;exact absurd h h1
  rw[if_neg h1] at h ⊢;by_cases h2:rdE r≠0
  ·rw[if_pos h2] at h;exact absurd h h2
  rw[if_neg h2];have h1':q9d8 v (q1f7 b)=0:=Classical.byContradiction h1;have h2':rdE r=0:=Classical.byContradiction h2;have hst:(run 0 0 r).2.2=1:=by
   unfold rdE at h2';split at h2'
   ·cases h2'
   ·split at h2'
    ·assumption
    ·cases h2'
  have hv:rdV r=(run 0 0 r).1:=by unfold rdV;rw[if_pos hst]
  have hn:rdN r=(run 0 0 r).2.1:=by unfold rdN;rw[if_pos hst]
  obtain⟨b1,b2,b3,b4⟩:=qvpf r (run 0 0 r).1 (run 0 0 r).2.1 (by rw[<-hst]);rw[hv,hn];refine⟨ql6q h1' (by omega) (by omega),by simp only[List.length_cons];omega,?_⟩;simp only[rawH,qdej];rw[Int.toNat_natCast,<-b2,<-b4,Nat.add_comm 1,List.take_succ_cons]
def q0xk(dup:Bool)(qos:Int):Bool:=decide (0<=qos)&&decide (qos<=2)&&!(dup&&qos==0)
def qgl0(dup retain:Bool)(qos:Int):Int:=2*qos+(if dup then 8 else 0)+if retain then 1 else 0
def qjyu(v k:Int)(dup retain:Bool)(qos:Int):Int×Nat:=
 if verH v=false then(0,2) else if qbe2 v k=false then(0,8) else
 if k=6\/k=8\/k=10 then(2,0) else if k=3 then(if q0xk dup qos then(qgl0 dup retain qos,0) else(0,7)) else(0,0)
theorem qhp2{v k:Int}{dup retain:Bool}{qos:Int}(h:(qjyu v k dup retain qos).2=0):verH v=true/\qbe2 v k=true/\qg3k k (qjyu v k dup retain qos).1=true:=by
 unfold qjyu at h ⊢;cases h1:verH v
 ·rw[h1] at h;simp at h
 cases h2:qbe2 v k
 ·rw[h1,h2] at h;simp at h
 rw[h1,h2] at h;simp only[Bool.true_eq_false,if_false] at h ⊢;refine⟨trivial,trivial,?_⟩;by_cases h3:k=6\/k=8\/k=10
 ·rw[if_pos h3];unfold qg3k;rw[if_neg (by omega),if_pos h3];rfl
 rw[if_neg h3] at h ⊢;by_cases h4:k=3
 ·rw[if_pos h4] at h ⊢;cases h5:q0xk dup qos
  ·rw[h5] at h;simp at h
  unfold qg3k;rw[if_pos h4,if_pos rfl,decide_eq_true_eq];unfold q0xk at h5;simp only[Bool.and_eq_true,decide_eq_true_eq,Bool.not_eq_true'] at h5;obtain⟨⟨q0,q2⟩,h6⟩:=h5;unfold qgl0;cases dup<;>cases retain<;>simp at h6 ⊢<;>omega
 ·rw[if_neg h4];unfold qg3k;rw[if_neg h4,if_neg h3];rfl
theorem q25l{v k f:Int}{dup retain:Bool}{qos:Int}(h:(qjyu v k dup retain qos).2=0)(hk:k≠3):qg3k k f=(f==(qjyu v k dup retain qos).1):=by
 have hf:=qhp2 h;unfold qjyu at h ⊢;rw[hf.1,hf.2.1] at h ⊢;simp only[Bool.true_eq_false,if_false] at h ⊢;unfold qg3k;rw[if_neg hk];by_cases h3:k=6\/k=8\/k=10
 ·rw[if_pos h3,if_pos h3]
 ·rw[if_neg h3,if_neg h3,if_neg hk]
structure Pr where
 id:Int
 n:Nat
 text:List UInt8
 value:List UInt8
deriving DecidableEq
structure Fi where
 topic:List UInt8
 qos:Int
 noLocal:Bool
 asPub:Bool
 handling:Int
deriving DecidableEq
structure Pk where
 kind:Int
 dup:Bool
 retain:Bool
 qos:Int
 id:Int
 topic:List UInt8
 payload:List UInt8
 clean:Bool
 keep:Int
 client:List UInt8
 hasUser:Bool
 user:List UInt8
 hasPass:Bool
 pass:List UInt8
 hasWill:Bool
 wTopic:List UInt8
 wPayload:List UInt8
 wQos:Int
 wRetain:Bool
 wProps:List Pr
 session:Bool
 code:Int
 codes:List Int
 filters:List Fi
 props:List Pr
deriving DecidableEq
def Pk.nums(p:Pk):List Int:=[p.kind,p.qos,p.id,p.keep,p.code,p.wQos]
def Pk.marks(p:Pk):List Bool:=[p.dup,p.retain,p.clean,p.hasUser,p.hasPass,p.hasWill,p.session,p.wRetain]
def Pk.texts(p:Pk):List (List UInt8):=[p.topic,p.payload,p.client,p.user,p.pass,p.wTopic,p.wPayload]
theorem qpgn(p q:Pk):p=q↔p.nums=q.nums/\p.marks=q.marks/\p.texts=q.texts/\p.codes=q.codes/\p.filters=q.filters/\p.props=q.props/\p.wProps=q.wProps:=by
 constructor
 ·rintro rfl;exact⟨rfl,rfl,rfl,rfl,rfl,rfl,rfl⟩
 ·obtain⟨⟩:=p;obtain⟨⟩:=q;rintro⟨h1,h2,h3,h4,h5,h6,h7⟩;simp only[Pk.nums,Pk.marks,Pk.texts,List.cons.injEq,and_true] at h1 h2 h3;simp only at h4 h5 h6 h7;obtain⟨rfl,rfl,rfl,rfl,rfl,rfl⟩:=h1;obtain⟨rfl,rfl,rfl,rfl,rfl,rfl,rfl,rfl⟩:=h2;obtain⟨rfl,rfl,rfl,rfl,rfl,rfl,rfl⟩:=h3;subst h4 h5 h6 h7
  rfl
def Pk.zero:Pk:=⟨0,false,false,0,0,[],[],false,0,[],false,[],false,[],false,[],[],0,false,[],false,0,[],[],[]⟩
def q21o(p:Pk):Prop:=p.codes.length<=70000/\p.filters.length<=70000/\p.props.length<=70000/\p.wProps.length<=70000
def okc(c:Nat):Prop:=0<c/\(c<55296\/(57344<=c/\c<=1114111))
def cb(c:Nat):List UInt8:=
 if c<128 then [UInt8.ofNat c]
 else if c<2048 then [UInt8.ofNat (192+c / 64),UInt8.ofNat (128+c%64)]
 else if c<65536 then [UInt8.ofNat (224+c / 4096),UInt8.ofNat (128+c / 64%64),UInt8.ofNat (128+c%64)]
 else [UInt8.ofNat (240+c / 262144),UInt8.ofNat (128+c / 4096%64),UInt8.ofNat (128+c / 64%64),UInt8.ofNat (128+c%64)]
theorem qpx1(c:Nat):Utf8.valid (c:Int)=true↔c<55296\/(57344<=c/\c<=1114111):=by unfold Utf8.valid;simp only[Bool.or_eq_true,Bool.and_eq_true,decide_eq_true_eq];omega
theorem qe4n{c:Nat}(h:okc c):Utf8.valid (c:Int)=true:=(qpx1 c).2 h.2
def dl(l:List UInt8):Nat×Nat:=
 let at' (k:Nat):Nat:=(l.getD k 0).toNat
 let cont (k:Nat):Bool:=k<l.length&&at' k / 64==2
 let b0:=at' 0
 if b0<128 then(b0,1)
 else if b0 / 32==6&&cont 1 then
  let c:=(b0%32)*64+at' 1%64
  if c≥128 then(c,2) else(65533,1)
 else if b0 / 16==14&&cont 1&&cont 2 then
  let c:=(b0%16)*4096+(at' 1%64)*64+at' 2%64
  if c≥2048&&Utf8.valid c then(c,3) else(65533,1)
 else if b0 / 8==30&&cont 1&&cont 2&&cont 3 then
  let c:=(b0%8)*262144+(at' 1%64)*4096+(at' 2%64)*64+at' 3%64
  if c≥65536&&Utf8.valid c then(c,4) else(65533,1)
 else(65533,1)
theorem qiqk(s:ByteArray)(i k:Nat):s.get! (i+k)=(s.data.toList.drop i).getD k 0:=by
 rw[ByteArray.get!,List.getD_eq_getElem?_getD,List.getElem?_drop,Array.getElem!_eq_getD,Array.getD_eq_getD_getElem?];simp
 rfl
theorem q4qv(s:ByteArray)(i k:Nat):(i+k<s.size)=(k<(s.data.toList.drop i).length):=by
 have:s.size=s.data.toList.length:=by simp
 rw[this,List.length_drop];apply propext;omega
theorem qf0g(s:ByteArray)(i:Nat):Utf8.decode s i=dl (s.data.toList.drop i):=by
 unfold Utf8.decode dl;simp only[qiqk,q4qv]
 rfl
def hd(l:List UInt8):Option Nat:=if l=[]\/(dl l).1=0\/((dl l).1=65533/\(dl l).2=1) then none else some (dl l).1
theorem n8{n:Nat}(h:n<256):(UInt8.ofNat n).toNat=n:=by rw[UInt8.toNat_ofNat'];omega
theorem b8(b:UInt8){n:Nat}(h:b.toNat=n):UInt8.ofNat n=b:=by subst h;simp
theorem qyly{c:Nat}(h:okc c)(l:List UInt8):dl (cb c++l)=(c,(cb c).length):=by
 have hv:=qe4n h;obtain⟨h0,h1⟩:=h;unfold cb;split
 ·rename_i h2;simp[dl,n8 (show c<256 by omega),h2]
 ·split
  ·rename_i h2 h3;have e0:=n8 (show 192+c / 64<256 by omega);have e1:=n8 (show 128+c%64<256 by omega);simp only[dl,List.cons_append,List.nil_append,List.getD_cons_zero,List.getD_cons_succ,e0,e1];rw[if_neg (by omega),if_pos (by simp;omega),if_pos (by omega)];simp;omega
  ·split
   ·rename_i h2 h3 h4;have e0:=n8 (show 224+c / 4096<256 by omega);have e1:=n8 (show 128+c / 64%64<256 by omega);have e2:=n8 (show 128+c%64<256 by omega);have ec:(224+c / 4096)%16*4096+(128+c / 64%64)%64*64+(128+c%64)%64=c:=by omega
    simp only[dl,List.cons_append,List.nil_append,List.getD_cons_zero,List.getD_cons_succ,e0,e1,e2,ec];rw[if_neg (by omega),if_neg (by simp;omega),if_pos (by simp;omega),if_pos (by simp[hv];omega)];simp
   ·rename_i h2 h3 h4;have e0:=n8 (show 240+c / 262144<256 by omega);have e1:=n8 (show 128+c / 4096%64<256 by omega);have e2:=n8 (show 128+c / 64%64<256 by omega);have e3:=n8 (show 128+c%64<256 by omega);have ec:(240+c / 262144)%8*262144+(128+c / 4096%64)%64*4096+(128+c / 64%64)%64*64+(128+c%64)%64=c:=by omega
    simp only[dl,List.cons_append,List.nil_append,List.getD_cons_zero,List.getD_cons_succ,e0,e1,e2,e3,ec];rw[if_neg (by omega),if_neg (by simp;omega),if_neg (by simp;omega),if_pos (by simp;omega),if_pos (by simp[hv];omega)];simp
theorem qp6t(c:Nat):0<(cb c).length:=by unfold cb;split<;>(try split)<;>(try split)<;>simp
theorem qqv9(c:Nat):(cb c).length=if c<128 then 1 else if c<2048 then 2 else if c<65536 then 3 else 4:=by unfold cb;split<;>(try split)<;>(try split)<;>simp
theorem q3q9(c:Nat)(l:List UInt8):cb c++l≠[]:=by
 have:=qp6t c
 intro h
 have:(cb c++l).length=0:=by rw[h];rfl
 simp at this;simp[this] at *
theorem qwug{c:Nat}(h:okc c)(l:List UInt8):hd (cb c++l)=some c:=by
 unfold hd;rw[qyly h,if_neg];rintro(e|e|⟨e,e2⟩)
 ·exact q3q9 c l e
 ·have:=h.1;simp at e;omega
 ·simp at e e2;subst e;simp[qqv9] at e2
theorem qp9j(l:List UInt8)(hl:l≠[]):dl l=(65533,1)\/(dl l).1=0\/(okc (dl l).1/\(dl l).2=(cb (dl l).1).length/\∃r,l=cb (dl l).1++r):=by
 unfold dl;simp only[];obtain⟨b0,l0,rfl⟩:=List.exists_cons_of_ne_nil hl;have h0:=b0.toNat_lt;simp only[List.getD_cons_zero,List.getD_cons_succ,List.length_cons];split
 ·rename_i hb;by_cases hz:b0.toNat=0
  ·exact .inr (.inl hz)
  ·refine .inr (.inr ⟨⟨by omega,by omega⟩,?_,l0,?_⟩)
   ·simp[cb,hb]
   ·simp[cb,hb]
 ·split
  ·rename_i hb hc;rcases l0 with _|⟨b1,l1⟩
   ·simp at hc
   simp at hc;have h1:=b1.toNat_lt;simp only[List.getD_cons_zero];split
   ·rename_i hd;have hk:¬b0.toNat%32*64+b1.toNat%64<128:=by omega
    have hk2:b0.toNat%32*64+b1.toNat%64<2048:=by omega
    refine .inr (.inr ⟨⟨by simp;omega,by simp;omega⟩,?_,l1,?_⟩)
    ·simp[cb,hk,hk2]
    ·simp only[cb,hk,hk2,if_true,if_false];rw[b8 b0 (by omega),b8 b1 (by omega)]
     rfl
   ·exact .inl rfl
  ·split
   ·rename_i hb hb2 hc;rcases l0 with _|⟨b1,_|⟨b2,l2⟩⟩
    ·simp at hc
    ·simp at hc
    simp at hc;have h1:=b1.toNat_lt;have h2:=b2.toNat_lt;simp only[List.getD_cons_zero,List.getD_cons_succ];split
    ·rename_i hd;simp only[Bool.and_eq_true,decide_eq_true_eq,qpx1] at hd;generalize hC:b0.toNat%16*4096+b1.toNat%64*64+b2.toNat%64=C at hd;have hk:¬C<128:=by omega
     have hk2:¬C<2048:=by omega
     have hk3:C<65536:=by omega
     refine .inr (.inr ⟨⟨by simp;omega,hd.2⟩,?_,l2,?_⟩)
     ·simp[cb,hk,hk2,hk3]
     ·simp only[cb,hk,hk2,hk3,if_false];rw[b8 b0 (by omega),b8 b1 (by omega),b8 b2 (by omega)]
      rfl
    ·exact .inl rfl
   ·split
    ·rename_i hb hb2 hb3 hc;rcases l0 with _|⟨b1,_|⟨b2,_|⟨b3,l3⟩⟩⟩
     ·simp at hc
     ·simp at hc
     ·simp at hc
     simp at hc;have h1:=b1.toNat_lt;have h2:=b2.toNat_lt;have h3:=b3.toNat_lt;simp only[List.getD_cons_zero,List.getD_cons_succ];split
     ·rename_i hd;simp only[Bool.and_eq_true,decide_eq_true_eq,qpx1] at hd;generalize hC:b0.toNat%8*262144+b1.toNat%64*4096+b2.toNat%64*64+b3.toNat%64=C at hd;have hk:¬C<128:=by omega
      have hk2:¬C<2048:=by omega
      have hk3:¬C<65536:=by omega
      refine .inr (.inr ⟨⟨by simp;omega,hd.2⟩,?_,l3,?_⟩)
      ·simp[cb,hk,hk2,hk3]
      ·simp only[cb,hk,hk2,hk3,if_false];rw[b8 b0 (by omega),b8 b1 (by omega),b8 b2 (by omega),b8 b3 (by omega)]
       rfl
     ·exact .inl rfl
    ·exact .inl rfl
theorem qsz3{l:List UInt8}{c:Nat}(h:hd l=some c):okc c/\∃r,l=cb c++r:=by
 unfold hd at h;split at h
 ·cases h
 ·rename_i hn;have e:(dl l).1=c:=by simpa using h
  have hne:l≠[]:=fun e=>hn (.inl e);rcases qp9j l hne with h1|h1|⟨h1,_,h2⟩
  ·exact absurd (.inr (.inr (by rw[h1];exact⟨rfl,rfl⟩))) hn
  ·exact absurd (.inr (.inl h1)) hn
  ·rw[e] at h1 h2;exact⟨h1,h2⟩
theorem q51d{l:List UInt8}(hl:l≠[])(h:hd l=none):dl l=(65533,1)\/(dl l).1=0:=by
 rcases qp9j l hl with h1|h1|⟨h1,h2,h3,h4⟩
 ·exact .inl h1
 ·exact .inr h1
 ·generalize (dl l).1=c at h1 h4;subst h4;rw[qwug h1] at h;cases h
def pts(l:List UInt8):List Nat:=
 match _h:hd l with
 |none=>[]
 |some c=>c::pts (l.drop (cb c).length)
termination_by l.length
decreasing_by
 obtain⟨_,r,rfl⟩:=qsz3 _h
 have:=qp6t c
 simp;omega
def cbs(cs:List Nat):List UInt8:=cs.flatMap cb
def oks(cs:List Nat):Prop:=∀c∈cs,okc c
theorem qbw4:cbs []=[]:=rfl
theorem q7su(c:Nat)(cs:List Nat):cbs (c::cs)=cb c++cbs cs:=rfl
theorem q5g4(a b:List Nat):cbs (a++b)=cbs a++cbs b:=by simp[cbs]
theorem q6ts(a:List Nat)(c:Nat):cbs (a++[c])=cbs a++cb c:=by simp[cbs]
theorem qvel{l:List UInt8}(h:hd l=none):pts l=[]:=by
 rw[pts];split
 ·rfl
 ·rename_i c hc;rw[h] at hc;cases hc
theorem qqzy{c:Nat}(h:okc c)(l:List UInt8):pts (cb c++l)=c::pts l:=by
 rw[pts];have e:=qwug h l;split
 ·rename_i hc;rw[e] at hc;cases hc
 ·rename_i c' hc;rw[e] at hc;obtain rfl:c=c':=by simpa using hc
  simp
theorem q2qr:hd []=none:=by simp[hd]
theorem qahv:pts []=[]:=qvel q2qr
theorem q2hb:∀(n:Nat) (l:List UInt8),l.length<=n->oks (pts l)/\∃r,l=cbs (pts l)++r/\hd r=none
 |0,l,h=>by obtain rfl:l=[]:=List.eq_nil_of_length_eq_zero (by omega);rw[qahv];exact⟨by simp[oks],[],rfl,q2qr⟩
 |n+1,l,h=>by
  cases hc:hd l with
  |none=>rw[qvel hc];exact⟨by simp[oks],l,rfl,hc⟩
  |some c=>
   obtain⟨ho,r,rfl⟩:=qsz3 hc
   have:=qp6t c
   rw[qqzy ho];obtain⟨h1,r2,h2,h3⟩:=q2hb n r (by simp at h;omega);refine⟨fun d hd=>(List.mem_cons.1 hd).elim (fun e=>e▸ho) (h1 d),r2,?_,h3⟩;rw[q7su,List.append_assoc,<-h2]
theorem qiv7(l:List UInt8):oks (pts l):=(q2hb _ l (Nat.le_refl _)).1
theorem q454(l:List UInt8):∃r,l=cbs (pts l)++r/\hd r=none:=(q2hb _ l (Nat.le_refl _)).2
def fin(l:List UInt8):Nat:=(cbs (pts l)).length
theorem q1um(l:List UInt8):fin l<=l.length:=by
 obtain⟨r,h,_⟩:=q454 l;unfold fin
 have:=congrArg List.length h
 simp at this;omega
def qpht(l:List UInt8):Int:=if fin l<l.length then(fin l:Int) else -1
def qecx(l:List UInt8):Bool:=decide (l.length<=65535)&&decide (qpht l<0)
theorem qbv6(l:List UInt8):qecx l=true↔l.length<=65535/\fin l=l.length:=by
 unfold qecx qpht
 have:=q1um l
 simp only[Bool.and_eq_true,decide_eq_true_eq];constructor
 ·rintro⟨h1,h2⟩;refine⟨h1,?_⟩;split at h2<;>omega
 ·rintro⟨h1,h2⟩;refine⟨h1,?_⟩;rw[if_neg (by omega)];omega
def marks(p:Nat):List Nat->List (Nat×Nat)
 |[]=>[]
 |c::cs=>(p,c)::marks (p+(cb c).length) cs
theorem qx0j(cs:List Nat):∀p,(marks p cs).length=cs.length:=by
 induction cs with
 |nil=>intro p;rfl
 |cons c cs ih=>intro p;simp[marks,ih]
theorem qfk7(a b:List Nat):∀p,marks p (a++b)=marks p a++marks (p+(cbs a).length) b:=by
 induction a with
 |nil=>intro p;simp[marks,cbs]
 |cons c a ih=>intro p;rw[q7su,List.length_append,List.cons_append,marks,ih,marks,List.cons_append,Nat.add_assoc]
theorem qwxc(a:List Nat)(c:Nat):marks 0 (a++[c])=marks 0 a++[((cbs a).length,c)]:=by rw[qfk7];simp[marks]
end Go.Proofs.YtlhkgidoaggodaaGreatDoor
