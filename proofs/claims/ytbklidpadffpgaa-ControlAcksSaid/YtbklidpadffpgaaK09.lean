/- Plain facts on lists of properties: which are as they should be, their bytes, and what is read of bytes: each undoes the other. No condition. -/
import Derived.Below
import Derived.Test.YtbklidpadffpgaaK08
namespace Go.Proofs.Ytbklidpadffpgaa
def hasP(l:List Pr)(id:Int):Bool:=l.any fun p=>p.id==id
def qxv1(kind:Int)(l:List Pr)(id:Int):Bool:=hasP l id&&!quux kind id
def qwyx(l:List Pr):Bool:=hasP l 22&&!hasP l 21
def oneP(p:Pr):List UInt8:=UInt8.ofNat p.id.toNat::qgdb p
def q636(l:List Pr):List UInt8:=l.flatMap oneP
def q09m(kind:Int):List Pr→List Pr→Nat
 | _,[]=>0
 | pre,p::l=>if qr4y kind p≠0 then qr4y kind p else if qxv1 kind pre p.id then 9 else q09m kind (pre++[p]) l
def qpyu(kind:Int)(l:List Pr):Nat:=
 if 1000 < l.length then 4 else if q09m kind [] l≠0 then q09m kind [] l else if qwyx l then 9 else if 268435455 < (q636 l).length then 4 else 0
def q5aq(kind:Int)(l:List Pr):List UInt8×Nat:=
 if qpyu kind l≠0 then([],qpyu kind l) else(vb (q636 l).length (sz (q636 l).length)++q636 l,0)
def qwdr(kind:Int):Nat→List Pr→List UInt8→List Pr×Nat
 | 0,out,_=>(out,0)
 | f+1,out,s=>match s with
  | []=>(out,0)
  | b::r=>
   if mayP kind b.toNat=false then([],9)
   else if (qij7 b.toNat r).2.2≠0 then([],(qij7 b.toNat r).2.2)
   else if qr4y kind (qij7 b.toNat r).1≠0 then([],qr4y kind (qij7 b.toNat r).1)
   else if qxv1 kind out b.toNat then([],9)
   else if 1000≤out.length then([],4)
   else qwdr kind f (out++[(qij7 b.toNat r).1]) (r.drop (qij7 b.toNat r).2.1)
def qflw(kind:Int)(s:List UInt8):List Pr×Nat×Nat:=
 if rdE s≠0 then([],0,rdE s)
 else if s.length < rdN s+rdV s then([],0,3)
 else if (qwdr kind (rdV s) [] ((s.drop (rdN s)).take (rdV s))).2≠0 then([],0,(qwdr kind (rdV s) [] ((s.drop (rdN s)).take (rdV s))).2)
 else if qwyx (qwdr kind (rdV s) [] ((s.drop (rdN s)).take (rdV s))).1 then([],0,9)
 else((qwdr kind (rdV s) [] ((s.drop (rdN s)).take (rdV s))).1,rdN s+rdV s,0)
theorem qodo:q636 []=[]:=rfl
theorem qhx5(p:Pr)(l:List Pr):q636 (p::l)=oneP p++q636 l:=rfl
theorem qd67(a b:List Pr):q636 (a++b)=q636 a++q636 b:=by simp[q636]
theorem qnrl(p:Pr):(oneP p).length=(qgdb p).length+1:=rfl
theorem qpfx{kind:Int}{l:List Pr}(h:qpyu kind l=0):l.length≤1000∧q09m kind [] l=0∧qwyx l=false∧(q636 l).length≤268435455:=by
 unfold qpyu at h
 split at h
 ·cases h
 ·split at h
  ·rename_i h2;exact absurd h h2
  ·split at h
   ·cases h
   ·split at h
    ·cases h
    ·refine⟨by omega,by simp_all,by simp_all,by omega⟩
structure W4 where
 a:Nat
 b:Nat
 c:Nat
 d:Nat
def setc(s:W4)(n:Nat):W4:=
 if n < 64 then {s with a:=s.a ||| 2^(n%64)} else if n < 128 then {s with b:=s.b ||| 2^(n%64)} else if n < 192 then {s with c:=s.c ||| 2^(n%64)} else {s with d:=s.d ||| 2^(n%64)}
def addR(s:W4)(f:Nat):Nat→W4
 | 0=>s
 | n+1=>setc (addR s f n) (f+n)
def ofL(l:List Nat):W4:=l.foldl setc ⟨0,0,0,0⟩
def word(s:W4)(n:Nat):Nat:=if n < 64 then s.a else if n < 128 then s.b else if n < 192 then s.c else s.d
def hasW(s:W4)(n:Nat):Bool:=decide (n < 256)&&(word s n / 2^(n%64)%2==1)
structure OkW(s:W4):Prop where
 a:s.a < 18446744073709551616
 b:s.b < 18446744073709551616
 c:s.c < 18446744073709551616
 d:s.d < 18446744073709551616
theorem or_lt{x n:Nat}(hx:x < 18446744073709551616)(hn:n < 64):x ||| 2^n < 18446744073709551616:=
 Nat.or_lt_two_pow (n:=64) hx (Nat.pow_lt_pow_right (by decide) hn)
theorem OkW.setc{s:W4}(h:OkW s)(n:Nat):OkW (setc s n):=by
 have hn:n%64 < 64:=Nat.mod_lt _ (by decide)
 unfold Proofs.Ytbklidpadffpgaa.setc
 split
 ·exact⟨or_lt h.a hn,h.b,h.c,h.d⟩
 split
 ·exact⟨h.a,or_lt h.b hn,h.c,h.d⟩
 split
 ·exact⟨h.a,h.b,or_lt h.c hn,h.d⟩
 ·exact⟨h.a,h.b,h.c,or_lt h.d hn⟩
theorem OkW.addR{s:W4}(h:OkW s)(f:Nat):∀n,OkW (addR s f n)
 | 0=>h
 | n+1=>(OkW.addR h f n).setc _
theorem q4il:∀(l:List Nat) (s:W4),OkW s→OkW (l.foldl setc s)
 | [],_,h=>h
 | n::l,_,h=>q4il l _ (h.setc n)
theorem OkW.ofL(l:List Nat):OkW (ofL l):=q4il l _ ⟨by decide,by decide,by decide,by decide⟩
def grp(kind:Int):Nat:=
 if kind=2 then 1 else if kind=4∨kind=5 then 2 else if kind=6∨kind=7 then 3 else if kind=9 then 4 else if kind=11 then 5 else if kind=14 then 6 else if kind=15 then 7 else 0
def qedv:Nat→List Nat
 | 1=>[0,128,129,130,131,132,133,134,135,136,137,138,140,144,149,151,153,154,155,156,157,159]
 | 2=>[0,16,128,131,135,144,145,151,153]
 | 3=>[0,146]
 | 4=>[0,1,2,128,131,135,143,145,151,158,161,162]
 | 5=>[0,17,128,131,135,143,145]
 | 6=>[0,4,128,129,130,131,135,137,139,141,142,143,144,147,148,149,150,151,152,153,154,155,156,157,158,159,160,161,162]
 | 7=>[0,24,25]
 | _=>[]
def q71c:Nat→W4
 | 1=>addR (addR (ofL [0,140,144,149,151,159]) 128 11) 153 5
 | 2=>ofL [0,16,128,131,135,144,145,151,153]
 | 3=>ofL [0,146]
 | 4=>ofL [0,1,2,128,131,135,143,145,151,158,161,162]
 | 5=>ofL [0,17,128,131,135,143,145]
 | 6=>addR (addR (ofL [0,4,135,137,139,141,142,143,144]) 128 4) 147 16
 | 7=>ofL [0,24,25]
 | _=>⟨0,0,0,0⟩
theorem qljz(kind:Int):grp kind < 8:=by
 unfold grp
 repeat' (first | decide | split)
theorem qjuf:∀g,OkW (q71c g)
 | 0=>⟨by decide,by decide,by decide,by decide⟩
 | 1=>((OkW.ofL _).addR _ _).addR _ _
 | 2=>OkW.ofL _
 | 3=>OkW.ofL _
 | 4=>OkW.ofL _
 | 5=>OkW.ofL _
 | 6=>((OkW.ofL _).addR _ _).addR _ _
 | 7=>OkW.ofL _
 | n+8=>show OkW ⟨0,0,0,0⟩ from⟨by decide,by decide,by decide,by decide⟩
theorem qy5i:∀g < 8,∀n < 256,hasW (q71c g) n=(qedv g).contains n:=by decide+kernel
theorem q5yb:∀g < 8,∀n∈qedv g,n < 163:=by decide+kernel
theorem qi9u(kind:Int)(n:Nat):hasW (q71c (grp kind)) n=(qedv (grp kind)).contains n:=by
 by_cases hn:n < 256
 ·exact qy5i _ (qljz kind) n hn
 ·have h1:(qedv (grp kind)).contains n=false:=by
   rw[Bool.eq_false_iff]
   intro h
   have:=q5yb _ (qljz kind) n (List.contains_iff_mem.1 h)
   omega
  rw[h1]
  unfold hasW
  simp[hn]
def mayR(kind code:Int):Bool:=decide (0≤code)&&(qedv (grp kind)).contains code.toNat
end Go.Proofs.Ytbklidpadffpgaa
