/- Plain facts: the bytes of a number and the number of bytes, the highest first: each undoes the other. No condition. -/
import Derived.Lib.Hide
import Derived.Test.YtbklidpadffpgaaK07
namespace Go.Proofs.Ytbklidpadffpgaa
def be(n:Nat):Nat→List UInt8
 | 0=>[]
 | c+1=>be (n / 256) c++[UInt8.ofNat n]
theorem q0rl(c:Nat):∀n,(be n c).length=c:=by
 induction c with
 | zero=>intro n;rfl
 | succ c ih=>intro n;simp[be,ih]
theorem qxkn(n c k:Nat)(hk:k < c):be (n / 256^(c - (k+1))) (k+1)=be (n / 256^(c - k)) k++[UInt8.ofNat (n / 256^(c - (k+1)))]:=by
 have e:c - k=(c - (k+1))+1:=by omega
 rw[be,e,Nat.pow_succ,Nat.div_div_eq_div_mul]
def num(l:List UInt8):Nat:=l.foldl (fun a b=>a*256+b.toNat) 0
def enc2(l:List UInt8):List UInt8:=be l.length 2++l
theorem qnp6(l:List UInt8):(enc2 l).length=l.length+2:=by simp[enc2,q0rl];omega
def rdB(l:List UInt8):List UInt8×Nat×Nat:=
 if 2≤l.length∧2+num (l.take 2)≤l.length then((l.drop 2).take (num (l.take 2)),2+num (l.take 2),0) else([],0,3)
def rdT(l:List UInt8):List UInt8×Nat×Nat:=
 if (rdB l).2.2≠0 then([],0,3) else if qecx (rdB l).1 then rdB l else([],0,6)
def nxt(b:UInt8)(n:Nat):Nat:=if 128≤b.toNat then(if n=4 then 2 else 0) else if b.toNat=0∧1 < n then 2 else 1
def grow(v n:Nat)(b:UInt8):Nat:=v+b.toNat%128*128^n
def run(v n:Nat):List UInt8→Nat×Nat×Nat
 | []=>(v,n,0)
 | b::l=>if nxt b (n+1)=0 then run (grow v n b) (n+1) l else(grow v n b,n+1,nxt b (n+1))
def rdV(l:List UInt8):Nat:=if (run 0 0 l).2.2=1 then(run 0 0 l).1 else 0
def rdN(l:List UInt8):Nat:=if (run 0 0 l).2.2=1 then(run 0 0 l).2.1 else 0
def rdE(l:List UInt8):Nat:=if (run 0 0 l).2.2=0 then 3 else if (run 0 0 l).2.2=1 then 0 else 5
def sz(n:Int):Nat:=if n < 0∨268435455 < n then 0 else if n < 128 then 1 else if n < 16384 then 2 else if n < 2097152 then 3 else 4
def byt(n c i:Nat):UInt8:=UInt8.ofNat (n / 128^i%128+if i+1 < c then 128 else 0)
def vb(n c:Nat):List UInt8:=(List.range c).map (byt n c)
theorem q8sw(n c:Nat):(vb n c).length=c:=by simp[vb]
theorem qa5k(n c i:Nat):(byt n c i).toNat=n / 128^i%128+if i+1 < c then 128 else 0:=by
 unfold byt
 have:n / 128^i%128 < 128:=Nat.mod_lt _ (by decide)
 simp only[UInt8.toNat_ofNat']
 split<;>omega
theorem qnl4(n:Nat)(h:n≤268435455):(sz n=1∧n < 128)∨(sz n=2∧128≤n∧n < 16384)∨(sz n=3∧16384≤n∧n < 2097152)∨(sz n=4∧2097152≤n):=by
 unfold sz;split
 ·omega
 ·split
  ·omega
  ·split
   ·omega
   ·split<;>omega
theorem qbck{n:Int}:sz n=0↔n < 0∨268435455 < n:=by
 unfold sz;split
 ·simp[*]
 ·split
  ·simp[*]
  ·split
   ·simp[*]
   ·split<;>simp[*]
def okl:List (List UInt8)→Prop
 | []=>True
 | l::ls=>((43:UInt8)∈l→l=[43])∧((35:UInt8)∈l→l=[35]∧ls=[])∧okl ls
instance okl_dec:(ls:List (List UInt8))→Decidable (okl ls)
 | []=>isTrue trivial
 | l::ls=>by
  have:=okl_dec ls
  unfold okl
  infer_instance
def q95c(s:List UInt8):Bool:=decide (s≠[])&&qecx s&&decide ((43:UInt8)∉s)&&decide ((35:UInt8)∉s)
end Go.Proofs.Ytbklidpadffpgaa
