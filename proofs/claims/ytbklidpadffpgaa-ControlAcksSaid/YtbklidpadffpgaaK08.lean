/- Plain facts: the bytes of a number and the number of bytes, the highest first: each undoes the other. No condition. -/
import Derived.Lib.Hide
import Derived.Test.YtbklidpadffpgaaK07
import Derived.Test.YtbklidpadffpgaaK04
namespace Go.Proofs.Ytbklidpadffpgaa
def be(n:Nat):Nat→List UInt8
 | 0=>[]
 | c+1=>be (n / 256) c++[UInt8.ofNat n]
theorem q0rl(c:Nat):∀n,(be n c).length=c:=by
 induction c with
 | zero=>intro n;rfl
 | succ c ih=>intro n;simp[be,ih]
theorem qxkn(n c k:Nat)(hk:k < c):be (n / 256^(c - (k+1))) (k+1)=be (n / 256^(c - k)) k++[UInt8.ofNat (n / 256^(c - (k+1)))]:=by
 have e:c - k=(c - (k+1))+1:=by omega
 rw[be,e,Nat.pow_succ,Nat.div_div_eq_div_mul]
def num(l:List UInt8):Nat:=l.foldl (fun a b=>a*256+b.toNat) 0
def enc2(l:List UInt8):List UInt8:=be l.length 2++l
theorem qnp6(l:List UInt8):(enc2 l).length=l.length+2:=by simp[enc2,q0rl];omega
def rdB(l:List UInt8):List UInt8×Nat×Nat:=
 if 2≤l.length∧2+num (l.take 2)≤l.length then((l.drop 2).take (num (l.take 2)),2+num (l.take 2),0) else([],0,3)
def rdT(l:List UInt8):List UInt8×Nat×Nat:=
 if (rdB l).2.2≠0 then([],0,3) else if qecx (rdB l).1 then rdB l else([],0,6)
def nxt(b:UInt8)(n:Nat):Nat:=if 128≤b.toNat then(if n=4 then 2 else 0) else if b.toNat=0∧1 < n then 2 else 1
def grow(v n:Nat)(b:UInt8):Nat:=v+b.toNat%128*128^n
def run(v n:Nat):List UInt8→Nat×Nat×Nat
 | []=>(v,n,0)
 | b::l=>if nxt b (n+1)=0 then run (grow v n b) (n+1) l else(grow v n b,n+1,nxt b (n+1))
def rdV(l:List UInt8):Nat:=if (run 0 0 l).2.2=1 then(run 0 0 l).1 else 0
def rdN(l:List UInt8):Nat:=if (run 0 0 l).2.2=1 then(run 0 0 l).2.1 else 0
def rdE(l:List UInt8):Nat:=if (run 0 0 l).2.2=0 then 3 else if (run 0 0 l).2.2=1 then 0 else 5
def sz(n:Int):Nat:=if n < 0∨268435455 < n then 0 else if n < 128 then 1 else if n < 16384 then 2 else if n < 2097152 then 3 else 4
def byt(n c i:Nat):UInt8:=UInt8.ofNat (n / 128^i%128+if i+1 < c then 128 else 0)
def vb(n c:Nat):List UInt8:=(List.range c).map (byt n c)
theorem q8sw(n c:Nat):(vb n c).length=c:=by simp[vb]
theorem qa5k(n c i:Nat):(byt n c i).toNat=n / 128^i%128+if i+1 < c then 128 else 0:=by
 unfold byt
 have:n / 128^i%128 < 128:=Nat.mod_lt _ (by decide)
 simp only[UInt8.toNat_ofNat']
 split<;>omega
theorem qnl4(n:Nat)(h:n≤268435455):(sz n=1∧n < 128)∨(sz n=2∧128≤n∧n < 16384)∨(sz n=3∧16384≤n∧n < 2097152)∨(sz n=4∧2097152≤n):=by
 unfold sz;split
 ·omega
 ·split
  ·omega
  ·split
   ·omega
   ·split<;>omega
theorem qbck{n:Int}:sz n=0↔n < 0∨268435455 < n:=by
 unfold sz;split
 ·simp[*]
 ·split
  ·simp[*]
  ·split
   ·simp[*]
   ·split<;>simp[*]
def okl:List (List UInt8)→Prop
 | []=>True
 | l::ls=>((43:UInt8)∈l→l=[43])∧((35:UInt8)∈l→l=[35]∧ls=[])∧okl ls
instance okl_dec:(ls:List (List UInt8))→Decidable (okl ls)
 | []=>isTrue trivial
 | l::ls=>by
  have:=okl_dec ls
  unfold okl
  infer_instance
def q95c(s:List UInt8):Bool:=decide (s≠[])&&qecx s&&decide ((43:UInt8)∉s)&&decide ((35:UInt8)∉s)
structure PRow where
 shape:Nat
 kinds:List Int
 least:Nat
 most:Nat
def prow(id:Int):PRow:=
 if id=1 then⟨1,[3,16],0,1⟩
 else if id=2 then⟨3,[3,16],0,4294967295⟩
 else if id=3∨id=8 then⟨5,[3,16],0,0⟩
 else if id=9 then⟨6,[3,16],0,0⟩
 else if id=11 then⟨4,[3,8],1,268435455⟩
 else if id=17 then⟨3,[1,2,14],0,4294967295⟩
 else if id=18∨id=26 then⟨5,[2],0,0⟩
 else if id=19 then⟨2,[2],0,65535⟩
 else if id=21 then⟨5,[1,2,15],0,0⟩
 else if id=22 then⟨6,[1,2,15],0,0⟩
 else if id=23∨id=25 then⟨1,[1],0,1⟩
 else if id=24 then⟨3,[16],0,4294967295⟩
 else if id=28 then⟨5,[2,14],0,0⟩
 else if id=31 then⟨5,[2,4,5,6,7,9,11,14,15],0,0⟩
 else if id=33 then⟨2,[1,2],1,65535⟩
 else if id=34 then⟨2,[1,2],0,65535⟩
 else if id=35 then⟨2,[3],1,65535⟩
 else if id=36∨id=37∨id=40∨id=41∨id=42 then⟨1,[2],0,1⟩
 else if id=38 then⟨7,[1,2,3,4,5,6,7,8,9,10,11,14,15,16],0,0⟩
 else if id=39 then⟨3,[1,2],1,4294967295⟩
 else⟨0,[],0,0⟩
def qwgc(id:Int):Nat:=(prow id).shape
def mayP(kind id:Int):Bool:=(prow id).kinds.contains kind
def quux(kind id:Int):Bool:=mayP kind id&&(id==38 || (id==11&&kind==3))
def qr4y(kind:Int)(p:Pr):Nat:=
 if mayP kind p.id=false then 9
 else if qwgc p.id≤4 then
  if p.text≠[]∨p.value≠[] then 2
  else if p.n < (prow p.id).least∨(prow p.id).most < p.n then 9
  else 0
 else if p.n≠0∨(qwgc p.id≠7∧p.value≠[]) then 2
 else if qwgc p.id=6 then(if 65535 < p.text.length then 2 else 0)
 else if qecx p.text=false∨qecx p.value=false then 6
 else if p.id=8∧q95c p.text=false then 9
 else 0
theorem q0dw{id:Int}(h:id < 1∨42 < id):prow id=⟨0,[],0,0⟩:=by
 unfold prow
 repeat rw[if_neg (by omega)]
theorem qoa5(P:Int→PRow→Bool)(h:(List.range 43).all (fun k=>P (k:Int) (prow (k:Int)))=true){id:Int}(hi:1≤id∧id≤42):P id (prow id)=true:=by
 have:=List.all_eq_true.1 h id.toNat (List.mem_range.2 (by omega))
 rwa [show((id.toNat:Nat):Int)=id by omega] at this
theorem qilb{kind id:Int}(h:mayP kind id=true):1≤id∧id≤42:=by
 rcases Int.lt_or_le id 1 with h1 | h1
 ·unfold mayP at h;rw[q0dw (.inl h1)] at h;simp at h
 ·rcases Int.lt_or_le 42 id with h2 | h2
  ·unfold mayP at h;rw[q0dw (.inr h2)] at h;simp at h
  ·exact⟨h1,h2⟩
theorem q06q{kind id:Int}(h:mayP kind id=true):(prow id).kinds≠[]:=by
 intro e
 unfold mayP at h
 rw[e] at h
 simp at h
theorem qznl{kind id:Int}(h:mayP kind id=true):1≤qwgc id∧qwgc id≤7∧(qwgc id=1→(prow id).most < 256)∧(qwgc id=2→(prow id).most < 65536)∧(qwgc id=3→(prow id).most < 4294967296)∧(qwgc id=4→(prow id).most≤268435455)∧(id=8→qwgc id=5):=by
 have:=qoa5 (fun i r=>r.kinds.isEmpty || (decide (1≤r.shape)&&decide (r.shape≤7)&&(decide (r.shape≠1) || decide (r.most < 256))&&(decide (r.shape≠2) || decide (r.most < 65536))&&(decide (r.shape≠3) || decide (r.most < 4294967296))&&(decide (r.shape≠4) || decide (r.most≤268435455))&&(decide (i≠8) || decide (r.shape=5)))) (by decide) (qilb h)
 have hk:=q06q h
 unfold qwgc
 generalize prow id=r at *
 simp only[Bool.or_eq_true,Bool.and_eq_true,decide_eq_true_eq,List.isEmpty_iff] at this
 rcases this with e | ⟨⟨⟨⟨⟨⟨h1,h2⟩,h3⟩,h4⟩,h5⟩,h6⟩,h7⟩
 ·exact absurd e hk
 ·exact⟨h1,h2,fun e=>h3.resolve_left (fun x=>x e),fun e=>h4.resolve_left (fun x=>x e),fun e=>h5.resolve_left (fun x=>x e),fun e=>h6.resolve_left (fun x=>x e),fun e=>h7.resolve_left (fun x=>x e)⟩
def qgdb(p:Pr):List UInt8:=
 if qwgc p.id=1 then be p.n 1 else if qwgc p.id=2 then be p.n 2 else if qwgc p.id=3 then be p.n 4
 else if qwgc p.id=4 then vb p.n (sz p.n) else if qwgc p.id=7 then enc2 p.text++enc2 p.value else enc2 p.text
def numP(id:Int)(c:Nat)(r:List UInt8):Pr×Nat×Nat:=if r.length < c then(⟨id,0,[],[]⟩,0,5) else(⟨id,num (r.take c),[],[]⟩,c,0)
def q91e(data:Bool)(r:List UInt8):List UInt8×Nat×Nat:=if (rdB r).2.2≠0 then([],0,5) else if data || qecx (rdB r).1 then((rdB r).1,(rdB r).2.1,0) else([],0,6)
def qij7(id:Int)(r:List UInt8):Pr×Nat×Nat:=
 if qwgc id=1 then numP id 1 r else if qwgc id=2 then numP id 2 r else if qwgc id=3 then numP id 4 r
 else if qwgc id=4 then(if rdE r≠0 then(⟨id,0,[],[]⟩,0,5) else(⟨id,rdV r,[],[]⟩,rdN r,0))
 else if qwgc id=7 then
  (
   if (q91e false r).2.2≠0 then(⟨id,0,[],[]⟩,0,(q91e false r).2.2)
   else if (q91e false (r.drop (q91e false r).2.1)).2.2≠0 then(⟨id,0,[],[]⟩,0,(q91e false (r.drop (q91e false r).2.1)).2.2)
   else(⟨id,0,(q91e false r).1,(q91e false (r.drop (q91e false r).2.1)).1⟩,(q91e false r).2.1+(q91e false (r.drop (q91e false r).2.1)).2.1,0))
 else if (q91e (qwgc id==6) r).2.2≠0 then(⟨id,0,[],[]⟩,0,(q91e (qwgc id==6) r).2.2) else(⟨id,0,(q91e (qwgc id==6) r).1,[]⟩,(q91e (qwgc id==6) r).2.1,0)
theorem qo1o{kind:Int}{p:Pr}(h:qr4y kind p=0):mayP kind p.id=true∧
 (qwgc p.id≤4→p.text=[]∧p.value=[]∧(prow p.id).least≤p.n∧p.n≤(prow p.id).most)∧
 (4 < qwgc p.id→p.n=0∧(qwgc p.id≠7→p.value=[])∧(qwgc p.id=6→p.text.length≤65535)∧(qwgc p.id≠6→qecx p.text=true∧qecx p.value=true)):=by
 unfold qr4y at h
 by_cases hm:mayP kind p.id=true
 ·rw[if_neg (by simp[hm])] at h
  refine⟨hm,fun hs=>?_,fun hs=>?_⟩
  ·rw[if_pos hs] at h
   split at h
   ·cases h
   ·rename_i h1
    split at h
    ·cases h
    ·rename_i h2
     simp only[not_or,Decidable.not_not] at h1
     exact⟨h1.1,h1.2,by omega,by omega⟩
  ·rw[if_neg (by omega)] at h
   split at h
   ·cases h
   ·rename_i h1
    have h1a:p.n=0:=by
     rcases Nat.eq_zero_or_pos p.n with e | e
     ·exact e
     ·exact absurd (.inl (by omega)) h1
    have h1b:qwgc p.id≠7→p.value=[]:=fun e=>Classical.byContradiction fun x=>h1 (.inr ⟨e,x⟩)
    refine⟨h1a,h1b,fun e=>?_,fun e=>?_⟩
    ·rw[if_pos e] at h
     split at h
     ·cases h
     ·omega
    ·rw[if_neg e] at h
     split at h
     ·cases h
     ·rename_i h2
      simp only[not_or,Bool.not_eq_false] at h2
      exact h2
 ·rw[if_pos (by simpa using hm)] at h;cases h
end Go.Proofs.Ytbklidpadffpgaa
