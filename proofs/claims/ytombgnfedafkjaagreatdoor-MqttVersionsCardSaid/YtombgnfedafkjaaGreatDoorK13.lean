/- A ghost: where a list lies, its capacity. No condition. -/
import Derived.Test.YtombgnfedafkjaaGreatDoorK02
import Derived.Test.YtombgnfedafkjaaGreatDoorK03
import Derived.Test.YtombgnfedafkjaaGreatDoorK09
namespace Go.Proofs.YtombgnfedafkjaaGreatDoor
def gA(x:Option (Option Addr×Nat)):Option Addr:=(x.getD (none,0)).1
def gC(x:Option (Option Addr×Nat)):Nat:=(x.getD (none,0)).2
end Go.Proofs.YtombgnfedafkjaaGreatDoor
namespace Go.Proofs.YtombgnfedafkjaaGreatDoor
open Go.RowKit
theorem qo4g{w W:World}{B b j:Nat}{u:Value}(h:Below B w W)(hb:B<=b):Below B w (W.setCell ⟨b,j,none⟩ u):=h.setCell (show B<=(⟨b,j,none⟩:Addr).block from hb) u
theorem qv6p{W:World}{b j:Nat}{u:Value}{C D:Array Value}{t:TypeId}(h:W.heap[b]?=some (.cells C t (0,0)))(he:C.setIfInBounds j u=D):(W.setCell ⟨b,j,none⟩ u).heap[b]?=some (.cells D t (0,0)):=by
 have:=qlvy h j u
 rw[he] at this;exact this
theorem qacl{w W:World}{B:Nat}{r:Option Nat}(h:w.grownBy W r)(hB:w.heap.size<=B)(D:Array Value):w.grownBy (W.setRow B D) r:=
 ⟨h.os,h.tape,h.output,by have:=h.size;simpa [World.setRow] using this,fun k hk hne=>(setRow_other _ _ _ _ (by omega)).trans (h.block k hk hne)⟩
theorem q573(W:World)(B:Nat)(D:Array Value):W.grownBy (W.setRow B D) (some B):=
 ⟨rfl,rfl,rfl,by simp[World.setRow],fun k _ hne=>setRow_other _ _ _ _ (fun e=>hne (congrArg some e))⟩
end Go.Proofs.YtombgnfedafkjaaGreatDoor
namespace Go.Proofs.YtombgnfedafkjaaGreatDoor
def Cs.filtsW(v kind:Int)(s:Cs):List Fi×Cs:=Cs.filts v kind s.r.length s
theorem qvwn{v kind:Int}(hk:kind=8\/kind=10){s:Cs}(h:(s.filt v kind).2.e=0):(s.filt v kind).2.r.length<s.r.length:=by
 obtain⟨_,h2⟩:=q749 hk h
 have:=List.length_pos_iff.2 (q0ul kind (s.filt v kind).1)
 rw[h2,List.length_append];omega
theorem q6n3{v kind:Int}(hk:kind=8\/kind=10):∀(n m:Nat) (s:Cs),(s.e≠0\/(s.r.length<=n/\s.r.length<=m))->Cs.filts v kind n s=Cs.filts v kind m s
 |0,0,_,_=>rfl
 |0,m+1,s,h=>by have hc:s.e≠0\/s.r=[]:=h.imp id fun h=>List.length_eq_zero_iff.1 (by omega);rw[Cs.filts,Cs.filts,if_pos hc]
 |n+1,0,s,h=>by have hc:s.e≠0\/s.r=[]:=h.imp id fun h=>List.length_eq_zero_iff.1 (by omega);rw[Cs.filts,Cs.filts,if_pos hc]
 |n+1,m+1,s,h=>by
  unfold Cs.filts;by_cases hc:s.e≠0\/s.r=[]
  ·rw[if_pos hc,if_pos hc]
  ·rw[if_neg hc,if_neg hc,q6n3 hk n m];have he:¬s.e≠0:=fun e=>hc (.inl e);by_cases hz:(s.filt v kind).2.e=0
   ·have:=qvwn hk hz
    rcases h with h|h
    ·exact absurd h he
    ·exact .inr ⟨by omega,by omega⟩
   ·exact .inl hz
theorem qztl{v kind:Int}{s:Cs}(h:s.e≠0\/s.r=[]):Cs.filtsW v kind s=([],s):=by
 unfold Cs.filtsW;cases s.r.length with
 |zero=>rfl
 |succ n=>rw[Cs.filts,if_pos h]
theorem qwla{v kind:Int}(hk:kind=8\/kind=10){s:Cs}(he:s.e=0)(hr:s.r≠[]) :
 Cs.filtsW v kind s=((s.filt v kind).1::(Cs.filtsW v kind (s.filt v kind).2).1,(Cs.filtsW v kind (s.filt v kind).2).2):=by
 have hl:=List.length_pos_iff.2 hr;obtain⟨n,hn⟩:∃n,s.r.length=n+1:=⟨s.r.length-1,by omega⟩
 have h:¬(s.e≠0\/s.r=[]):=by
  rintro(h|h)
  ·exact h he
  ·exact hr h
 have hf:Cs.filts v kind n (s.filt v kind).2=Cs.filtsW v kind (s.filt v kind).2:=by
  refine q6n3 hk _ _ _ ?_;by_cases hz:(s.filt v kind).2.e=0
  ·have:=qvwn hk hz
   exact .inr ⟨by omega,Nat.le_refl _⟩
  ·exact .inl hz
 conv=>lhs;rw[Cs.filtsW,hn,Cs.filts,if_neg h]
 rw[hf]
theorem qi7d{v kind:Int}(hk:kind=8\/kind=10):∀(n:Nat) (s:Cs),s.r.length<=n->(Cs.filts v kind n s).2.e≠0\/(Cs.filts v kind n s).2.r=[]
 |0,s,h => .inr (List.length_eq_zero_iff.1 (by show s.r.length=0;omega))
 |n+1,s,h=>by
  unfold Cs.filts;by_cases hc:s.e≠0\/s.r=[]
  ·rw[if_pos hc];exact hc
  ·rw[if_neg hc];by_cases hz:(s.filt v kind).2.e=0
   ·have:=qvwn hk hz
    exact qi7d hk n _ (by omega)
   ·have hf:Cs.filts v kind n (s.filt v kind).2=([],(s.filt v kind).2):=by
     cases n with
     |zero=>rfl
     |succ n=>rw[Cs.filts,if_pos (.inl hz)]
    rw[hf];exact .inl hz
theorem q8jt{v kind:Int}:∀(n:Nat) (s:Cs),(Cs.filts v kind n s).1.length<=n
 |0,_=>Nat.le_refl _
 |n+1,s=>by
  unfold Cs.filts;split
  ·exact Nat.zero_le _
  ·have:=q8jt (v:=v) (kind:=kind) n (s.filt v kind).2
   simp only[List.length_cons];omega
def q4qr(v kind:Int)(s:Cs):Pk×Cs:=
 let i:=s.num 2
 let p:=i.2.props v kind
 if qsfj kind then
  let f:=Cs.filtsW v kind p.2
  ({Pk.zero with kind:=kind,id:=(i.1:Nat),props:=p.1,filters:=if f.2.e=0 then f.1 else []},f.2)
 else({Pk.zero with kind:=kind,id:=(i.1:Nat),props:=p.1,codes:=p.2.codes.1},p.2.codes.2)
theorem qdzk(v kind:Int)(s:Cs):(q4qr v kind s).2=(q7qx v kind s).2/\((q7qx v kind s).2.e=0->(q4qr v kind s).1=(q7qx v kind s).1):=by
 unfold q4qr q7qx Cs.filtsW;by_cases ha:qsfj kind=true
 ·simp only[if_pos ha];refine⟨trivial,fun h=>?_⟩;rw[if_pos h]
 ·rw[if_neg ha,if_neg ha];exact⟨rfl,fun _=>rfl⟩
theorem qz8s{v kind:Int}(hk:qfws kind=true)(s:Cs):(q7qx v kind s).2.e≠0\/(q7qx v kind s).2.r=[]:=by
 have hk:8<=kind/\kind<=11:=by simpa [qfws] using hk
 unfold q7qx;rcases q9zy hk with ⟨ha,hkk⟩|⟨ha,hkk⟩
 ·simp only[if_pos ha];exact qi7d hkk _ _ (Nat.le_refl _)
 ·simp only[ha,Bool.false_eq_true,if_false];unfold Cs.codes;split
  ·rename_i h;exact .inl h
  ·exact .inr rfl
theorem qar8(x:Cs)(f:Nat):(qveh x f).e=if x.e≠0 then x.e else if x.r≠[] then 5 else f:=by
 unfold qveh Cs.fail;by_cases he:x.e=0
 ·by_cases hr:x.r=[]
  ·simp[he,hr]
  ·simp[he,hr]
 ·simp[he]
theorem qw0h(v kind:Int)(l:List UInt8):q98d v kind l=if (versC v&&qfws kind)=false then(Pk.zero,2) else
 let x:=q4qr v kind ⟨l,0⟩
 let e:=if x.2.e=0 then q3m2 v x.1 else x.2.e
 if e≠0 then(Pk.zero,e) else(x.1,0):=by
 unfold q98d;by_cases hv:(versC v&&qfws kind)=false
 ·rw[if_pos hv,if_pos hv]
 ·rw[if_neg hv,if_neg hv];rw[Bool.not_eq_false,Bool.and_eq_true] at hv;obtain⟨h1,h2⟩:=qdzk v kind ⟨l,0⟩;have h3:=qz8s (v:=v) hv.2 ⟨l,0⟩;simp only[qar8,h1];by_cases he:(q7qx v kind ⟨l,0⟩).2.e=0
  ·have hr:(q7qx v kind ⟨l,0⟩).2.r=[]:=h3.resolve_left (fun h=>h he);simp[he,hr,h2 he]
  ·simp[he]
end Go.Proofs.YtombgnfedafkjaaGreatDoor
