/- Plain facts: what subscribe.Read does, part by part, is what the document says. No condition. -/
import Derived.Lib.SplitLaws
import Derived.Lib.Join
import Derived.Test.YtefmhbioggcfaaaGreatDoorK12
namespace Go.Proofs.YtefmhbioggcfaaaGreatDoor
def Cs.filtsW(v kind:Int)(s:Cs):List Fi×Cs:=Cs.filts v kind s.r.length s
theorem qvwn{v kind:Int}(hk:kind=8\/kind=10){s:Cs}(h:(s.filt v kind).2.e=0):(s.filt v kind).2.r.length<s.r.length:=by
 obtain⟨_,h2⟩:=q749 hk h
 have:=List.length_pos_iff.2 (q0ul kind (s.filt v kind).1)
 rw[h2,List.length_append];omega
theorem q6n3{v kind:Int}(hk:kind=8\/kind=10):∀(n m:Nat) (s:Cs),(s.e≠0\/(s.r.length<=n/\s.r.length<=m))->Cs.filts v kind n s=Cs.filts v kind m s
 |0,0,_,_=>rfl
 |0,m+1,s,h=>by have hc:s.e≠0\/s.r=[]:=h.imp id fun h=>List.length_eq_zero_iff.1 (by omega);rw[Cs.filts,Cs.filts,if_pos hc]
 |n+1,0,s,h=>by have hc:s.e≠0\/s.r=[]:=h.imp id fun h=>List.length_eq_zero_iff.1 (by omega);rw[Cs.filts,Cs.filts,if_pos hc]
 |n+1,m+1,s,h=>by
  unfold Cs.filts;by_cases hc:s.e≠0\/s.r=[]
  ·rw[if_pos hc,if_pos hc]
  ·rw[if_neg hc,if_neg hc,q6n3 hk n m];have he:¬s.e≠0:=fun e=>hc (.inl e);by_cases hz:(s.filt v kind).2.e=0
   ·have:=qvwn hk hz
    rcases h with h|h
    ·exact absurd h he
    ·exact .inr ⟨by omega,by omega⟩
   ·exact .inl hz
theorem qztl{v kind:Int}{s:Cs}(h:s.e≠0\/s.r=[]):Cs.filtsW v kind s=([],s):=by
 unfold Cs.filtsW;cases s.r.length with
 |zero=>rfl
 |succ n=>rw[Cs.filts,if_pos h]
theorem qwla{v kind:Int}(hk:kind=8\/kind=10){s:Cs}(he:s.e=0)(hr:s.r≠[]) :
 Cs.filtsW v kind s=((s.filt v kind).1::(Cs.filtsW v kind (s.filt v kind).2).1,(Cs.filtsW v kind (s.filt v kind).2).2):=by
 have hl:=List.length_pos_iff.2 hr;obtain⟨n,hn⟩:∃n,s.r.length=n+1:=⟨s.r.length-1,by omega⟩
 have h:¬(s.e≠0\/s.r=[]):=by
  rintro(h|h)
  ·exact h he
  ·exact hr h
 have hf:Cs.filts v kind n (s.filt v kind).2=Cs.filtsW v kind (s.filt v kind).2:=by
  refine q6n3 hk _ _ _ ?_;by_cases hz:(s.filt v kind).2.e=0
  ·have:=qvwn hk hz
   exact .inr ⟨by omega,Nat.le_refl _⟩
  ·exact .inl hz
 conv=>lhs;rw[Cs.filtsW,hn,Cs.filts,if_neg h]
 rw[hf]
theorem qi7d{v kind:Int}(hk:kind=8\/kind=10):∀(n:Nat) (s:Cs),s.r.length<=n->(Cs.filts v kind n s).2.e≠0\/(Cs.filts v kind n s).2.r=[]
 |0,s,h => .inr (List.length_eq_zero_iff.1 (by show s.r.length=0;omega))
 |n+1,s,h=>by
  unfold Cs.filts;by_cases hc:s.e≠0\/s.r=[]
  ·rw[if_pos hc];exact hc
  ·rw[if_neg hc];by_cases hz:(s.filt v kind).2.e=0
   ·have:=qvwn hk hz
    exact qi7d hk n _ (by omega)
   ·have hf:Cs.filts v kind n (s.filt v kind).2=([],(s.filt v kind).2):=by
     cases n with
     |zero=>rfl
     |succ n=>rw[Cs.filts,if_pos (.inl hz)]
    rw[hf];exact .inl hz
theorem q8jt{v kind:Int}:∀(n:Nat) (s:Cs),(Cs.filts v kind n s).1.length<=n
 |0,_=>Nat.le_refl _
 |n+1,s=>by
  unfold Cs.filts;split
  ·exact Nat.zero_le _
  ·have:=q8jt (v:=v) (kind:=kind) n (s.filt v kind).2
   simp only[List.length_cons];omega
def q4qr(v kind:Int)(s:Cs):Pk×Cs:=
 let i:=s.num 2
 let p:=i.2.props v kind
 if qsfj kind then
  let f:=Cs.filtsW v kind p.2
  ({Pk.zero with kind:=kind,id:=(i.1:Nat),props:=p.1,filters:=if f.2.e=0 then f.1 else []},f.2)
 else({Pk.zero with kind:=kind,id:=(i.1:Nat),props:=p.1,codes:=p.2.codes.1},p.2.codes.2)
theorem qdzk(v kind:Int)(s:Cs):(q4qr v kind s).2=(q7qx v kind s).2/\((q7qx v kind s).2.e=0->(q4qr v kind s).1=(q7qx v kind s).1):=by
 unfold q4qr q7qx Cs.filtsW;by_cases ha:qsfj kind=true
 ·simp only[if_pos ha];refine⟨trivial,fun h=>?_⟩;rw[if_pos h]
 ·rw[if_neg ha,if_neg ha];exact⟨rfl,fun _=>rfl⟩
theorem qz8s{v kind:Int}(hk:qfws kind=true)(s:Cs):(q7qx v kind s).2.e≠0\/(q7qx v kind s).2.r=[]:=by
 have hk:8<=kind/\kind<=11:=by simpa [qfws] using hk
 unfold q7qx;rcases q9zy hk with ⟨ha,hkk⟩|⟨ha,hkk⟩
 ·simp only[if_pos ha];exact qi7d hkk _ _ (Nat.le_refl _)
 ·simp only[ha,Bool.false_eq_true,if_false];unfold Cs.codes;split
  ·rename_i h;exact .inl h
  ·exact .inr rfl
theorem qar8(x:Cs)(f:Nat):(qveh x f).e=if x.e≠0 then x.e else if x.r≠[] then 5 else f:=by
 unfold qveh Cs.fail;by_cases he:x.e=0
 ·by_cases hr:x.r=[]
  ·simp[he,hr]
  ·simp[he,hr]
 ·simp[he]
theorem qw0h(v kind:Int)(l:List UInt8):q98d v kind l=if (versC v&&qfws kind)=false then(Pk.zero,2) else
 let x:=q4qr v kind ⟨l,0⟩
 let e:=if x.2.e=0 then q3m2 v x.1 else x.2.e
 if e≠0 then(Pk.zero,e) else(x.1,0):=by
 unfold q98d;by_cases hv:(versC v&&qfws kind)=false
 ·rw[if_pos hv,if_pos hv]
 ·rw[if_neg hv,if_neg hv];rw[Bool.not_eq_false,Bool.and_eq_true] at hv;obtain⟨h1,h2⟩:=qdzk v kind ⟨l,0⟩;have h3:=qz8s (v:=v) hv.2 ⟨l,0⟩;simp only[qar8,h1];by_cases he:(q7qx v kind ⟨l,0⟩).2.e=0
  ·have hr:(q7qx v kind ⟨l,0⟩).2.r=[]:=h3.resolve_left (fun h=>h he);simp[he,hr,h2 he]
  ·simp[he]
theorem qfnz(s:List UInt8):((47:UInt8)∉s)\/∃a b,s=a++47::b/\(47:UInt8)∉a:=by
 induction s with
 |nil=>left;simp
 |cons c s ih=>
  by_cases h:c=47
  ·subst h;exact .inr ⟨[],s,rfl,by simp⟩
  ·rcases ih with h2|⟨a,b,rfl,h2⟩
   ·left;simp[h2,Ne.symm h]
   ·exact .inr ⟨c::a,b,rfl,by simp[h2,Ne.symm h]⟩
theorem qq5q{s:List UInt8}(h:(47:UInt8)∉s):Lib.index s [47]= -1:=by
 induction s with
 |nil=>rfl
 |cons c s ih=>simp at h;rw[Lib.index];simp[ih h.2,h.1]
theorem qhn0(a b:List UInt8)(h:(47:UInt8)∉a):Lib.index (a++47::b) [47]=(a.length:Int):=by
 induction a with
 |nil=>simp[Lib.index]
 |cons c a ih=>
  simp at h;rw[List.cons_append,Lib.index]
  have:=ih h.2
  simp[this,h.1]
theorem q2df{s:List UInt8}(h:(47:UInt8)∉s):Lib.indexByte s 47= -1:=by
 induction s with
 |nil=>rfl
 |cons c s ih=>simp at h;rw[Lib.indexByte];simp[ih h.2,Ne.symm h.1]
theorem q1pq(a b:List UInt8)(h:(47:UInt8)∉a):Lib.indexByte (a++47::b) 47=(a.length:Int):=by
 induction a with
 |nil=>simp[Lib.indexByte]
 |cons c a ih=>
  simp at h;rw[List.cons_append,Lib.indexByte]
  have:=ih h.2
  simp[this,Ne.symm h.1]
theorem qzjt:∀(k:Nat) (s:List UInt8),s.count 47=k->Lib.splitK [47] 0 k s=lvls s
 |0,s,h=>by rw[qty4 (List.count_eq_zero.1 h)];rfl
 |k+1,s,h=>by
  rcases qfnz s with h2|⟨a,b,rfl,h2⟩
  ·rw[List.count_eq_zero.2 h2] at h;omega
  ·rw[Lib.splitK,qhn0 a b h2,quk3 h2];have hb:b.count 47=k:=by rw[List.count_append,List.count_eq_zero.2 h2,List.count_cons_self] at h;omega
   have e:((a.length:Int)== -1)=false:=beq_eq_false_iff_ne.2 (by omega);rw[e,if_neg (by simp)];have e2:(a++47::b).take ((a.length:Int).toNat+0)=a:=by simp
   have e3:(a++47::b).drop ((a.length:Int).toNat+[(47:UInt8)].length)=b:=by simp[List.drop_append]
   rw[e2,e3,qzjt k b hb]
theorem qb79(s:ByteArray):(Lib.splitB ⟨#[47]⟩ 0 (Lib.countB s ⟨#[47]⟩) s).map (·.data.toList)=lvls s.data.toList:=by rw[Lib.splitB_data];have e:Lib.countB s ⟨#[47]⟩=s.data.toList.count 47:=Lib.count_one 47 s.data.toList;rw[e];exact qzjt _ _ rfl
theorem q2mb(s:ByteArray):Lib.countB s ⟨#[47]⟩+1=(lvls s.data.toList).length:=by rw[qspi];have e:Lib.countB s ⟨#[47]⟩=s.data.toList.count 47:=Lib.count_one 47 s.data.toList;rw[e]
end Go.Proofs.YtefmhbioggcfaaaGreatDoor
