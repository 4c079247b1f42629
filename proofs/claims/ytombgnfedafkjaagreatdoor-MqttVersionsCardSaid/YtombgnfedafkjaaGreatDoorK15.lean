/- Plain facts: what the library cuts at slashes, and q8nq, are the levels of a topic; the first slash of a list of bytes. No condition. -/
import Derived.Lib.SplitLaws
import Derived.Lib.Join
import Derived.Test.YtombgnfedafkjaaGreatDoorK08
namespace Go.Proofs.YtombgnfedafkjaaGreatDoor
theorem qfnz(s:List UInt8):((47:UInt8)∉s)\/∃a b,s=a++47::b/\(47:UInt8)∉a:=by
 induction s with
 |nil=>left;simp
 |cons c s ih=>
  by_cases h:c=47
  ·subst h;exact .inr ⟨[],s,rfl,by simp⟩
  ·rcases ih with h2|⟨a,b,rfl,h2⟩
   ·left;simp[h2,Ne.symm h]
   ·exact .inr ⟨c::a,b,rfl,by simp[h2,Ne.symm h]⟩
theorem qq5q{s:List UInt8}(h:(47:UInt8)∉s):Lib.index s [47]= -1:=by
 induction s with
 |nil=>rfl
 |cons c s ih=>simp at h;rw[Lib.index];simp[ih h.2,h.1]
theorem qhn0(a b:List UInt8)(h:(47:UInt8)∉a):Lib.index (a++47::b) [47]=(a.length:Int):=by
 induction a with
 |nil=>simp[Lib.index]
 |cons c a ih=>
  simp at h;rw[List.cons_append,Lib.index]
  have:=ih h.2
  simp[this,h.1]
theorem q2df{s:List UInt8}(h:(47:UInt8)∉s):Lib.indexByte s 47= -1:=by
 induction s with
 |nil=>rfl
 |cons c s ih=>simp at h;rw[Lib.indexByte];simp[ih h.2,Ne.symm h.1]
theorem q1pq(a b:List UInt8)(h:(47:UInt8)∉a):Lib.indexByte (a++47::b) 47=(a.length:Int):=by
 induction a with
 |nil=>simp[Lib.indexByte]
 |cons c a ih=>
  simp at h;rw[List.cons_append,Lib.indexByte]
  have:=ih h.2
  simp[this,Ne.symm h.1]
theorem qzjt:∀(k:Nat) (s:List UInt8),s.count 47=k->Lib.splitK [47] 0 k s=lvls s
 |0,s,h=>by rw[qty4 (List.count_eq_zero.1 h)];rfl
 |k+1,s,h=>by
  rcases qfnz s with h2|⟨a,b,rfl,h2⟩
  ·rw[List.count_eq_zero.2 h2] at h;omega
  ·rw[Lib.splitK,qhn0 a b h2,quk3 h2];have hb:b.count 47=k:=by rw[List.count_append,List.count_eq_zero.2 h2,List.count_cons_self] at h;omega
   have e:((a.length:Int)== -1)=false:=beq_eq_false_iff_ne.2 (by omega);rw[e,if_neg (by simp)];have e2:(a++47::b).take ((a.length:Int).toNat+0)=a:=by simp
   have e3:(a++47::b).drop ((a.length:Int).toNat+[(47:UInt8)].length)=b:=by simp[List.drop_append]
   rw[e2,e3,qzjt k b hb]
theorem qb79(s:ByteArray):(Lib.splitB ⟨#[47]⟩ 0 (Lib.countB s ⟨#[47]⟩) s).map (·.data.toList)=lvls s.data.toList:=by rw[Lib.splitB_data];have e:Lib.countB s ⟨#[47]⟩=s.data.toList.count 47:=Lib.count_one 47 s.data.toList;rw[e];exact qzjt _ _ rfl
theorem q2mb(s:ByteArray):Lib.countB s ⟨#[47]⟩+1=(lvls s.data.toList).length:=by rw[qspi];have e:Lib.countB s ⟨#[47]⟩=s.data.toList.count 47:=Lib.count_one 47 s.data.toList;rw[e]
end Go.Proofs.YtombgnfedafkjaaGreatDoor
