/- Plain facts: the bytes of a number and the number of bytes, the highest first: each undoes the other. No condition. -/
import Derived.Test.YtefmhbioggcfaaaGreatDoorK02
namespace Go.Proofs.YtefmhbioggcfaaaGreatDoor
def be(n:Nat):Nat->List UInt8
 |0=>[]
 |c+1=>be (n / 256) c++[UInt8.ofNat n]
theorem q0rl(c:Nat):∀n,(be n c).length=c:=by
 induction c with
 |zero=>intro n;rfl
 |succ c ih=>intro n;simp[be,ih]
theorem qxkn(n c k:Nat)(hk:k<c):be (n / 256^(c-(k+1))) (k+1)=be (n / 256^(c-k)) k++[UInt8.ofNat (n / 256^(c-(k+1)))]:=by
 have e:c-k=(c-(k+1))+1:=by omega
 rw[be,e,Nat.pow_succ,Nat.div_div_eq_div_mul]
def num(l:List UInt8):Nat:=l.foldl (fun a b=>a*256+b.toNat) 0
theorem q4zn(l:List UInt8)(b:UInt8):num (l++[b])=num l*256+b.toNat:=by simp[num]
theorem qn9h(l:List UInt8):num l<256^l.length:=by
 have key:∀(k:Nat) (l:List UInt8),l.length=k->num l<256^k:=by
  intro k
  induction k with
  |zero=>intro l h;have:l=[]:=List.eq_nil_of_length_eq_zero h;subst this;decide
  |succ k ih=>
   intro l h;rcases List.eq_nil_or_concat l with rfl|⟨l',b,rfl⟩
   ·simp at h
   ·simp at h
    have:=ih l' h
    have hb:=b.toNat_lt;rw[List.concat_eq_append,q4zn,Nat.pow_succ];omega
 exact key _ l rfl
theorem q7wd(c:Nat):∀n,num (be n c)=n%256^c:=by
 induction c with
 |zero=>intro n;simp[be,num,Nat.mod_one]
 |succ c ih=>intro n;rw[be,q4zn,ih,Nat.pow_succ,Nat.mul_comm (256^c) 256,Nat.mod_mul,UInt8.toNat_ofNat'];omega
theorem qz9g(l:List UInt8):be (num l) l.length=l:=by
 have key:∀(k:Nat) (l:List UInt8),l.length=k->be (num l) k=l:=by
  intro k
  induction k with
  |zero=>intro l h;have:l=[]:=List.eq_nil_of_length_eq_zero h;subst this;rfl
  |succ k ih=>
   intro l h;rcases List.eq_nil_or_concat l with rfl|⟨l',b,rfl⟩
   ·simp at h
   ·simp at h;have hb:=b.toNat_lt;rw[List.concat_eq_append,q4zn,be];have e:(num l'*256+b.toNat) / 256=num l':=by omega
    rw[e,ih l' h]
    congr 2
    apply UInt8.toNat_inj.1;rw[UInt8.toNat_ofNat'];omega
 exact key _ l rfl
end Go.Proofs.YtefmhbioggcfaaaGreatDoor
namespace Go.Proofs.YtefmhbioggcfaaaGreatDoor
open Go.RowKit
theorem qg6w(n j:Nat)(hn:n<18446744073709551616):Op.shift .shr .u64 (n:Int) .i64 ((8*j:Nat):Int)=pure (.int .u64 ((n / 256^j:Nat):Int)):=by
 have e256:(256:Nat)^j=2^(8*j):=by rw[Nat.pow_mul]
 rw[shift_shr_any _ _ _ _ (by omega),e256]
 congr 2
 have e1:((8*j:Nat):Int).toNat=8*j:=by omega
 rw[e1];show(n:Int) / 2^min (8*j) 64=_;rcases Nat.lt_or_ge (8*j) 64 with h|h
 ·rw[Nat.min_eq_left (by omega)];simp
 ·rw[Nat.min_eq_right h];have h2:2^64<=2^(8*j):=Nat.pow_le_pow_right (by decide) h;rw[Nat.div_eq_of_lt (by omega)];show(n:Int) / 18446744073709551616=0;omega
end Go.Proofs.YtefmhbioggcfaaaGreatDoor
