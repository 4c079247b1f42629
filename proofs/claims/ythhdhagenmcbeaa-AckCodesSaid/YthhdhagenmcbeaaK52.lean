/- The chapter's example of layer 10: polyglotlaw10.lives; a packet that has only a kind, an id and a code. No condition. -/
import Derived.Test.YthhdhagenmcbeaaK51
import Derived.Test.YthhdhagenmcbeaaK22
set_option maxRecDepth 100000
namespace Go.Proofs.Ythhdhagenmcbeaa
open Go.RowKit
def numA(k i c:Int):Pk:={Pk.zero with kind:=k,id:=i,code:=c}
theorem q9n6{k i c:Int}(hk:0≤k∧k≤255):PkOk (numA k i c):=by
 refine⟨by show _≤k∧k≤_;omega,by show _≤(0:Int)∧(0:Int)≤_;decide,fun t ht=>?_,fun x hx=>(nomatch hx),fun x hx=>(nomatch hx),fun x hx=>(nomatch hx)⟩
 have:t=[]:=by simpa [Pk.texts,Pk.zero,numA] using ht
 rw[this];decide
theorem qgl7{k i c:Int}(v:Int)(hk:0≤k∧k≤255)(w:World):Calls Try.prog 7 #[.int .i64 v,.agg (pkC (numA k i c) adZ)] w fun e w'=>e = .returned (.tuple #[.string (bs (q04h v (numA k i c)).1),.int .i64 ((q04h v (numA k i c)).2:Nat)])∧Below w.heap.size w w':=
 q9ca v (numA k i c) adZ w (qx9v _ w ⟨rfl,rfl,rfl,rfl⟩) ⟨Nat.zero_le _,Nat.zero_le _,Nat.zero_le _,Nat.zero_le _⟩ (q9n6 hk) (Nat.zero_le _)
theorem qtkf:q04h 5 (numA 4 7 0)=([0,7],0):=by decide+kernel
theorem qunn:q04h 5 (numA 4 7 16)=([0,7,16],0):=by decide+kernel
theorem q6if(w:World):Calls Try.prog 5 #[] w fun e w'=>e = .returned (.bool true)∧Below w.heap.size w w':=by
 have B1:=fun W=>qgl7 (k:=4) (i:=7) (c:=0) 5 (by decide) W
 have B2:=fun W=>qgl7 (k:=4) (i:=7) (c:=16) 5 (by decide) W
 rw[qtkf] at B1
 rw[qunn] at B2
 obtain⟨D,hD⟩:∃D,pkC (numA 4 7 0) adZ=D:=⟨_,rfl⟩
 obtain⟨E,hE⟩:∃D,pkC (numA 4 7 16) adZ=D:=⟨_,rfl⟩
 rw[hD] at B1
 rw[hE] at B2
 have HD:=Lib.hid hD
 have HE:=Lib.hid hE
 replace B1:=Lib.hid B1
 replace B2:=Lib.hid B2
 have hzv:=qrai
 have hne:¬pkZ=#[]:=by intro h;have:=qbwp;rw[h] at this;cases this
 clear hD hE
 go_enter Try.func5,Try.ntmps5
 go_wp2_with (refine wpList_buildTo rfl 31 _ rfl (some _) rfl D (by rw[←HD.out];kernel_rfl) ?_)
 refine(B1.out _).mono ?_
 rintro e W ⟨rfl,hb⟩
 have L1:=Lib.hid hb
 clear hb
 go_wp2_with (refine wpList_buildTo rfl 31 _ rfl (some _) rfl E (by rw[←HE.out];kernel_rfl) ?_)
 refine(B2.out _).mono ?_
 rintro e W2 ⟨rfl,hb⟩
 have L2:=Lib.hid (qxh2 L1.out hb)
 clear hb
 have h1:((bs [0,7]).toList==[0,7])=true:=by rw[q0c6];decide
 have h2:((bs [0,7,16]).toList==[0,7,16])=true:=by rw[q0c6];decide
 go_wp2_with fail
 go_ret
 exact⟨rfl,L2.out⟩
end Go.Proofs.Ythhdhagenmcbeaa
