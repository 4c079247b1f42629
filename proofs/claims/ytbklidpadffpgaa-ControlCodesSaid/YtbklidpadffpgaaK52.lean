/- The chapter's example of layer 12: polyglotlaw12.lives; a packet that has only a kind and a code. No condition. -/
import Derived.Deep.DeepCutAuto
import Derived.Great.BuildSlice
import Derived.Test.YtbklidpadffpgaaK51
import Derived.Test.YtbklidpadffpgaaK22
set_option maxRecDepth 100000
namespace Go.Proofs.Ytbklidpadffpgaa
open Go.RowKit
theorem qd1l{k c:Int}(hk:0≤k∧k≤255):PkOk (numK k c):=by
 refine⟨by show _≤k∧k≤_;omega,by show _≤(0:Int)∧(0:Int)≤_;decide,fun t ht=>?_,fun x hx=>(nomatch hx),fun x hx=>(nomatch hx),fun x hx=>(nomatch hx)⟩
 have:t=[]:=by simpa [Pk.texts,Pk.zero,numK] using ht
 rw[this];decide
theorem qau5{k c:Int}(v:Int)(hk:0≤k∧k≤255)(w:World):Calls Try.prog 7 #[.int .i64 v,.agg (pkC (numK k c) adZ)] w fun e w'=>e = .returned (.tuple #[.string (bs (q2jl v (numK k c)).1),.int .i64 ((q2jl v (numK k c)).2:Nat)])∧Below w.heap.size w w':=
 qck4 v (numK k c) adZ w (qx9v _ w ⟨rfl,rfl,rfl,rfl⟩) ⟨Nat.zero_le _,Nat.zero_le _,Nat.zero_le _,Nat.zero_le _⟩ (qd1l hk) (Nat.zero_le _)
theorem qpnd(w:World):Calls Try.prog 5 #[] w fun e w'=>e = .returned (.bool true)∧Below w.heap.size w w':=by
 have B1:=fun W=>qau5 (k:=14) (c:=0) 5 (by decide) W
 have B2:=fun W=>qau5 (k:=14) (c:=4) 5 (by decide) W
 rw[qjrk] at B1
 rw[qlci] at B2
 obtain⟨D,hD⟩:∃D,pkC (numK 14 0) adZ=D:=⟨_,rfl⟩
 obtain⟨E,hE⟩:∃D,pkC (numK 14 4) adZ=D:=⟨_,rfl⟩
 rw[hD] at B1
 rw[hE] at B2
 have HD:=Lib.hid hD
 have HE:=Lib.hid hE
 replace B1:=Lib.hid B1
 replace B2:=Lib.hid B2
 have hzv:=qrai
 have hne:¬pkZ=#[]:=by intro h;have:=qbwp;rw[h] at this;cases this
 clear hD hE
 go_enter Try.func5,Try.ntmps5
 go_wp2_with (refine wpList_buildTo rfl 30 _ rfl (some _) rfl D (by rw[←HD.out];kernel_rfl) ?_)
 refine(B1.out _).mono ?_
 rintro e W ⟨rfl,hb⟩
 have L1:=Lib.hid hb
 clear hb
 go_wp2_with (refine wpList_buildTo rfl 30 _ rfl (some _) rfl E (by rw[←HE.out];kernel_rfl) ?_)
 refine(B2.out _).mono ?_
 rintro e W2 ⟨rfl,hb⟩
 have L2:=Lib.hid (qxh2 L1.out hb)
 clear hb
 have h1:((bs []).toList==[])=true:=by rw[q0c6];decide
 have h2:((bs [4]).toList==[4])=true:=by rw[q0c6];decide
 go_wp2_with fail
 go_ret
 exact⟨rfl,L2.out⟩
end Go.Proofs.Ytbklidpadffpgaa
