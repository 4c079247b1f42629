/- The contract of subscribe.Options. Condition: QoS and Handling are ints. -/
import Derived.Deep.DeepCutAuto
import Derived.Test.YtbecggefmbpnoaaGreatDoorK22
import Derived.Test.YtbecggefmbpnoaaGreatDoorK19
set_option maxRecDepth 100000
namespace Go.Proofs.YtbecggefmbpnoaaGreatDoor
open Go.RowKit
theorem q1zb(q:Int):bits .and .i64 (IntKind.i64.wrap (q*1)) 3=q%4:=by
 have h3:(BitVec.ofInt 64 3).toNat=2^2 - 1:=by decide
 have key:∀n:Int,(BitVec.ofInt 64 n &&& BitVec.ofInt 64 3).toNat=(n%((2^64:Nat):Int)).toNat%2^2:=fun n=>by
  rw[BitVec.toNat_and,BitVec.toNat_ofInt,h3,Nat.and_two_pow_sub_one_eq_mod]
 show IntKind.i64.wrap ((BitVec.ofInt 64 (IntKind.i64.wrap (q*1)) &&& BitVec.ofInt 64 3).toNat:Nat)=q%4
 rw[key,IntKind.wrap_i64,IntKind.wrap_i64]
 omega
theorem qxbr(h:Int):bits .and .i64 (IntKind.i64.wrap (h*16)) 48=16*(h%4):=by
 have h3:(BitVec.ofInt 64 48).toNat=3 <<< 4:=by decide
 have key:∀n:Int,(BitVec.ofInt 64 n &&& BitVec.ofInt 64 48).toNat=(n%((2^64:Nat):Int)).toNat &&& 3 <<< 4:=fun n=>by
  rw[BitVec.toNat_and,BitVec.toNat_ofInt,h3]
 show IntKind.i64.wrap ((BitVec.ofInt 64 (IntKind.i64.wrap (h*16)) &&& BitVec.ofInt 64 48).toNat:Nat)=16*(h%4)
 rw[key,IntKind.wrap_i64,IntKind.wrap_i64]
 obtain⟨m,hm⟩:∃m:Nat,(((h*16+9223372036854775808)%18446744073709551616 - 9223372036854775808)%((2^64:Nat):Int)).toNat=m <<< 4∧(m:Int)%4=h%4:=by
  refine⟨(((h*16+9223372036854775808)%18446744073709551616 - 9223372036854775808)%((2^64:Nat):Int)).toNat / 16,?_,?_⟩
  ·rw[Nat.shiftLeft_eq];omega
  ·omega
 rw[hm.1,←Nat.shiftLeft_and_distrib,show(3:Nat)=2^2 - 1 from rfl,Nat.and_two_pow_sub_one_eq_mod,Nat.shiftLeft_eq]
 omega
theorem q82s:∀(n a:Bool) (q h:Nat),q < 4→h < 4→bits .or .i64 (bits .or .i64 (bits .or .i64 (q:Int) ((bitC n 4:Nat):Int)) ((bitC a 8:Nat):Int)) (16*(h:Int))=((q+16*h+bitC n 4+bitC a 8:Nat):Int):=by
 intro n a q h hq hh
 obtain rfl | rfl | rfl | rfl:q=0∨q=1∨q=2∨q=3:=by omega
 all_goals obtain rfl | rfl | rfl | rfl:h=0∨h=1∨h=2∨h=3:=by omega
 all_goals (revert n a;decide+kernel)
theorem q3gr(f:Fi)(w:World):Calls Tryz.prog 13 #[.agg (fiC f)] w fun e w'=>e = .returned (.int .i64 (qang f:Nat))∧Below w.heap.size w w':=by
 have S0:=Lib.hid (BxF.made w f)
 have BI:=Lib.hid (fun b k W (h:BxF w f W)=>(q6cn b k W).mono fun e W' (hh:_∧W=W')=>(⟨hh.1,hh.2▸h⟩:_∧BxF w f W'))
 have hq:f.qos%4=((f.qos%4).toNat:Int):=by omega
 have hh:f.handling%4=((f.handling%4).toNat:Int):=by omega
 have E1:=q1zb f.qos
 have E2:=qxbr f.handling
 rw[hq] at E1
 rw[hh] at E2
 have E3:=q82s f.noLocal f.asPub (f.qos%4).toNat (f.handling%4).toNat (by omega) (by omega)
 have hb:qang f=(f.qos%4).toNat+16*(f.handling%4).toNat+bitC f.noLocal 4+bitC f.asPub 8:=rfl
 rw[←hb] at E3
 generalize qang f=R at *
 clear hb hq hh
 replace E1:=Lib.hid E1
 replace E2:=Lib.hid E2
 replace E3:=Lib.hid E3
 go_enter Tryz.func13,Tryz.ntmps13
 go_upto_region 1 with fail
 refine qmri (S:=BxF w f) (B:=w.heap.size) S0.out.draw (fun W h=>h.cell 1) (fun W h=>h.cell 2) (fun W h=>h.cell 3) (fun W h=>h.cell 4) rfl E1.out rfl E2.out rfl rfl E3.out (BI.out f.noLocal 4) (BI.out f.asPub 8) ?_
 intro W h
 have LO:=Lib.hid h.low
 clear h
 go_wp2_with fail
 go_ret
 exact⟨rfl,LO.out⟩
end Go.Proofs.YtbecggefmbpnoaaGreatDoor
