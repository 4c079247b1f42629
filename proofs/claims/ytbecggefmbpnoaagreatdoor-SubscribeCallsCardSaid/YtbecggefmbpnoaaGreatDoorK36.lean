/- The contracts of subscribe.props and subscribe.filter. Condition: valid properties within their capacity; a valid topic. -/
import Derived.Test.YtbecggefmbpnoaaGreatDoorK35
import Derived.Test.YtbecggefmbpnoaaGreatDoorK14
import Derived.Test.YtbecggefmbpnoaaGreatDoorK22
import Derived.Test.YtbecggefmbpnoaaGreatDoorK26
import Derived.Test.YtbecggefmbpnoaaGreatDoorK34
set_option maxRecDepth 100000
namespace Go.Proofs.YtbecggefmbpnoaaGreatDoor
open Go.RowKit
theorem qhoa(v:Int)(p:Pk)(a:Ad)(w:World)(hp:PL w a.ps p.props)(ok:PkOk p)(hc:p.props.length≤a.pc) :
 Calls Tryz.prog 32 #[.int .i64 v,.agg (pkC p a)] w fun e w'=>e = .returned (.string (bs (qasq v p.kind p.props)))∧Below w.heap.size w w':=by
 have S0:=Lib.hid (BxS.made w p a)
 unfold qasq
 by_cases h5:v=5
 ·subst h5
  rw[if_pos rfl]
  have BY:=fun W (h:BxS w p a W)=>qs01 p.kind a.ps p.props.length a.pc p.props W ok.kind.1 ok.kind.2 (hp.below h.low) rfl hc (fun x hx=>(ok.pps x hx).1)
  have k0:(w.alloc (.cells (pkC p a) 29)).cell? ⟨w.heap.size,0,none⟩=some (.int .i64 p.kind):=S0.out.cell 0
  have k24:(w.alloc (.cells (pkC p a) 29)).cell? ⟨w.heap.size,24,none⟩=some (.slice a.ps p.props.length a.pc):=S0.out.cell 24
  generalize (q5aq p.kind p.props).1=T at *
  generalize (q5aq p.kind p.props).2=q at *
  replace BY:=Lib.hid BY
  clear hp ok hc
  go_enter Tryz.func32,Tryz.ntmps32
  go_wp2_with fail
  refine(BY.out _ S0.out).mono ?_
  rintro e W ⟨rfl,hb⟩
  have LO:=Lib.hid (S0.out.call hb).low
  clear hb
  go_wp2_with fail
  go_ret
  exact⟨rfl,LO.out⟩
 ·rw[if_neg h5]
  have h':(v==5)=false:=beq_eq_false_iff_ne.2 h5
  have h'':(v != 5)=true:=by simpa using h5
  have LO:=Lib.hid S0.out.low
  clear h5 hp ok hc
  go_enter Tryz.func32,Tryz.ntmps32
  go_wp2_with fail
  go_ret
  exact⟨rfl,LO.out⟩
theorem q9ic(t:List UInt8):(enc2 t).length=2+t.length:=by rw[qnp6];try omega
theorem qpa5(kind:Int)(f:Fi)(w:World)(hk:kind=8∨kind=10)(hv:qecx f.topic=true) :
 Calls Tryz.prog 33 #[.int .i64 kind,.agg (fiC f)] w fun e w'=>e = .returned (.string (bs (qjk5 kind f)))∧Below w.heap.size w w':=by
 have S0:=Lib.hid (BxF.made w f)
 have F1:=Lib.hid (qxzo f)
 have k0:(w.alloc (.cells (fiC f) 32)).cell? ⟨w.heap.size,0,none⟩=some (.string (bs f.topic)):=S0.out.cell 0
 have hlt:f.topic.length≤65535:=((qbv6 _).1 hv).1
 have TX:=fun W=>q9xc (bs f.topic) W (by rw[qkd1];exact hv)
 rw[qkd1] at TX
 rcases hk with rfl | rfl
 ·have OP:=Lib.hid (fun W (h:BxF w f W)=>(q3gr f W).mono fun e W' hh=>(⟨hh.1,h.call hh.2⟩:_∧BxF w f W'))
  have hm:qang f < 256:=by
   unfold qang bitC
   have h1:(f.qos%4).toNat < 4:=by omega
   have h2:(f.handling%4).toNat < 4:=by omega
   split<;>split<;>omega
  have PU:=fun W=>qe3g (qang f) 1 W (by omega)
  have ho:be (qang f) ((min (1:Int) 16).toNat)=[UInt8.ofNat (qang f)]:=by show be (qang f) 1=_;exact qwu8 _
  rw[ho] at PU
  unfold qjk5
  rw[if_pos rfl]
  have e1:bs (enc2 f.topic)++bs [UInt8.ofNat (qang f)]=bs (enc2 f.topic++[UInt8.ofNat (qang f)]):=qyv7 _ _
  have s1:¬9223372036854775807 < (bs (enc2 f.topic)).size+(bs [UInt8.ofNat (qang f)]).size:=by rw[q5zk,q5zk,q9ic];simp;omega
  generalize bs (enc2 f.topic++[UInt8.ofNat (qang f)])=Z at *
  generalize bs [UInt8.ofNat (qang f)]=Y at *
  generalize qang f=m at *
  generalize bs (enc2 f.topic)=X at *
  generalize bs f.topic=T at *
  replace TX:=Lib.hid TX
  replace PU:=Lib.hid PU
  have HM:=Lib.hid (show(m:Int) < 256 by omega)
  have E1:=Lib.hid (And.intro e1 s1)
  clear hv hlt hm ho e1 s1
  go_enter Tryz.func33,Tryz.ntmps33
  go_wp2_with fail
  refine(TX.out _).mono ?_
  rintro e W ⟨rfl,hb⟩
  have S1:=Lib.hid (S0.out.call hb)
  clear hb k0
  go_wp2_with (refine wpList_load_row rfl _ _ rfl w.heap.size rfl 32 _ (0,0) _ S1.out.box Tryz.underlying32 rfl (by rw[F1.out];exact qhg6) ?_)
  refine(OP.out _ S1.out).mono ?_
  rintro e W2 ⟨rfl,hb⟩
  have L2:=Lib.hid hb.low
  have hm:=HM.out
  clear hb
  go_wp2_with fail
  refine(PU.out _).mono ?_
  rintro e W3 ⟨rfl,hb⟩
  have L3:=Lib.hid (qxh2 L2.out hb)
  obtain⟨e1,s1⟩:=E1.out
  clear hb hm
  go_wp2_with fail
  go_ret
  exact⟨rfl,L3.out⟩
 ·unfold qjk5
  rw[if_neg (by decide),List.append_nil]
  generalize bs (enc2 f.topic)=X at *
  generalize bs f.topic=T at *
  replace TX:=Lib.hid TX
  clear hv hlt
  go_enter Tryz.func33,Tryz.ntmps33
  go_wp2_with fail
  refine(TX.out _).mono ?_
  rintro e W ⟨rfl,hb⟩
  have L2:=Lib.hid (S0.out.call hb).low
  clear hb k0
  go_wp2_with fail
  go_ret
  exact⟨rfl,L2.out⟩
end Go.Proofs.YtbecggefmbpnoaaGreatDoor
