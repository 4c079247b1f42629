/- The contracts of mqtt's methods that read a body, a chapter each. Condition: the bytes are no more than memory holds. -/
import Derived.Test.YtefmhbioggcfaaaGreatDoorK39
import Derived.Test.YtefmhbioggcfaaaGreatDoorK44
import Derived.Test.YtefmhbioggcfaaaGreatDoorK45
import Derived.Test.YtefmhbioggcfaaaGreatDoorK19
set_option maxRecDepth 100000
set_option maxHeartbeats 4000000
namespace Go.Proofs.YtefmhbioggcfaaaGreatDoor
open Lib(hid)
open Proofs.Tryz
open Go.RowKit
def rcC(v:Int)(h:Hd)(s:ByteArray):Array Value:=#[.int .i64 v,.int .i64 h.kind,.int .i64 h.flags,.int .i64 h.length,.string s]
def qzzm(w:World)(R:Pk×Nat)(e:Ending)(W:World):Prop:=
 ∃a:Ad,e=.returned (.tuple #[.agg (pkC R.1 a),.int .i64 (R.2:Nat)])/\PkAt W R.1 a/\CapM R.1 a/\FitM R.1/\Below w.heap.size w W/\(R.2≠0->R.1=Pk.zero/\a=adZ)/\FrA w R.1 a
theorem q4yb(s:Nat)(x:Pk):(if s≠0 then(Pk.zero,s) else(x,0)).2≠0->(if s≠0 then(Pk.zero,s) else(x,0)).1=Pk.zero:=by
 split
 ·exact fun _=>rfl
 ·exact fun h=>absurd rfl h
theorem q7qj{v k:Int}{l:List UInt8}:(q56s v k l).2≠0->(q56s v k l).1=Pk.zero:=by
 unfold q56s;split
 ·exact fun _=>rfl
 ·exact q4yb _ _
theorem q2xy{v f:Int}{l:List UInt8}:(qgrv v f l).2≠0->(qgrv v f l).1=Pk.zero:=by
 unfold qgrv;split
 ·exact fun _=>rfl
 ·exact q4yb _ _
theorem qmbh{v k:Int}{l:List UInt8}:(q9uf v k l).2≠0->(q9uf v k l).1=Pk.zero:=by
 unfold q9uf;split
 ·exact fun _=>rfl
 ·exact q4yb _ _
theorem qny0{v k:Int}{l:List UInt8}:(q98d v k l).2≠0->(q98d v k l).1=Pk.zero:=by
 unfold q98d;split
 ·exact fun _=>rfl
 ·exact q4yb _ _
theorem q980{v k:Int}{l:List UInt8}:(qf4x v k l).2≠0->(qf4x v k l).1=Pk.zero:=by
 unfold qf4x;split
 ·exact fun _=>rfl
 ·split
  ·exact fun _=>rfl
  ·exact q4yb _ _
theorem q2iz{w W:World}{v:Int}{h:Hd}{l:List UInt8}{a:Ad}(hc:q9d8 v h=0)(hz:(qdvz v h l).2≠0->(qdvz v h l).1=Pk.zero)(pa:PkAt W (qdvz v h l).1 a)(pc:(qdvz v h l).1.props.length<=a.pc)(hp:3<=h.kind\/PkCap (qdvz v h l).1 a)(ft:FitM (qdvz v h l).1)(hb:Below w.heap.size w W)(az:(qdvz v h l).2≠0->a=adZ)(fr:FrA w (qdvz v h l).1 a) :
 qzzm w (qdvz v h l) (.returned (.tuple #[.agg (pkC (qdvz v h l).1 a),.int .i64 ((qdvz v h l).2:Nat)])) W:=by
 refine⟨a,rfl,pa,⟨pc,fun hk=>?_⟩,ft,hb,fun e=>⟨hz e,az e⟩,fr⟩;rcases hp with hp|hp
 ·by_cases he:(qdvz v h l).2=0
  ·have:=(qel0 hc he).2.2.1
   omega
  ·rw[hz he,az he];exact qe1o
 ·exact hp
theorem r_con(v:Int)(h:Hd)(s:ByteArray)(w:World)(hc:q9d8 v h=0)(hr:h.kind<=2)(hm:s.size<=140737488351232) :
 Calls prog 61 #[.agg (rcC v h s)] w (qzzm w (qdvz v h s.data.toList)):=by
 have hk:=q39c (qri3.1 hc).2.1;have e:q56s v h.kind s.data.toList=qdvz v h s.data.toList:=by unfold qdvz;rw[if_pos (by omega)]
 have hz:=q7qj (v:=v) (l:=s.data.toList) (k:=h.kind);have hb0:=(qybm (w:=w) (.cells (rcC v h s) 99)).trans ((qybm (w:=w.alloc (.cells (rcC v h s) 99)) (.cells pkZ 38)).mono (by simp));have G0:=heap_alloc_new (w.alloc (.cells (rcC v h s) 99)) (.cells pkZ 38);have Z0:=World.size_alloc w (.cells (rcC v h s) 99);have RD:=fun W=>qgzg v h.kind s W (by omega);rw[e] at RD hz;have KX:=fun(W:World) (a:Ad)=>q2iz (w:=w) (W:=W) (a:=a) hc hz;have HZ:=hid qbwp;have hzv:=qrai;have hne:¬pkZ=#[]:=by intro h;have:=qbwp;rw[h] at this;cases this
 have RDH:=hid RD;have KXH:=hid KX;have HB0:=hid hb0;have HG0:=hid G0;have HZ0:=hid Z0;clear RD KX hb0 G0 Z0 hc hr hm e hz hk;unfold rcC at *;generalize qdvz v h s.data.toList=R at *;go_in;go_wp2_with fail;refine(RDH.out _).mono ?_;rintro e W ⟨a,rfl,pa,pc,ft,hb,az,fr⟩;generalize (w.alloc (.cells #[.int .i64 v,.int .i64 h.kind,.int .i64 h.flags,.int .i64 h.length,.string s] 99))=W0 at *;have G1:=(hb.block _ (lt_of_block HG0.out)).trans HG0.out;have hz1:=HZ0.out;have HE:=(KXH.out (W.setRow W0.heap.size (pkC R.1 a)) a (fr.row (by simp) pa _) pc.pc (.inr pc) ⟨ft.1,ft.2.1⟩ (q8xz (HB0.out.trans (hb.mono HB0.out.size)) (by omega) _) az (fr.mono (by have:=HB0.out.size;have:=HG0.out;omega)))
 rw[hz1] at G1 HE;replace G1:=hid G1;have hD1:=qwmp R.1 a;have hD2:=qmz0 R.1 a;obtain⟨D,hD⟩:∃D,pkC R.1 a=D:=⟨_,rfl⟩
 rw[hD] at hD1 hD2 HE ⊢;replace HE:=hid HE;have HD1:=hid hD1;have HD2:=hid hD2;clear hD1 hD2 hD pa pc ft hb az fr HB0 HG0 HZ0 hz1 RDH KXH;generalize w.heap.size+1=B at *;go_wp2_with (refine wpList_store_row rfl _ _ _ rfl B D rfl rfl 38 _ G1.out (by rw[HD1.out];exact q5nr) (by rw[HZ.out,HD1.out]) HD2.out ?_);refine q8iy (cs:=D) rfl rfl rfl rfl underlying38 rfl (by rw[HD1.out];exact q5nr) (setRow_heap _ _ _ _ _ _ G1.out) ?_;exact HE.out
theorem qtd6(v:Int)(h:Hd)(s:ByteArray)(w:World)(hc:q9d8 v h=0)(hr:h.kind=3)(hm:s.size<=140737488351232) :
 Calls prog 63 #[.agg (rcC v h s)] w (qzzm w (qdvz v h s.data.toList)):=by
 have hk:=q39c (qri3.1 hc).2.1;have e:qgrv v h.flags s.data.toList=qdvz v h s.data.toList:=by unfold qdvz;rw[if_neg (by omega),if_pos (by omega)]
 have hz:=q2xy (v:=v) (l:=s.data.toList) (f:=h.flags);have hb0:=(qybm (w:=w) (.cells (rcC v h s) 99)).trans ((qybm (w:=w.alloc (.cells (rcC v h s) 99)) (.cells pkZ 38)).mono (by simp));have G0:=heap_alloc_new (w.alloc (.cells (rcC v h s) 99)) (.cells pkZ 38);have Z0:=World.size_alloc w (.cells (rcC v h s) 99);have RD:=fun W=>qfim v h.flags s W hm;rw[e] at RD hz;have KX:=fun(W:World) (a:Ad)=>q2iz (w:=w) (W:=W) (a:=a) hc hz;have H3:=hid (show 3<=h.kind by omega);have HZ:=hid qbwp;have hzv:=qrai;have hne:¬pkZ=#[]:=by intro h;have:=qbwp;rw[h] at this;cases this
 have RDH:=hid RD;have KXH:=hid KX;have HB0:=hid hb0;have HG0:=hid G0;have HZ0:=hid Z0;clear RD KX hb0 G0 Z0 hc hr hm e hz hk;unfold rcC at *;generalize qdvz v h s.data.toList=R at *;go_in;go_wp2_with fail;refine(RDH.out _).mono ?_;rintro e W ⟨a,rfl,pa,pc,ft,hb,az,fr⟩;generalize (w.alloc (.cells #[.int .i64 v,.int .i64 h.kind,.int .i64 h.flags,.int .i64 h.length,.string s] 99))=W0 at *;have G1:=(hb.block _ (lt_of_block HG0.out)).trans HG0.out;have hz1:=HZ0.out;have HE:=(KXH.out (W.setRow W0.heap.size (pkC R.1 a)) a (fr.row (by simp) pa _) pc (.inl H3.out) ⟨ft.1,ft.2.1⟩ (q8xz (HB0.out.trans (hb.mono HB0.out.size)) (by omega) _) az (fr.mono (by have:=HB0.out.size;have:=HG0.out;omega)))
 rw[hz1] at G1 HE;replace G1:=hid G1;have hD1:=qwmp R.1 a;have hD2:=qmz0 R.1 a;obtain⟨D,hD⟩:∃D,pkC R.1 a=D:=⟨_,rfl⟩
 rw[hD] at hD1 hD2 HE ⊢;replace HE:=hid HE;have HD1:=hid hD1;have HD2:=hid hD2;clear hD1 hD2 hD pa pc ft hb az fr HB0 HG0 HZ0 hz1 RDH KXH;generalize w.heap.size+1=B at *;go_wp2_with (refine wpList_store_row rfl _ _ _ rfl B D rfl rfl 38 _ G1.out (by rw[HD1.out];exact q5nr) (by rw[HZ.out,HD1.out]) HD2.out ?_);refine q8iy (cs:=D) rfl rfl rfl rfl underlying38 rfl (by rw[HD1.out];exact q5nr) (setRow_heap _ _ _ _ _ _ G1.out) ?_;exact HE.out
theorem q11s(v:Int)(h:Hd)(s:ByteArray)(w:World)(hc:q9d8 v h=0)(hr:4<=h.kind/\h.kind<=7)(hm:s.size<=140737488351232) :
 Calls prog 65 #[.agg (rcC v h s)] w (qzzm w (qdvz v h s.data.toList)):=by
 have hk:=q39c (qri3.1 hc).2.1;have e:q9uf v h.kind s.data.toList=qdvz v h s.data.toList:=by unfold qdvz;rw[if_neg (by omega),if_neg (by omega),if_pos (by omega)]
 have hz:=qmbh (v:=v) (l:=s.data.toList) (k:=h.kind);have hb0:=(qybm (w:=w) (.cells (rcC v h s) 99)).trans ((qybm (w:=w.alloc (.cells (rcC v h s) 99)) (.cells pkZ 38)).mono (by simp));have G0:=heap_alloc_new (w.alloc (.cells (rcC v h s) 99)) (.cells pkZ 38);have Z0:=World.size_alloc w (.cells (rcC v h s) 99);have RD:=fun W=>qfe6 v h.kind s W (by omega) (by omega) hm;rw[e] at RD hz;have KX:=fun(W:World) (a:Ad)=>q2iz (w:=w) (W:=W) (a:=a) hc hz;have H3:=hid (show 3<=h.kind by omega);have HZ:=hid qbwp;have hzv:=qrai;have hne:¬pkZ=#[]:=by intro h;have:=qbwp;rw[h] at this;cases this
 have RDH:=hid RD;have KXH:=hid KX;have HB0:=hid hb0;have HG0:=hid G0;have HZ0:=hid Z0;clear RD KX hb0 G0 Z0 hc hr hm e hz hk;unfold rcC at *;generalize qdvz v h s.data.toList=R at *;go_in;go_wp2_with fail;refine(RDH.out _).mono ?_;rintro e W ⟨a,rfl,pa,pc,ft,hb,az,fr⟩;generalize (w.alloc (.cells #[.int .i64 v,.int .i64 h.kind,.int .i64 h.flags,.int .i64 h.length,.string s] 99))=W0 at *;have G1:=(hb.block _ (lt_of_block HG0.out)).trans HG0.out;have hz1:=HZ0.out;have HE:=(KXH.out (W.setRow W0.heap.size (pkC R.1 a)) a (fr.row (by simp) pa _) pc (.inl H3.out) ⟨ft.1,ft.2⟩ (q8xz (HB0.out.trans (hb.mono HB0.out.size)) (by omega) _) az (fr.mono (by have:=HB0.out.size;have:=HG0.out;omega)))
 rw[hz1] at G1 HE;replace G1:=hid G1;have hD1:=qwmp R.1 a;have hD2:=qmz0 R.1 a;obtain⟨D,hD⟩:∃D,pkC R.1 a=D:=⟨_,rfl⟩
 rw[hD] at hD1 hD2 HE ⊢;replace HE:=hid HE;have HD1:=hid hD1;have HD2:=hid hD2;clear hD1 hD2 hD pa pc ft hb az fr HB0 HG0 HZ0 hz1 RDH KXH;generalize w.heap.size+1=B at *;go_wp2_with (refine wpList_store_row rfl _ _ _ rfl B D rfl rfl 38 _ G1.out (by rw[HD1.out];exact q5nr) (by rw[HZ.out,HD1.out]) HD2.out ?_);refine q8iy (cs:=D) rfl rfl rfl rfl underlying38 rfl (by rw[HD1.out];exact q5nr) (setRow_heap _ _ _ _ _ _ G1.out) ?_;exact HE.out
theorem qktu(v:Int)(h:Hd)(s:ByteArray)(w:World)(hc:q9d8 v h=0)(hr:8<=h.kind/\h.kind<=11)(hm:s.size<=140737488351232)(few:FewS v h.kind s.data.toList) :
 Calls prog 67 #[.agg (rcC v h s)] w (qzzm w (qdvz v h s.data.toList)):=by
 have hk:=q39c (qri3.1 hc).2.1;have e:q98d v h.kind s.data.toList=qdvz v h s.data.toList:=by unfold qdvz;rw[if_neg (by omega),if_neg (by omega),if_neg (by omega),if_pos (by omega)]
 have hz:=qny0 (v:=v) (l:=s.data.toList) (k:=h.kind);have hb0:=(qybm (w:=w) (.cells (rcC v h s) 99)).trans ((qybm (w:=w.alloc (.cells (rcC v h s) 99)) (.cells pkZ 38)).mono (by simp));have G0:=heap_alloc_new (w.alloc (.cells (rcC v h s) 99)) (.cells pkZ 38);have Z0:=World.size_alloc w (.cells (rcC v h s) 99);have RD:=fun W=>qcqg v h.kind s W (by omega) (by omega) hm few;rw[e] at RD hz;have KX:=fun(W:World) (a:Ad)=>q2iz (w:=w) (W:=W) (a:=a) hc hz;have H3:=hid (show 3<=h.kind by omega);have HZ:=hid qbwp;have hzv:=qrai;have hne:¬pkZ=#[]:=by intro h;have:=qbwp;rw[h] at this;cases this
 have RDH:=hid RD;have KXH:=hid KX;have HB0:=hid hb0;have HG0:=hid G0;have HZ0:=hid Z0;clear RD KX hb0 G0 Z0 hc hr hm e hz hk few;unfold rcC at *;generalize qdvz v h s.data.toList=R at *;go_in;go_wp2_with fail;refine(RDH.out _).mono ?_;rintro e W ⟨a,rfl,pa,pc,ft,hb,az,fr⟩;generalize (w.alloc (.cells #[.int .i64 v,.int .i64 h.kind,.int .i64 h.flags,.int .i64 h.length,.string s] 99))=W0 at *;have G1:=(hb.block _ (lt_of_block HG0.out)).trans HG0.out;have hz1:=HZ0.out;have HE:=(KXH.out (W.setRow W0.heap.size (pkC R.1 a)) a (fr.row (by simp) pa _) pc (.inl H3.out) ⟨ft.1,ft.2⟩ (q8xz (HB0.out.trans (hb.mono HB0.out.size)) (by omega) _) az (fr.mono (by have:=HB0.out.size;have:=HG0.out;omega)))
 rw[hz1] at G1 HE;replace G1:=hid G1;have hD1:=qwmp R.1 a;have hD2:=qmz0 R.1 a;obtain⟨D,hD⟩:∃D,pkC R.1 a=D:=⟨_,rfl⟩
 rw[hD] at hD1 hD2 HE ⊢;replace HE:=hid HE;have HD1:=hid hD1;have HD2:=hid hD2;clear hD1 hD2 hD pa pc ft hb az fr HB0 HG0 HZ0 hz1 RDH KXH;generalize w.heap.size+1=B at *;go_wp2_with (refine wpList_store_row rfl _ _ _ rfl B D rfl rfl 38 _ G1.out (by rw[HD1.out];exact q5nr) (by rw[HZ.out,HD1.out]) HD2.out ?_);refine q8iy (cs:=D) rfl rfl rfl rfl underlying38 rfl (by rw[HD1.out];exact q5nr) (setRow_heap _ _ _ _ _ _ G1.out) ?_;exact HE.out
theorem qegv(v:Int)(h:Hd)(s:ByteArray)(w:World)(hc:q9d8 v h=0)(hr:12<=h.kind)(hm:s.size<=140737488351232) :
 Calls prog 69 #[.agg (rcC v h s)] w (qzzm w (qdvz v h s.data.toList)):=by
 have hk:=q39c (qri3.1 hc).2.1;have e:qf4x v h.kind s.data.toList=qdvz v h s.data.toList:=by unfold qdvz;rw[if_neg (by omega),if_neg (by omega),if_neg (by omega),if_neg (by omega)]
 have hz:=q980 (v:=v) (l:=s.data.toList) (k:=h.kind);have hb0:=(qybm (w:=w) (.cells (rcC v h s) 99)).trans ((qybm (w:=w.alloc (.cells (rcC v h s) 99)) (.cells pkZ 38)).mono (by simp));have G0:=heap_alloc_new (w.alloc (.cells (rcC v h s) 99)) (.cells pkZ 38);have Z0:=World.size_alloc w (.cells (rcC v h s) 99);have RD:=fun W=>q3lt v h.kind s W (by omega) (by have:=(q39c (qri3.1 hc).2.1).2;omega) hm;rw[e] at RD hz;have KX:=fun(W:World) (a:Ad)=>q2iz (w:=w) (W:=W) (a:=a) hc hz;have H3:=hid (show 3<=h.kind by omega);have HZ:=hid qbwp;have hzv:=qrai;have hne:¬pkZ=#[]:=by intro h;have:=qbwp;rw[h] at this;cases this
 have RDH:=hid RD;have KXH:=hid KX;have HB0:=hid hb0;have HG0:=hid G0;have HZ0:=hid Z0;clear RD KX hb0 G0 Z0 hc hr hm e hz hk;unfold rcC at *;generalize qdvz v h s.data.toList=R at *;go_in;go_wp2_with fail;refine(RDH.out _).mono ?_;rintro e W ⟨a,rfl,pa,pc,ft,hb,az,fr⟩;generalize (w.alloc (.cells #[.int .i64 v,.int .i64 h.kind,.int .i64 h.flags,.int .i64 h.length,.string s] 99))=W0 at *;have G1:=(hb.block _ (lt_of_block HG0.out)).trans HG0.out;have hz1:=HZ0.out;have HE:=(KXH.out (W.setRow W0.heap.size (pkC R.1 a)) a (fr.row (by simp) pa _) pc (.inl H3.out) ⟨ft.1,ft.2⟩ (q8xz (HB0.out.trans (hb.mono HB0.out.size)) (by omega) _) az (fr.mono (by have:=HB0.out.size;have:=HG0.out;omega)))
 rw[hz1] at G1 HE;replace G1:=hid G1;have hD1:=qwmp R.1 a;have hD2:=qmz0 R.1 a;obtain⟨D,hD⟩:∃D,pkC R.1 a=D:=⟨_,rfl⟩
 rw[hD] at hD1 hD2 HE ⊢;replace HE:=hid HE;have HD1:=hid hD1;have HD2:=hid hD2;clear hD1 hD2 hD pa pc ft hb az fr HB0 HG0 HZ0 hz1 RDH KXH;generalize w.heap.size+1=B at *;go_wp2_with (refine wpList_store_row rfl _ _ _ rfl B D rfl rfl 38 _ G1.out (by rw[HD1.out];exact q5nr) (by rw[HZ.out,HD1.out]) HD2.out ?_);refine q8iy (cs:=D) rfl rfl rfl rfl underlying38 rfl (by rw[HD1.out];exact q5nr) (setRow_heap _ _ _ _ _ _ G1.out) ?_;exact HE.out
structure WayR(k:Int)(f g:Nat):Prop where
 look:q1n3 noW qtav k=wayV f g
 rg:Runs g
 rd:∀(v:Int) (h:Hd) (s:ByteArray) (w:World),h.kind=k->q9d8 v h=0->s.size<=140737488351232->(8<=k->k<=11->FewS v h.kind s.data.toList)->Calls prog g #[.agg (rcC v h s)] w (qzzm w (qdvz v h s.data.toList))
theorem qc5b{k:Int}(h0:1<=k)(h1:k<=15):∃f g,WayR k f g:=by
 by_cases c:k<=2
 ·refine⟨60,_,?_,⟨_,func61,rfl⟩,fun v h s w e hc hm _=>r_con v h s w hc (by omega) hm⟩;obtain rfl|rfl:k=1\/k=2:=by omega
  all_goals rfl
 by_cases c:k=3
 ·refine⟨62,_,?_,⟨_,func63,rfl⟩,fun v h s w e hc hm _=>qtd6 v h s w hc (by omega) hm⟩;subst c;rfl
 by_cases c:k<=7
 ·refine⟨64,_,?_,⟨_,func65,rfl⟩,fun v h s w e hc hm _=>q11s v h s w hc (by omega) hm⟩;obtain rfl|rfl|rfl|rfl:k=4\/k=5\/k=6\/k=7:=by omega
  all_goals rfl
 by_cases c:k<=11
 ·refine⟨66,_,?_,⟨_,func67,rfl⟩,fun v h s w e hc hm few=>qktu v h s w hc (by omega) hm (few (by omega) c)⟩;obtain rfl|rfl|rfl|rfl:k=8\/k=9\/k=10\/k=11:=by omega
  all_goals rfl
 ·refine⟨68,_,?_,⟨_,func69,rfl⟩,fun v h s w e hc hm _=>qegv v h s w hc (by omega) hm⟩;obtain rfl|rfl|rfl|rfl:k=12\/k=13\/k=14\/k=15:=by omega
  all_goals rfl
section
variable{a:Act}{w:World}{d:Option Tmp}{p:String}{af:Array Edge}{gd:Option (Nat×Bool)}{x y z:Tmp}{r:TypeId}
theorem qfwa{v:Int}{h:Hd}{s:ByteArray}(hx:a.eval (.tmp x)=.int .i64 v)(hy:a.eval (.tmp y)=hdV h)(hz:a.eval (.tmp z)=.string s) :
 (execOp a.eval {dst:=d,op := .build 99 #[(0,.tmp x),(1,.tmp y),(2,.tmp z)],type:=r,pos:=p,after:=af,guard:=gd}).run prog w=.ok (.value (.agg (rcC v h s))) w:=by
 have hE:prog.built 99 [(0,.int .i64 v),(1,hdV h),(2,.string s)]=some (rcC v h s):=by kernel_rfl
 have e:(#[(0,Operand.tmp x),(1,Operand.tmp y),(2,Operand.tmp z)].map fun x=>(x.1,a.eval x.2))=#[(0,.int .i64 v),(1,hdV h),(2,.string s)]:=by simp[hx,hy,hz]
 unfold execOp;simp only[e,Sem.run_bind,run_build w _ _ (rcC v h s) hE,Result.andThen_ok,Sem.run_pure]
theorem qbb0{g:Nat}{h:Hd}(hx:a.eval (.tmp x)=.pointer (some ⟨g,0,none⟩))(hg:w.heap[g]?=some (.cells #[.int .i64 h.kind,.int .i64 h.flags,.int .i64 h.length] 65 (0,0))) :
 (execOp a.eval {dst:=d,op := .load 65 (.tmp x),type:=65,pos:=p,after:=af,guard:=gd}).run prog w=.ok (.value (hdV h)) w:=by
 unfold execOp;simp only[hx,Instr.loadAt,Instr.sureAddr,Sem.run_bind,Sem.run_pure,Result.andThen_ok,run_loadVar_row w g 65 65 _ (0,0) _ hg underlying65 rfl (show(prog.info? 65).map (·.size)=some 3 by kernel_rfl)]
 rfl
theorem qqcb{g:Nat}(hx:a.eval (.tmp x)=.pointer (some ⟨g,0,none⟩)) :
 (execOp a.eval {dst:=d,op := .fieldAddr 65 (.tmp x) 0,type:=r,pos:=p,after:=af,guard:=gd}).run prog w=.ok (.value (.pointer (some ⟨g,0,none⟩))) w:=by
 generalize a.eval=f at *;go_simp
theorem qc9t{s u:ByteArray}{i j:Nat}(hx:a.eval (.tmp x)=.string s)(hy:a.eval (.tmp y)=.int .i64 (i:Int))(hz:a.eval (.tmp z)=.int .i64 (j:Int))(h1:i<=j)(h2:j<=s.size)(hu:s.extract i j=u) :
 (execOp a.eval {dst:=d,op := .slice 9 (.tmp x) (some (.tmp y)) (some (.tmp z)) none,type:=r,pos:=p,after:=af,guard:=gd}).run prog w=.ok (.value (.string u)) w:=by
 subst hu;have h3:(i:Int)<=(j:Int):=by omega
 have h4:(j:Int)<=(s.size:Int):=by omega
 generalize a.eval=f at *;go_simp
end
theorem q7tx{Q:Exit->Act->World->Prop}{S:Option Nat×Option Ad×Bool->World->Prop}{W:World}{H R f g i j:Nat}{v q:Int}{h:Hd}{s u:ByteArray}{p:Pk}{x2 x3 x5 x6 x10 x11 x12 x13 x14 x15 x16 x17 x18 x19 x20 x21 x22 x23 x24 x25 x26 x27 x28 x29 x30 x31 x32 x33 x34 x35 x36 x37 x38 x39 x40 x41 x42 x43 x44 x45 x46 x47 x48 x49 x50 x51 x52 x53 x54 x55 x56 x57:Value}
 (hS:S (none,none,false) W.drew) (hk:1<=h.kind/\h.kind<=15) (hl:q1n3 noW qtav h.kind=wayV f g) (rg:Runs g) (h1:i<=j) (h2:j<=s.size) (hu:s.extract i j=u)
 (KH:∀x w,S x w->w.heap[H]?=some (.cells #[.int .i64 h.kind,.int .i64 h.flags,.int .i64 h.length] 65 (0,0))) (KW:∀b x w,S (some b,x) w->qvkg w b) (KR:∀x w,S x w->x.2.2=false->w.heap[R]?=some (.cells pkZ 38 (0,0)))
 (H0:∀x w,S x w->Calls prog 46 #[] w fun e w'=>∃b,e=.returned (.map (some b))/\S (some b,x.2) w')
 (H1:∀x w,S x w->x.2.1=none->Calls prog g #[.agg (rcC v h u)] w fun e w'=>∃a,e=.returned (.tuple #[.agg (pkC p a),.int .i64 q])/\S (x.1,some a,x.2.2) w')
 (ST:∀x w,S x w->x.2.1.isSome=true->x.2.2=false->S (x.1,x.2.1,true) (w.setRow R (pkC p (x.2.1.getD adZ))))
 (fin:∀(x:Option Nat×Option Ad×Bool) w,S x w->x.2.1.isSome=true->x.2.2=true->Q .normal ⟨#[(.int .i64 v),(.string s),x2,x3,(.pointer (some ⟨R,0,none⟩)),x5,(.int .i64 q),(.pointer (some ⟨H,0,none⟩)),(.int .i64 (i:Nat)),(.int .i64 (j:Nat)),x10,x11,x12,x13,x14,x15,x16,x17,x18,x19,x20,x21,x22,x23,x24,x25,x26,x27,x28,x29,x30,x31,x32,(.tuple #[(.agg (pkC p (x.2.1.getD adZ))),(.int .i64 q)]),(.map (some (x.1.getD 0))),(.pointer (some ⟨H,0,none⟩)),(.int .i64 h.kind),(wayV f g),(fnV g),(.int .i64 v),(hdV h),(.string s),(.int .i64 (i:Nat)),(.int .i64 (j:Nat)),(.string u),(.agg (rcC v h u)),(.tuple #[(.agg (pkC p (x.2.1.getD adZ))),(.int .i64 q)]),(.agg (pkC p (x.2.1.getD adZ))),(.int .i64 q),x49,x50,x51,x52,x53,x54,x55,x56,x57],[]⟩ w) :
 (Code.region 7 (qfhu.opsAt 7 Tryz.f28.body) true).wp prog Q ⟨#[(.int .i64 v),(.string s),x2,x3,(.pointer (some ⟨R,0,none⟩)),x5,x6,(.pointer (some ⟨H,0,none⟩)),(.int .i64 (i:Nat)),(.int .i64 (j:Nat)),x10,x11,x12,x13,x14,x15,x16,x17,x18,x19,x20,x21,x22,x23,x24,x25,x26,x27,x28,x29,x30,x31,x32,x33,x34,x35,x36,x37,x38,x39,x40,x41,x42,x43,x44,x45,x46,x47,x48,x49,x50,x51,x52,x53,x54,x55,x56,x57],[]⟩ W:=by
 refine qu7n.wp (fresh:=fun i x=>(i=12->x.2.1=none)/\(i=16->x.2.2=false)) (hf0:=fun i=>⟨fun _=>rfl,fun _=>rfl⟩) (x:=(none,none,false)) (S:=S) (made:=fun i x=>(i=0->x.1.isSome=true)/\(i=12->x.2.1.isSome=true)/\(i=16->x.2.2=true)) (war:=[]) (ds:=[34,35,36,37,38,39,40,41,42,43,44,45,46,33,47,48,6]) (A:=[(.int .i64 v),(.string s),x2,x3,(.pointer (some ⟨R,0,none⟩)),x5,x6,(.pointer (some ⟨H,0,none⟩)),(.int .i64 (i:Nat)),(.int .i64 (j:Nat)),x10,x11,x12,x13,x14,x15,x16,x17,x18,x19,x20,x21,x22,x23,x24,x25,x26,x27,x28,x29,x30,x31,x32,x33,x34,x35,x36,x37,x38,x39,x40,x41,x42,x43,x44,x45,x46,x47,x48,x49,x50,x51,x52,x53,x54,x55,x56,x57]) (B:=fun x=>[(.int .i64 v),(.string s),x2,x3,(.pointer (some ⟨R,0,none⟩)),x5,(.int .i64 q),(.pointer (some ⟨H,0,none⟩)),(.int .i64 (i:Nat)),(.int .i64 (j:Nat)),x10,x11,x12,x13,x14,x15,x16,x17,x18,x19,x20,x21,x22,x23,x24,x25,x26,x27,x28,x29,x30,x31,x32,(.tuple #[(.agg (pkC p (x.2.1.getD adZ))),(.int .i64 q)]),(.map (some (x.1.getD 0))),(.pointer (some ⟨H,0,none⟩)),(.int .i64 h.kind),(wayV f g),(fnV g),(.int .i64 v),(hdV h),(.string s),(.int .i64 (i:Nat)),(.int .i64 (j:Nat)),(.string u),(.agg (rcC v h u)),(.tuple #[(.agg (pkC p (x.2.1.getD adZ))),(.int .i64 q)]),(.agg (pkC p (x.2.1.getD adZ))),(.int .i64 q),x49,x50,x51,x52,x53,x54,x55,x56,x57]) (D:=[]) (by kernel_rfl) (by kernel_rfl) (by kernel_rfl) ?_ hS ?_ ?fin
 case refine_1=>exact fun x=>(by repeat (first|exact trivial|refine⟨.inr rfl,?_⟩|refine⟨.inl rfl,?_⟩))
 refine q2y4.All.step rfl ((fun x w hm hf hS => .inl ⟨rfl,.call _ _ (qpjl.enter0 func46 rfl) ((H0 x w hS).mono fun e w' ⟨b,he,hs⟩=>⟨_,(some b,x.2),he,(fun d hd=>by cases hd;rfl),hs,⟨fun _=>rfl,fun h=>absurd h (by decide),fun h=>absurd h (by decide)⟩,fun i h=>⟨fun _=>rfl,h.2⟩,fun i _ h=>h,[34],by kernel_rfl,(by repeat (first|exact trivial|refine⟨.inr rfl,?_⟩|refine⟨.inl rfl,?_⟩))⟩)⟩)) ?_;refine q2y4.All.step rfl (qu7n.Does.pure (val:=fun x=>(.pointer (some ⟨H,0,none⟩))) rfl (fun x=>⟨fun h=>absurd h (by decide),fun h=>absurd h (by decide),fun h=>absurd h (by decide)⟩) (fun x w hm hS=>⟨rfl,rfl,qqcb rfl⟩)) ?_;refine q2y4.All.step rfl (qu7n.Does.pure (val:=fun x=>(.int .i64 h.kind)) rfl (fun x=>⟨fun h=>absurd h (by decide),fun h=>absurd h (by decide),fun h=>absurd h (by decide)⟩) (fun x w hm hS=>⟨rfl,rfl,qkcv rfl (cell_of_row _ _ 0 _ _ _ (KH x w hS))⟩)) ?_;refine q2y4.All.step rfl (qu7n.Does.pure (val:=fun x=>(wayV f g)) rfl (fun x=>⟨fun h=>absurd h (by decide),fun h=>absurd h (by decide),fun h=>absurd h (by decide)⟩) (fun x w hm hS=>⟨rfl,rfl,(by obtain⟨b,hb⟩:=Option.isSome_iff_exists.1 ((hm 0 (by decide+kernel) (by decide)).1 rfl);obtain⟨x1,x2⟩:=x;cases hb;exact q0c2 rfl rfl (KW b x2 w hS) hk.1 hk.2 hl)⟩)) ?_
 refine q2y4.All.step rfl (qu7n.Does.pure (val:=fun x=>(fnV g)) rfl (fun x=>⟨fun h=>absurd h (by decide),fun h=>absurd h (by decide),fun h=>absurd h (by decide)⟩) (fun x w hm hS=>⟨rfl,rfl,qmbw rfl⟩)) ?_;refine q2y4.All.step rfl (qu7n.Does.pure (val:=fun x=>(.int .i64 v)) rfl (fun x=>⟨fun h=>absurd h (by decide),fun h=>absurd h (by decide),fun h=>absurd h (by decide)⟩) (fun x w hm hS=>⟨rfl,rfl,rfl⟩)) ?_;refine q2y4.All.step rfl (qu7n.Does.pure (val:=fun x=>(hdV h)) rfl (fun x=>⟨fun h=>absurd h (by decide),fun h=>absurd h (by decide),fun h=>absurd h (by decide)⟩) (fun x w hm hS=>⟨rfl,rfl,qbb0 rfl (KH x w hS)⟩)) ?_;refine q2y4.All.step rfl (qu7n.Does.pure (val:=fun x=>(.string s)) rfl (fun x=>⟨fun h=>absurd h (by decide),fun h=>absurd h (by decide),fun h=>absurd h (by decide)⟩) (fun x w hm hS=>⟨rfl,rfl,rfl⟩)) ?_;refine q2y4.All.step rfl (qu7n.Does.pure (val:=fun x=>(.int .i64 (i:Nat))) rfl (fun x=>⟨fun h=>absurd h (by decide),fun h=>absurd h (by decide),fun h=>absurd h (by decide)⟩) (fun x w hm hS=>⟨rfl,rfl,rfl⟩)) ?_;refine q2y4.All.step rfl (qu7n.Does.pure (val:=fun x=>(.int .i64 (j:Nat))) rfl (fun x=>⟨fun h=>absurd h (by decide),fun h=>absurd h (by decide),fun h=>absurd h (by decide)⟩) (fun x w hm hS=>⟨rfl,rfl,rfl⟩)) ?_;refine q2y4.All.step rfl (qu7n.Does.pure (val:=fun x=>(.string u)) rfl (fun x=>⟨fun h=>absurd h (by decide),fun h=>absurd h (by decide),fun h=>absurd h (by decide)⟩) (fun x w hm hS=>⟨rfl,rfl,qc9t rfl rfl rfl h1 h2 hu⟩)) ?_;refine q2y4.All.step rfl (qu7n.Does.pure (val:=fun x=>(.agg (rcC v h u))) rfl (fun x=>⟨fun h=>absurd h (by decide),fun h=>absurd h (by decide),fun h=>absurd h (by decide)⟩) (fun x w hm hS=>⟨rfl,rfl,qfwa rfl rfl rfl⟩)) ?_;refine q2y4.All.step rfl ((fun x w hm hf hS => .inl ⟨rfl,.call _ _ (qwfj rg rfl rfl) ((H1 x w hS (hf.1 rfl)).mono fun e w' ⟨a,he,hs⟩=>⟨_,(x.1,some a,x.2.2),he,(fun d hd=>by cases hd;rfl),hs,⟨fun h=>absurd h (by decide),fun _=>rfl,fun h=>absurd h (by decide)⟩,fun i h=>⟨h.1,fun _=>rfl,h.2.2⟩,fun i hi h=>⟨fun e=>absurd e hi,h.2⟩,[46,33,47],by kernel_rfl,(by repeat (first|exact trivial|refine⟨.inr rfl,?_⟩|refine⟨.inl rfl,?_⟩))⟩)⟩)) ?_;refine q2y4.All.step rfl (qu7n.Does.pure (val:=fun x=>(.tuple #[(.agg (pkC p (x.2.1.getD adZ))),(.int .i64 q)])) rfl (fun x=>⟨fun h=>absurd h (by decide),fun h=>absurd h (by decide),fun h=>absurd h (by decide)⟩) (fun x w hm hS=>⟨rfl,rfl,rfl⟩)) ?_;refine q2y4.All.step rfl (qu7n.Does.pure (val:=fun x=>(.agg (pkC p (x.2.1.getD adZ)))) rfl (fun x=>⟨fun h=>absurd h (by decide),fun h=>absurd h (by decide),fun h=>absurd h (by decide)⟩) (fun x w hm hS=>⟨rfl,rfl,rfl⟩)) ?_;refine q2y4.All.step rfl (qu7n.Does.pure (val:=fun x=>(.int .i64 q)) rfl (fun x=>⟨fun h=>absurd h (by decide),fun h=>absurd h (by decide),fun h=>absurd h (by decide)⟩) (fun x w hm hS=>⟨rfl,rfl,rfl⟩)) ?_;refine q2y4.All.step rfl ((fun x w hm hf hS => .inl ⟨rfl,.skip (x.1,x.2.1,true) _ (qn4o rfl rfl (qwmp _ _) (qmz0 _ _) (KR x w hS (hf.2 rfl)) qbwp) ⟨fun d hd=>(by cases hd),ST x w hS ((hm 12 (by decide+kernel) (by decide)).2.1 rfl) (hf.2 rfl),⟨fun h=>absurd h (by decide),fun h=>absurd h (by decide),fun _=>rfl⟩,fun i h=>⟨h.1,h.2.1,fun _=>rfl⟩,fun i hi h=>⟨h.1,fun e=>absurd e hi⟩,[],rfl,q2y4.off_refl 0 _⟩⟩)) ?_;refine q2y4.All.step rfl (qu7n.Does.pure (val:=fun x=>(.int .i64 q)) rfl (fun x=>⟨fun h=>absurd h (by decide),fun h=>absurd h (by decide),fun h=>absurd h (by decide)⟩) (fun x w hm hS=>⟨rfl,rfl,rfl⟩)) ?_;exact q2y4.All.fin rfl
 case fin=>exact(fun x w hm hS=>fin x w hS ((hm 12 (by decide+kernel)).2.1 rfl) ((hm 16 (by decide+kernel)).2.2 rfl))
theorem qvkg.ne{W:World}{b n:Nat}{cs:Array Value}{t:TypeId}(h:qvkg W b)(hc:W.heap[n]?=some (.cells cs t (0,0))):b≠n:=by obtain⟨D,⟨es,c,h1,h2⟩,h3⟩:=h;intro e;subst e;rw[h1] at hc;cases hc
def q32s(w:World)(R:Pk×Nat×Nat)(e:Ending)(W:World):Prop:=
 ∃a:Ad,e=.returned (.tuple #[.agg (pkC R.1 a),.int .i64 (R.2.1:Nat),.int .i64 (R.2.2:Nat)])/\PkAt W R.1 a/\CapM R.1 a/\FitM R.1/\Below w.heap.size w W/\(R.2.2≠0->a=adZ)/\FrA w R.1 a
structure RqR(w:World)(H:Nat)(h:Hd)(R:Pk×Nat)(x:Option Nat×Option Ad×Bool)(W:World):Prop where
 low:Below w.heap.size w W
 lt:w.heap.size<H
 hd:W.heap[H]?=some (.cells #[.int .i64 h.kind,.int .i64 h.flags,.int .i64 h.length] 65 (0,0))
 wy:∀b,x.1=some b->qvkg W b/\b≠w.heap.size
 row:W.heap[w.heap.size]?=some (.cells (if x.2.2=true then pkC R.1 (x.2.1.getD adZ) else pkZ) 38 (0,0))
 pk:∀a,x.2.1=some a->PkAt W R.1 a/\CapM R.1 a/\FitM R.1/\(R.2≠0->R.1=Pk.zero/\a=adZ)/\∃w1:World,w.heap.size<w1.heap.size/\FrA w1 R.1 a
 ns:x.2.2=true->x.2.1.isSome=true
section
variable{w W W':World}{H:Nat}{h:Hd}{R:Pk×Nat}{x:Option Nat×Option Ad×Bool}
theorem RqR.call(s:RqR w H h R x W)(hb:Below W.heap.size W W'):RqR w H h R x W':=
 ⟨qxh2 s.low hb,s.lt,(hb.block _ (lt_of_block s.hd)).trans s.hd,fun b e=>⟨(s.wy b e).1.below hb,(s.wy b e).2⟩,(hb.block _ (lt_of_block s.row)).trans s.row,fun a e=>⟨(s.pk a e).1.below hb,(s.pk a e).2⟩,s.ns⟩
theorem RqR.map(s:RqR w H h R x W){b:Nat}(hb:qvkg W b):RqR w H h R (some b,x.2) W:=
 ⟨s.low,s.lt,s.hd,fun c e=>by cases e;exact⟨hb,hb.ne s.row⟩,s.row,s.pk,s.ns⟩
theorem RqR.got(s:RqR w H h R x W)(hn:x.2.1=none){e:Ending}(hx:qzzm W R e W'):∃a,e=.returned (.tuple #[.agg (pkC R.1 a),.int .i64 (R.2:Nat)])/\RqR w H h R (x.1,some a,x.2.2) W':=by
 obtain⟨a,he,h1,h2,h3,hb,h5,fr⟩:=hx;have hn0:=lt_of_block s.row;have s:=s.call hb;obtain⟨xm,xa,xs⟩:=x;cases (show xa=none from hn);cases xs with
 |true=>cases s.ns rfl
 |false=>refine⟨a,he,s.low,s.lt,s.hd,s.wy,s.row,fun c e=>?_,fun e=>(by cases e)⟩;cases e;exact⟨h1,h2,h3,h5,_,hn0,fr⟩
theorem RqR.stored(s:RqR w H h R x W)(h1:x.2.1.isSome=true)(_:x.2.2=false):RqR w H h R (x.1,x.2.1,true) (W.setRow w.heap.size (pkC R.1 (x.2.1.getD adZ))):=by have lt:=s.lt;refine⟨q8xz s.low (Nat.le_refl _) _,lt,(setRow_other W _ H _ (by omega)).trans s.hd,fun b e=>⟨(s.wy b e).1.of_block (setRow_other W _ b _ (s.wy b e).2),(s.wy b e).2⟩,setRow_heap _ _ _ _ _ _ s.row,fun a e=>⟨?_,(s.pk a e).2⟩,fun _=>h1⟩;obtain⟨k1,-,-,-,w1,k2,k3⟩:=s.pk a e;exact k3.row k2 k1 _
end
theorem RqR.start{w W:World}{h:Hd}{R:Pk×Nat}{l:Int}(hl:h.length=l)(h0:Below w.heap.size w (w.alloc (.cells pkZ 38))/\(w.alloc (.cells pkZ 38)).heap[w.heap.size]?=some (.cells pkZ 38 (0,0)))(hb:Below (w.alloc (.cells pkZ 38)).heap.size (w.alloc (.cells pkZ 38)) W) :
 RqR w W.heap.size h R (none,none,false) (W.alloc (.cells #[.int .i64 h.kind,.int .i64 h.flags,.int .i64 l] 65)):=by
 subst hl;have hbx:=qybm (w:=W) (.cells #[.int .i64 h.kind,.int .i64 h.flags,.int .i64 h.length] 65);have r1:=(hb.block _ (lt_of_block h0.2)).trans h0.2;exact⟨qxh2 (qxh2 h0.1 hb) hbx,lt_of_block r1,heap_alloc_new _ _,fun b e=>(by cases e),(hbx.block _ (lt_of_block r1)).trans r1,fun a e=>(by cases e),fun e=>(by cases e)⟩
theorem qulu{w W:World}{v:Int}{l:List UInt8}{e:Nat}(hR:qyib v l=(Pk.zero,0,e))(hb:Below w.heap.size w W) :
 q32s w (qyib v l) (.returned (.tuple #[.agg pkZ,.int .i64 0,.int .i64 (e:Nat)])) (W.setRow w.heap.size pkZ):=by
 rw[hR];exact⟨adZ,rfl,qa3p _,⟨Nat.zero_le _,fun _=>qe1o⟩,qkys,q8xz hb (Nat.le_refl _) _,fun _=>rfl,q16x w⟩
theorem q7xn{v:Int}{l:List UInt8}{h:Hd}{i e:Nat}(hh:qday v l=(h,i,e)) :
 qyib v l=if e≠0 then(Pk.zero,0,e) else if ((l.length-i:Nat):Int)<h.length then(Pk.zero,0,3)
  else if (qdvz v h ((l.drop i).take h.length.toNat)).2≠0 then(Pk.zero,0,if (qdvz v h ((l.drop i).take h.length.toNat)).2=3 then 5 else(qdvz v h ((l.drop i).take h.length.toNat)).2) else((qdvz v h ((l.drop i).take h.length.toNat)).1,i+h.length.toNat,0):=by
 unfold qyib;simp only[hh]
theorem quap(v:Int)(s:ByteArray)(w:World)(hm:s.size<=140737488351232)(few:FewM v s.data.toList) :
 Calls prog 28 #[.int .i64 v,.string s] w (q32s w (qyib v s.data.toList)):=by
 have HZ:=hid qbwp;have hzv:=qrai;have hne:¬pkZ=#[]:=by intro h;have:=qbwp;rw[h] at this;cases this
 have PZ:Hid (pkZ.all (·.oneCell')=true):=hid (qmz0 Pk.zero adZ);have RD:=fun W=>q5fz v s W (by omega);unfold qm9f HdRd hdV at RD;have R0:=heap_alloc_new w (.cells pkZ 38);have L0:=qybm (w:=w) (.cells pkZ 38);have S0:=hid (And.intro L0 R0);have hback:=qu5k (v:=v) (l:=s.data.toList);have hl:s.data.toList.length=s.size:=(q4ad s).symm;have RZ:=hid (fun(e:Nat) W (hR:qyib v s.data.toList=(Pk.zero,0,e)) (hb:Below w.heap.size w W)=>qulu hR hb);unfold FewM at few;obtain⟨⟨h,i,e⟩,hh⟩:∃z,qday v s.data.toList=z:=⟨_,rfl⟩
 have hsp:=q7xn hh;rw[hh] at RD hback few;simp only at RD hback few;clear R0 L0 hh;by_cases he:e=0
 ·subst he;obtain⟨hc,hi,-⟩:=hback rfl;rw[hl] at hi hsp;have few:=few rfl;rw[hl] at few;obtain⟨m,hmm⟩:∃m:Nat,h.length=(m:Int):=⟨h.length.toNat,by have:=(qri3.1 hc).2.2.2.1;omega⟩
  have hm9:m<=268435455:=by have:=(qri3.1 hc).2.2.2.2;omega
  rw[hmm,Int.toNat_natCast,if_neg (by simp)] at hsp;rw[hmm,Int.toNat_natCast] at few;rw[hmm] at RD;have w1:wrap64 ((s.size:Int)-(i:Int))=(s.size:Int)-(i:Int):=by unfold wrap64;omega
  have w2:wrap64 ((i:Int)+(m:Int))=((i+m:Nat):Int):=by unfold wrap64;omega
  replace RD:=hid RD;by_cases hs:((s.size-i:Nat):Int)<(m:Int)
  ·rw[if_pos hs] at hsp;have g1:decide ((s.size:Int)-(i:Int)<(m:Int))=true:=decide_eq_true (by omega);have RZH:=hid (fun W hb=>RZ.out 3 W hsp hb);have HMM:=hid hmm;clear few hback hs hi hc hm hm9 hl hsp RZ hmm;go_in;go_wp2_with fail;refine(RD.out _).mono ?_;rintro e W ⟨rfl,hb⟩;have ST:=hid (RqR.start (h:=h) (R:=(Pk.zero,0)) HMM.out S0.out hb);clear hb;go_wp2_with (first
    |(refine wpList_buildTo rfl 38 _ rfl (some _) rfl pkZ (by kernel_rfl) ?_)
    |(refine wpList_store_row rfl _ _ _ rfl w.heap.size pkZ rfl rfl 38 _ ST.out.row (by rw[HZ.out];exact q5nr) rfl PZ.out ?_))
   exact qabx (cs:=pkZ) rfl rfl rfl rfl rfl underlying38 rfl (by rw[HZ.out];exact q5nr) (setRow_heap _ _ _ _ _ _ ST.out.row) (RZH.out _ ST.out.low)
  ·rw[if_neg hs] at hsp;have g1:decide ((s.size:Int)-(i:Int)<(m:Int))=false:=decide_eq_false (by omega);have few:=few hs;have hk:=q39c (qri3.1 hc).2.1;obtain⟨f,g,HW⟩:=qc5b hk.1 hk.2;have hu:(s.extract i (i+m)).data.toList=(s.data.toList.drop i).take m:=by rw[q31q,qkd1]
   have hz:(s.extract i (i+m)).size<=140737488351232:=by rw[ByteArray.size_extract];omega
   obtain⟨u,hu2⟩:∃u,s.extract i (i+m)=u:=⟨_,rfl⟩
   rw[hu2] at hu hz;rw[<-hu] at hsp few;have BR:=fun W=>HW.rd v h u W rfl hc hz few;obtain⟨R,hR⟩:∃R,qdvz v h u.data.toList=R:=⟨_,rfl⟩
   rw[hR] at hsp BR;have HWH:=hid HW;have BRH:=hid BR;have HK:=hid hk;have HU:=hid hu2;have HI:=hid (show i+m<=s.size by omega);have HMM:=hid hmm;have HSP:=hid hsp;clear few hback hs hi hc hm hm9 hl hsp hmm HW BR hk hu hz hu2 hR;go_in;go_wp2_with fail;refine(RD.out _).mono ?_;rintro e W ⟨rfl,hb⟩;have ST:=hid (RqR.start (h:=h) (R:=R) HMM.out S0.out hb);clear hb
   go_upto_region 7 with fail
   rw[w2];generalize W.alloc (.cells #[.int .i64 h.kind,.int .i64 h.flags,.int .i64 (m:Int)] 65)=W1 at *;generalize W.heap.size=H at *;refine q7tx (S:=RqR w H h R) (H:=H) (R:=w.heap.size) (f:=f) (g:=g) (i:=i) (j:=i+m) (q:=(R.2:Nat)) (h:=h) (u:=u) (p:=R.1) (ST.out.call (Below.refl _ _).drew) HK.out HWH.out.look HWH.out.rg (Nat.le_add_right _ _) HI.out HU.out
    (fun x W h=>h.hd) (fun b x W h=>(h.wy b rfl).1) (fun x W h hs=>by have:=h.row;rw[hs] at this;exact this) (fun x W h=>(qdie W).mono fun e W' ⟨b,he,hw,hb⟩=>⟨b,he,(h.call hb).map hw⟩)
    (fun x W h hn=>(BRH.out W).mono fun e W' hx=>h.got hn hx) (fun x W h h1 h2=>h.stored h1 h2) ?_
   rintro⟨xm,xa,xs⟩ W3 hS ha hx;obtain⟨a,rfl⟩:=Option.isSome_iff_exists.1 ha;cases (show xs=true from hx);obtain⟨k1,k2,k3,k4,w9,k5,k6⟩:=hS.pk a rfl;have hrow:W3.heap[w.heap.size]?=some (.cells (pkC R.1 a) 38 (0,0)):=hS.row;have LO:=hid hS.low;have hsp:=HSP.out;clear ha hx hS ST HWH BRH HK HU HI HSP;dsimp only;by_cases h0:R.2=0
   ·rw[h0,if_neg (by simp)] at hsp;have HE:=hid (show q32s w (qyib v s.data.toList) (.returned (.tuple #[.agg (pkC R.1 a),.int .i64 ((i+m:Nat):Int),.int .i64 ((0:Nat):Int)])) (W3.setRow w.heap.size (pkC R.1 a)) from by rw[hsp];exact⟨a,rfl,k6.row k5 k1 _,k2,k3,q8xz LO.out (Nat.le_refl _) _,fun e=>absurd rfl e,k6.mono (by omega)⟩)
    have hD1:=qwmp R.1 a;have hD2:=qmz0 R.1 a;rw[h0];generalize pkC R.1 a=D at *;have HD1:=hid hD1;have HD2:=hid hD2;have HR:=hid hrow;clear hD1 hD2 hrow k1 k2 k3 k4 k5 k6 hsp h0;go_wp2_with (first
     |(refine wpList_load_row rfl _ _ rfl w.heap.size rfl 38 D (0,0) _ HR.out underlying38 rfl (by rw[HD1.out];exact q5nr) ?_)
     |(refine wpList_store_row rfl _ _ _ rfl w.heap.size D rfl rfl 38 _ HR.out (by rw[HD1.out];exact q5nr) rfl HD2.out ?_))
    exact qabx (cs:=D) rfl rfl rfl rfl rfl underlying38 rfl (by rw[HD1.out];exact q5nr) (setRow_heap _ _ _ _ _ _ HR.out) HE.out
   ·rw[if_pos h0] at hsp;have HR:=hid hrow;have HRZ:=hid (show(pkC R.1 a).size=pkZ.size from rfl);have r1:((R.2:Int)==0)=false:=by simp;omega
    clear hrow k1 k2 k3 k4 k5 k6;show Exit.then _ _ _ ⟨#[_,_,_,_,_,_,(.int .i64 (R.2:Nat)),_,_,_,_,_,_,_,_,_,_,_,_,_,_,_,_,_,_,_,_,_,_,_,_,_,_,_,_,_,_,_,_,_,_,_,_,_,_,_,_,_,_,_,_,_,_,_,_,_,_,_],_⟩ _;generalize hq:R.2=q at *;generalize pkC R.1 ((some a).getD adZ)=D at *;generalize pkC R.1 a=D2 at *;by_cases h3:q=3
    ·subst h3;rw[if_pos rfl] at hsp;have RZH:=hid (RZ.out 5 W3 hsp LO.out);clear h0 hsp RZ LO r1 hq;go_wp2_with (first
      |(refine wpList_buildTo rfl 38 _ rfl (some _) rfl pkZ (by kernel_rfl) ?_)
      |(refine wpList_store_row rfl _ _ _ rfl w.heap.size pkZ rfl rfl 38 _ HR.out (by rw[HZ.out];exact q5nr) HRZ.out PZ.out ?_))
     exact qabx (cs:=pkZ) rfl rfl rfl rfl rfl underlying38 rfl (by rw[HZ.out];exact q5nr) (setRow_heap _ _ _ _ _ _ HR.out) RZH.out
    ·rw[if_neg h3] at hsp;have RZH:=hid (RZ.out q W3 hsp LO.out);have r3:((q:Int)==3)=false:=by simp;omega
     clear h0 h3 hsp RZ LO hq;go_wp2_with (first
      |(refine wpList_buildTo rfl 38 _ rfl (some _) rfl pkZ (by kernel_rfl) ?_)
      |(refine wpList_store_row rfl _ _ _ rfl w.heap.size pkZ rfl rfl 38 _ HR.out (by rw[HZ.out];exact q5nr) HRZ.out PZ.out ?_))
     exact qabx (cs:=pkZ) rfl rfl rfl rfl rfl underlying38 rfl (by rw[HZ.out];exact q5nr) (setRow_heap _ _ _ _ _ _ HR.out) RZH.out
 ·rw[if_pos he] at hsp;have e1:((e:Int)==0)=false:=by simp;omega
  have e2:((e:Int) != 0)=true:=by simp;omega
  have RZH:=hid (fun W hb=>RZ.out e W hsp hb);replace RD:=hid RD;clear few hback hm hl hsp RZ he;go_in;go_wp2_with fail;refine(RD.out _).mono ?_;rintro e0 W ⟨rfl,hb⟩;have ST:=hid (RqR.start (h:=h) (R:=(Pk.zero,0)) rfl S0.out hb);clear hb;go_wp2_with (first
   |(refine wpList_buildTo rfl 38 _ rfl (some _) rfl pkZ (by kernel_rfl) ?_)
   |(refine wpList_store_row rfl _ _ _ rfl w.heap.size pkZ rfl rfl 38 _ ST.out.row (by rw[HZ.out];exact q5nr) rfl PZ.out ?_))
  exact qabx (cs:=pkZ) rfl rfl rfl rfl rfl underlying38 rfl (by rw[HZ.out];exact q5nr) (setRow_heap _ _ _ _ _ _ ST.out.row) (RZH.out _ ST.out.low)
def quht(w:World)(R:Pk×Nat×Nat)(e:Ending)(W:World):Prop:=
 ∃a:Ad,e=.returned (.tuple #[.agg (pkC R.1 a),.int .i64 (R.2.1:Nat),.int .i64 (R.2.2:Nat)])/\PkAt W R.1 a/\FitM R.1/\Below w.heap.size w W/\FrA w R.1 a
theorem quht.err{w W:World}{e:Nat}(hb:Below w.heap.size w W) :
 quht w (Pk.zero,0,e) (.returned (.tuple #[.agg pkZ,.int .i64 0,.int .i64 (e:Nat)])) (W.setRow w.heap.size pkZ):=
 ⟨adZ,rfl,qa3p _,qkys,q8xz hb (Nat.le_refl _) _,q16x w⟩
theorem quht.ok{w W W':World}{R:Pk×Nat×Nat}{e:Ending}(hl:Below w.heap.size w W)(hw:w.heap.size<W.heap.size)(hr:W.heap[w.heap.size]?=some (.cells pkZ 38 (0,0)))(h:q32s W R e W') :
 ∃a,e=.returned (.tuple #[.agg (pkC R.1 a),.int .i64 (R.2.1:Nat),.int .i64 (R.2.2:Nat)])/\W'.heap[w.heap.size]?=some (.cells pkZ 38 (0,0))/\
  quht w R e (W'.setRow w.heap.size (pkC R.1 a)):=by
 obtain⟨a,he,h1,-,h2,hb,-,fr⟩:=h;exact⟨a,he,(hb.block _ hw).trans hr,a,he,fr.row hw h1 _,h2,q8xz (qxh2 hl hb) (Nat.le_refl _) _,fr.mono hl.size⟩
theorem qq1p(v:Int)(m:Nat)(s:ByteArray)(w:World)(hm:s.size<=140737488351232)(hmm:m<=1048576)(few:FewM v s.data.toList) :
 Calls prog 19 #[.int .i64 v,.int .i64 (m:Nat),.string s] w (quht w (q7ku v m s.data.toList)):=by
 have HZ:=hid qbwp;have hzv:=qrai;have hne:¬pkZ=#[]:=by intro h;have:=qbwp;rw[h] at this;cases this
 have PZ:Hid (pkZ.all (·.oneCell')=true):=hid (qmz0 Pk.zero adZ);have RD:=fun W=>q5fz v s W (by omega);unfold qm9f HdRd hdV at RD;have R0:=heap_alloc_new w (.cells pkZ 38);have L0:=qybm (w:=w) (.cells pkZ 38);have S0:=hid (And.intro L0 R0);have hback:=qu5k (v:=v) (l:=s.data.toList);have MR:=hid (fun W=>quap v s W hm few);have hnx:q7ku v m s.data.toList=if (qday v s.data.toList).2.2≠0 then(Pk.zero,0,(qday v s.data.toList).2.2) else if (m:Int)<((qday v s.data.toList).2.1:Int)+(qday v s.data.toList).1.length then(Pk.zero,0,4) else qyib v s.data.toList:=rfl;obtain⟨N,hN⟩:∃N,q7ku v m s.data.toList=N:=⟨_,rfl⟩
 rw[hN] at hnx ⊢;obtain⟨⟨h,i,e⟩,hh⟩:∃z,qday v s.data.toList=z:=⟨_,rfl⟩
 rw[hh] at RD hback hnx;simp only at RD hback hnx;have hl:s.data.toList.length=s.size:=(q4ad s).symm;clear R0 L0 hh few hN;by_cases he:e=0
 ·subst he;obtain⟨hc,hi,-⟩:=hback rfl;rw[hl] at hi;obtain⟨q,hq⟩:∃q:Nat,h.length=(q:Int):=⟨h.length.toNat,by have:=(qri3.1 hc).2.2.2.1;omega⟩
  have hq9:q<=268435455:=by have:=(qri3.1 hc).2.2.2.2;omega
  rw[if_neg (by simp),hq] at hnx;rw[hq] at RD;have w1:wrap64 ((m:Int)-(i:Int))=(m:Int)-(i:Int):=by unfold wrap64;omega
  replace RD:=hid RD;by_cases hs:(m:Int)<(i:Int)+(q:Int)
  ·rw[if_pos hs] at hnx;subst hnx;have g1:decide ((m:Int)-(i:Int)<(q:Int))=true:=decide_eq_true (by omega);clear hback hs hi hc hm hq9 hl MR hq;go_in;go_wp2_with fail;refine(RD.out _).mono ?_;rintro e W ⟨rfl,hb⟩;have ST:=hid (show Below w.heap.size w (W.alloc (.cells #[.int .i64 h.kind,.int .i64 h.flags,.int .i64 (q:Int)] 65))/\(W.alloc (.cells #[.int .i64 h.kind,.int .i64 h.flags,.int .i64 (q:Int)] 65)).heap[w.heap.size]?=some (.cells pkZ 38 (0,0)) from
    ⟨qxh2 (qxh2 S0.out.1 hb) (qybm _),(heap_alloc_old _ _ (Nat.lt_of_lt_of_le (lt_of_block S0.out.2) hb.size)).trans ((hb.block _ (lt_of_block S0.out.2)).trans S0.out.2)⟩)
   clear hb;go_wp2_with (first
    |(refine wpList_buildTo rfl 38 _ rfl (some _) rfl pkZ (by kernel_rfl) ?_)
    |(refine wpList_store_row rfl _ _ _ rfl w.heap.size pkZ rfl rfl 38 _ ST.out.2 (by rw[HZ.out];exact q5nr) rfl PZ.out ?_))
   exact qabx (cs:=pkZ) rfl rfl rfl rfl rfl underlying38 rfl (by rw[HZ.out];exact q5nr) (setRow_heap _ _ _ _ _ _ ST.out.2) (quht.err ST.out.1)
  ·rw[if_neg hs] at hnx;have g1:decide ((m:Int)-(i:Int)<(q:Int))=false:=decide_eq_false (by omega);have HNX:=hid hnx;clear hback hs hi hc hm hq9 hl hq hnx;go_in;go_wp2_with fail;refine(RD.out _).mono ?_;rintro e W ⟨rfl,hb⟩;have ST:=hid (show Below w.heap.size w (W.alloc (.cells #[.int .i64 h.kind,.int .i64 h.flags,.int .i64 (q:Int)] 65))/\(W.alloc (.cells #[.int .i64 h.kind,.int .i64 h.flags,.int .i64 (q:Int)] 65)).heap[w.heap.size]?=some (.cells pkZ 38 (0,0)) from
    ⟨qxh2 (qxh2 S0.out.1 hb) (qybm _),(heap_alloc_old _ _ (Nat.lt_of_lt_of_le (lt_of_block S0.out.2) hb.size)).trans ((hb.block _ (lt_of_block S0.out.2)).trans S0.out.2)⟩)
   clear hb;go_wp2_with fail;refine(MR.out _).mono ?_;intro e2 W2 hr;rw[<-HNX.out] at hr;obtain⟨a,rfl,hrow,hret⟩:=quht.ok ST.out.1 (lt_of_block ST.out.2) ST.out.2 hr;have hD1:=qwmp N.1 a;have hD2:=qmz0 N.1 a;generalize pkC N.1 a=D at *;have HD1:=hid hD1;have HD2:=hid hD2;have HR:=hid hrow;have HE:=hid hret;clear hD1 hD2 hrow hret hr MR RD ST;go_wp2_with (refine wpList_store_row rfl _ _ _ rfl w.heap.size D rfl rfl 38 _ HR.out (by rw[HD1.out];exact q5nr) (by rw[HZ.out,HD1.out]) HD2.out ?_);exact qabx (cs:=D) rfl rfl rfl rfl rfl underlying38 rfl (by rw[HD1.out];exact q5nr) (setRow_heap _ _ _ _ _ _ HR.out) HE.out
 ·rw[if_pos he] at hnx;subst hnx;have e2:((e:Int) != 0)=true:=by simp;omega
  have e1:((e:Int)==0)=false:=by simp;omega
  replace RD:=hid RD;clear hback hm hl he MR;go_in;go_wp2_with fail;refine(RD.out _).mono ?_;rintro e0 W ⟨rfl,hb⟩;have ST:=hid (show Below w.heap.size w (W.alloc (.cells #[.int .i64 h.kind,.int .i64 h.flags,.int .i64 h.length] 65))/\(W.alloc (.cells #[.int .i64 h.kind,.int .i64 h.flags,.int .i64 h.length] 65)).heap[w.heap.size]?=some (.cells pkZ 38 (0,0)) from
   ⟨qxh2 (qxh2 S0.out.1 hb) (qybm _),(heap_alloc_old _ _ (Nat.lt_of_lt_of_le (lt_of_block S0.out.2) hb.size)).trans ((hb.block _ (lt_of_block S0.out.2)).trans S0.out.2)⟩)
  clear hb;go_wp2_with (first
   |(refine wpList_buildTo rfl 38 _ rfl (some _) rfl pkZ (by kernel_rfl) ?_)
   |(refine wpList_store_row rfl _ _ _ rfl w.heap.size pkZ rfl rfl 38 _ ST.out.2 (by rw[HZ.out];exact q5nr) rfl PZ.out ?_))
  exact qabx (cs:=pkZ) rfl rfl rfl rfl rfl underlying38 rfl (by rw[HZ.out];exact q5nr) (setRow_heap _ _ _ _ _ _ ST.out.2) (quht.err ST.out.1)
def qwgk(v:Int)(p:Pk):List UInt8×Nat:=if qc11 v p≠0 then([],qc11 v p) else(qx3b v p,0)
def wrC(v:Int)(p:Pk)(a:Ad):Array Value:=#[.int .i64 v]++pkC p a
theorem q6ms(v:Int)(p:Pk)(a:Ad)(j:Nat):(wrC v p a)[1+j]?=(pkC p a)[j]? := by
 unfold wrC;rw[Array.getElem?_append_right (by show 1<=1+j;omega)]
 congr 1;show 1+j-1=j;omega
theorem qonq(v:Int)(p:Pk)(a:Ad):(wrC v p a)[0]?=some (.int .i64 v):=by unfold wrC;rw[Array.getElem?_append_left (by show 0<1;omega)];rfl
def qqdr(v:Int)(p:Pk)(w:World)(e:Ending)(w':World):Prop:=e=.returned (.tuple #[.string (bs (qwgk v p).1),.int .i64 ((qwgk v p).2:Nat)])/\Below w.heap.size w w'
theorem qjv2{w:World}(v:Int)(p:Pk)(a:Ad)(t:TypeId)(j:Nat)(u:Value)(h:(pkC p a)[j]?=some u):(w.alloc (.cells (wrC v p a) t)).cell? (Addr.add ⟨w.heap.size,1,none⟩ j)=some u:=by rw[show Addr.add ⟨w.heap.size,1,none⟩ j=⟨w.heap.size,1+j,none⟩ by simp[Addr.add]];rw[cell_of_row _ _ (1+j) _ _ _ (heap_alloc_new w (.cells (wrC v p a) t)),q6ms,h]
theorem qokd(v:Int)(p:Pk)(a:Ad)(w:World)(hp:PkAt w p a)(sp:q21o p)(ok:PkOk p)(cm:CapM p a)(hk:p.kind<=2) :
 Calls prog 60 #[.agg (wrC v p a)] w (qqdr v p w):=by
 have hbx:=qybm (w:=w) (.cells (wrC v p a) 102);have CB:=qz43 v p a (w.alloc (.cells (wrC v p a) 102)) (hp.below hbx) sp ok (cm.2 hk);have e:qso1 v p=qwgk v p:=by
  have e1:qc11 v p=validC v p:=by unfold qc11;rw[if_pos (by omega)]
  have e2:qx3b v p=rawC v p:=by unfold qx3b;rw[if_pos (by omega)]
  unfold qso1 qwgk;rw[e1,e2]
 rw[e] at CB;unfold qqdr;have k0:(w.alloc (.cells (wrC v p a) 102)).cell? ⟨w.heap.size,0,none⟩=some (.int .i64 v):=(cell_of_row _ _ 0 _ _ _ (heap_alloc_new w (.cells (wrC v p a) 102))).trans (qonq v p a);have KP:=hid (qjv2 (w:=w) v p a 102);have C1:=hid (qwmp p a);have LO:=hid hbx;have CBH:=hid CB;clear hbx CB hp sp ok cm hk e;generalize wrC v p a=D at *;generalize qwgk v p=R at *;unfold pkV at CBH;generalize pkC p a=C at *;go_in;go_wp2_with (refine ql0m rfl 38 _ rfl ⟨w.heap.size,1,none⟩ rfl C _ KP.out underlying38 rfl (by rw[C1.out];exact q5nr) ?_);refine(CBH.out).mono ?_;rintro e W ⟨rfl,hb⟩;have L2:=hid (qxh2 LO.out hb);clear hb;go_wp2
 go_ret2
 exact⟨rfl,L2.out⟩
theorem qhk0(v:Int)(p:Pk)(a:Ad)(w:World)(hp:PkAt w p a)(sp:q21o p)(ok:PkOk p)(cm:CapM p a)(hk:p.kind=3) :
 Calls prog 62 #[.agg (wrC v p a)] w (qqdr v p w):=by
 have hbx:=qybm (w:=w) (.cells (wrC v p a) 102);have CB:=qoa5n v p a (w.alloc (.cells (wrC v p a) 102)) (hp.below hbx) sp ok (cm.1);have e:qtsh v p=qwgk v p:=by
  have e1:qc11 v p=q6ed v p:=by unfold qc11;rw[if_neg (by omega),if_pos (by omega)]
  have e2:qx3b v p=rawU v p:=by unfold qx3b;rw[if_neg (by omega),if_pos (by omega)]
  unfold qtsh qwgk;rw[e1,e2]
 rw[e] at CB;unfold qqdr;have k0:(w.alloc (.cells (wrC v p a) 102)).cell? ⟨w.heap.size,0,none⟩=some (.int .i64 v):=(cell_of_row _ _ 0 _ _ _ (heap_alloc_new w (.cells (wrC v p a) 102))).trans (qonq v p a);have KP:=hid (qjv2 (w:=w) v p a 102);have C1:=hid (qwmp p a);have LO:=hid hbx;have CBH:=hid CB;clear hbx CB hp sp ok cm hk e;generalize wrC v p a=D at *;generalize qwgk v p=R at *
 skip
 generalize pkC p a=C at *;go_in;go_wp2_with (refine ql0m rfl 38 _ rfl ⟨w.heap.size,1,none⟩ rfl C _ KP.out underlying38 rfl (by rw[C1.out];exact q5nr) ?_);refine(CBH.out).mono ?_;rintro e W ⟨rfl,hb⟩;have L2:=hid (qxh2 LO.out hb);clear hb;go_wp2
 go_ret2
 exact⟨rfl,L2.out⟩
theorem q1h3(v:Int)(p:Pk)(a:Ad)(w:World)(hp:PkAt w p a)(sp:q21o p)(ok:PkOk p)(cm:CapM p a)(hk:4<=p.kind/\p.kind<=7) :
 Calls prog 64 #[.agg (wrC v p a)] w (qqdr v p w):=by
 have hbx:=qybm (w:=w) (.cells (wrC v p a) 102);have CB:=q9ca v p a (w.alloc (.cells (wrC v p a) 102)) (hp.below hbx) sp ok (cm.1);have e:q04h v p=qwgk v p:=by
  have e1:qc11 v p=qryp v p:=by unfold qc11;rw[if_neg (by omega),if_neg (by omega),if_pos (by omega)]
  have e2:qx3b v p=rawA v p:=by unfold qx3b;rw[if_neg (by omega),if_neg (by omega),if_pos (by omega)]
  unfold q04h qwgk;rw[e1,e2]
 rw[e] at CB;unfold qqdr;have k0:(w.alloc (.cells (wrC v p a) 102)).cell? ⟨w.heap.size,0,none⟩=some (.int .i64 v):=(cell_of_row _ _ 0 _ _ _ (heap_alloc_new w (.cells (wrC v p a) 102))).trans (qonq v p a);have KP:=hid (qjv2 (w:=w) v p a 102);have C1:=hid (qwmp p a);have LO:=hid hbx;have CBH:=hid CB;clear hbx CB hp sp ok cm hk e;generalize wrC v p a=D at *;generalize qwgk v p=R at *
 skip
 generalize pkC p a=C at *;go_in;go_wp2_with (refine ql0m rfl 38 _ rfl ⟨w.heap.size,1,none⟩ rfl C _ KP.out underlying38 rfl (by rw[C1.out];exact q5nr) ?_);refine(CBH.out).mono ?_;rintro e W ⟨rfl,hb⟩;have L2:=hid (qxh2 LO.out hb);clear hb;go_wp2
 go_ret2
 exact⟨rfl,L2.out⟩
theorem q4x1(v:Int)(p:Pk)(a:Ad)(w:World)(hp:PkAt w p a)(sp:q21o p)(ok:PkOk p)(cm:CapM p a)(hk:8<=p.kind/\p.kind<=11) :
 Calls prog 66 #[.agg (wrC v p a)] w (qqdr v p w):=by
 have hbx:=qybm (w:=w) (.cells (wrC v p a) 102);have CB:=q7zk v p a (w.alloc (.cells (wrC v p a) 102)) (hp.below hbx) sp ok (cm.1);have e:qktk v p=qwgk v p:=by
  have e1:qc11 v p=q3m2 v p:=by unfold qc11;rw[if_neg (by omega),if_neg (by omega),if_neg (by omega),if_pos (by omega)]
  have e2:qx3b v p=rawS v p:=by unfold qx3b;rw[if_neg (by omega),if_neg (by omega),if_neg (by omega),if_pos (by omega)]
  unfold qktk qwgk;rw[e1,e2]
 rw[e] at CB;unfold qqdr;have k0:(w.alloc (.cells (wrC v p a) 102)).cell? ⟨w.heap.size,0,none⟩=some (.int .i64 v):=(cell_of_row _ _ 0 _ _ _ (heap_alloc_new w (.cells (wrC v p a) 102))).trans (qonq v p a);have KP:=hid (qjv2 (w:=w) v p a 102);have C1:=hid (qwmp p a);have LO:=hid hbx;have CBH:=hid CB;clear hbx CB hp sp ok cm hk e;generalize wrC v p a=D at *;generalize qwgk v p=R at *
 skip
 generalize pkC p a=C at *;go_in;go_wp2_with (refine ql0m rfl 38 _ rfl ⟨w.heap.size,1,none⟩ rfl C _ KP.out underlying38 rfl (by rw[C1.out];exact q5nr) ?_);refine(CBH.out).mono ?_;rintro e W ⟨rfl,hb⟩;have L2:=hid (qxh2 LO.out hb);clear hb;go_wp2
 go_ret2
 exact⟨rfl,L2.out⟩
theorem q6mv(v:Int)(p:Pk)(a:Ad)(w:World)(hp:PkAt w p a)(sp:q21o p)(ok:PkOk p)(cm:CapM p a)(hk:12<=p.kind) :
 Calls prog 68 #[.agg (wrC v p a)] w (qqdr v p w):=by
 have hbx:=qybm (w:=w) (.cells (wrC v p a) 102);have CB:=qck4 v p a (w.alloc (.cells (wrC v p a) 102)) (hp.below hbx) sp ok (cm.1);have e:q2jl v p=qwgk v p:=by
  have e1:qc11 v p=q1ra v p:=by unfold qc11;rw[if_neg (by omega),if_neg (by omega),if_neg (by omega),if_neg (by omega)]
  have e2:qx3b v p=rawK v p:=by unfold qx3b;rw[if_neg (by omega),if_neg (by omega),if_neg (by omega),if_neg (by omega)]
  unfold q2jl qwgk;rw[e1,e2]
 rw[e] at CB;unfold qqdr;have k0:(w.alloc (.cells (wrC v p a) 102)).cell? ⟨w.heap.size,0,none⟩=some (.int .i64 v):=(cell_of_row _ _ 0 _ _ _ (heap_alloc_new w (.cells (wrC v p a) 102))).trans (qonq v p a);have KP:=hid (qjv2 (w:=w) v p a 102);have C1:=hid (qwmp p a);have LO:=hid hbx;have CBH:=hid CB;clear hbx CB hp sp ok cm hk e;generalize wrC v p a=D at *;generalize qwgk v p=R at *
 skip
 generalize pkC p a=C at *;go_in;go_wp2_with (refine ql0m rfl 38 _ rfl ⟨w.heap.size,1,none⟩ rfl C _ KP.out underlying38 rfl (by rw[C1.out];exact q5nr) ?_);refine(CBH.out).mono ?_;rintro e W ⟨rfl,hb⟩;have L2:=hid (qxh2 LO.out hb);clear hb;go_wp2
 go_ret2
 exact⟨rfl,L2.out⟩
structure WayW(k:Int)(f g:Nat):Prop where
 look:q1n3 noW qtav k=wayV f g
 rf:Runs f
 wr:∀(v:Int) (p:Pk) (a:Ad) (w:World),p.kind=k->PkAt w p a->q21o p->PkOk p->CapM p a->Calls prog f #[.agg (wrC v p a)] w (qqdr v p w)
theorem qniq{k:Int}(h0:1<=k)(h1:k<=15):∃f g,WayW k f g:=by
 by_cases c:k<=2
 ·refine⟨_,61,?_,⟨_,func60,rfl⟩,fun v p a w e hp sp ok cm=>qokd v p a w hp sp ok cm (by omega)⟩;obtain rfl|rfl:k=1\/k=2:=by omega
  all_goals rfl
 by_cases c:k=3
 ·refine⟨_,63,?_,⟨_,func62,rfl⟩,fun v p a w e hp sp ok cm=>qhk0 v p a w hp sp ok cm (by omega)⟩;subst c;rfl
 by_cases c:k<=7
 ·refine⟨_,65,?_,⟨_,func64,rfl⟩,fun v p a w e hp sp ok cm=>q1h3 v p a w hp sp ok cm (by omega)⟩;obtain rfl|rfl|rfl|rfl:k=4\/k=5\/k=6\/k=7:=by omega
  all_goals rfl
 by_cases c:k<=11
 ·refine⟨_,67,?_,⟨_,func66,rfl⟩,fun v p a w e hp sp ok cm=>q4x1 v p a w hp sp ok cm (by omega)⟩;obtain rfl|rfl|rfl|rfl:k=8\/k=9\/k=10\/k=11:=by omega
  all_goals rfl
 ·refine⟨_,69,?_,⟨_,func68,rfl⟩,fun v p a w e hp sp ok cm=>q6mv v p a w hp sp ok cm (by omega)⟩;obtain rfl|rfl|rfl|rfl:k=12\/k=13\/k=14\/k=15:=by omega
  all_goals rfl
section
variable{a:Act}{w:World}{d:Option Tmp}{p:String}{af:Array Edge}{gd:Option (Nat×Bool)}{x y z:Tmp}{r:TypeId}
theorem qcrw{v:Int}{C E:Array Value}(hx:a.eval (.tmp x)=.int .i64 v)(hy:a.eval (.tmp y)=.agg C)(hE:prog.built 102 [(0,.int .i64 v),(1,.agg C)]=some E) :
 (execOp a.eval {dst:=d,op := .build 102 #[(0,.tmp x),(1,.tmp y)],type:=r,pos:=p,after:=af,guard:=gd}).run prog w=.ok (.value (.agg E)) w:=by
 have e:(#[(0,Operand.tmp x),(1,Operand.tmp y)].map fun x=>(x.1,a.eval x.2))=#[(0,.int .i64 v),(1,.agg C)]:=by simp[hx,hy]
 unfold execOp;simp only[e,Sem.run_bind,run_build w _ _ E hE,Result.andThen_ok,Sem.run_pure]
theorem qet0(v:Int)(p:Pk)(a:Ad):prog.built 102 [(0,.int .i64 v),(1,.agg (pkC p a))]=some (wrC v p a):=by kernel_rfl
end
theorem qjqt{Q:Exit->Act->World->Prop}{S:Option Nat->World->Prop}{W:World}{B f g:Nat}{v k q:Int}{X:ByteArray}{C E:Array Value}{x1 x2 x4 x5 x6 x7 x8 x9 x10 x11 x12 x13 x14 x15 x16 x17 x18 x19 x20 x21 x22 x23 x24 x25 x26 x27 x28 x29 x30 x31 x32 x33 x34 x35 x36 x37 x38 x39 x40 x41 x42 x43 x44 x45 x46 x47:Value}
 (hS:S none W.drew) (hk:1<=k/\k<=15) (hl:q1n3 noW qtav k=wayV f g) (rf:Runs f) (hC:C.size=25) (hE:prog.built 102 [(0,.int .i64 v),(1,.agg C)]=some E)
 (K0:∀x w,S x w->w.cell? ⟨B,0,none⟩=some (.int .i64 k)) (KB:∀x w,S x w->w.heap[B]?=some (.cells C 38 (0,0))) (KW:∀b w,S (some b) w->qvkg w b)
 (H0:∀x w,S x w->Calls prog 46 #[] w fun e w'=>∃b,e=.returned (.map (some b))/\S (some b) w')
 (H1:∀x w,S x w->Calls prog f #[.agg E] w fun e w'=>e=.returned (.tuple #[(.string X),(.int .i64 q)])/\S x w')
 (fin:∀x w,S x w->Q .normal ⟨#[(.int .i64 v),x1,x2,(.pointer (some ⟨B,0,none⟩)),x4,(.string X),(.int .i64 q),x7,x8,x9,x10,x11,x12,x13,x14,x15,x16,(.tuple #[(.string X),(.int .i64 q)]),(.map (some (x.getD 0))),(.pointer (some ⟨B,0,none⟩)),(.int .i64 k),(wayV f g),(fnV f),(.int .i64 v),(.agg C),(.agg E),(.tuple #[(.string X),(.int .i64 q)]),(.string X),(.int .i64 q),x29,x30,x31,x32,x33,x34,x35,x36,x37,x38,x39,x40,x41,x42,x43,x44,x45,x46,x47],[]⟩ w) :
 (Code.region 4 (qfhu.opsAt 4 Tryz.f29.body) true).wp prog Q ⟨#[(.int .i64 v),x1,x2,(.pointer (some ⟨B,0,none⟩)),x4,x5,x6,x7,x8,x9,x10,x11,x12,x13,x14,x15,x16,x17,x18,x19,x20,x21,x22,x23,x24,x25,x26,x27,x28,x29,x30,x31,x32,x33,x34,x35,x36,x37,x38,x39,x40,x41,x42,x43,x44,x45,x46,x47],[]⟩ W:=by
 refine q2y4.wp (x:=none) (S:=S) (made:=fun i x=>i=0->x.isSome=true) (war:=[]) (ds:=[18,19,20,21,22,23,24,25,26,17,27,28,5,6]) (A:=[(.int .i64 v),x1,x2,(.pointer (some ⟨B,0,none⟩)),x4,x5,x6,x7,x8,x9,x10,x11,x12,x13,x14,x15,x16,x17,x18,x19,x20,x21,x22,x23,x24,x25,x26,x27,x28,x29,x30,x31,x32,x33,x34,x35,x36,x37,x38,x39,x40,x41,x42,x43,x44,x45,x46,x47]) (B:=fun x=>[(.int .i64 v),x1,x2,(.pointer (some ⟨B,0,none⟩)),x4,(.string X),(.int .i64 q),x7,x8,x9,x10,x11,x12,x13,x14,x15,x16,(.tuple #[(.string X),(.int .i64 q)]),(.map (some (x.getD 0))),(.pointer (some ⟨B,0,none⟩)),(.int .i64 k),(wayV f g),(fnV f),(.int .i64 v),(.agg C),(.agg E),(.tuple #[(.string X),(.int .i64 q)]),(.string X),(.int .i64 q),x29,x30,x31,x32,x33,x34,x35,x36,x37,x38,x39,x40,x41,x42,x43,x44,x45,x46,x47]) (D:=[]) (by kernel_rfl) (by kernel_rfl) (by kernel_rfl) ?_ hS ?_ (fun x w hm hS=>fin x w hS)
 ·exact fun x=>(by repeat (first|exact trivial|refine⟨.inr rfl,?_⟩|refine⟨.inl rfl,?_⟩))
 refine q2y4.All.step rfl (fun x w hm hS => .inl ⟨rfl,.call _ _ (qpjl.enter0 func46 rfl) ((H0 x w hS).mono fun e w' ⟨b,he,h1⟩=>⟨_,some b,he,(fun d hd=>by cases hd;rfl),h1,(fun _=>rfl),(fun i _ _=>rfl),[18],by kernel_rfl,(by repeat (first|exact trivial|refine⟨.inr rfl,?_⟩|refine⟨.inl rfl,?_⟩))⟩)⟩) ?_;refine q2y4.All.step rfl (q2y4.Does.pure (val:=fun x=>(.pointer (some ⟨B,0,none⟩))) rfl (fun x h=>absurd h (by decide)) (fun x w hm hS=>⟨rfl,rfl,qd7q rfl⟩)) ?_;refine q2y4.All.step rfl (q2y4.Does.pure (val:=fun x=>(.int .i64 k)) rfl (fun x h=>absurd h (by decide)) (fun x w hm hS=>⟨rfl,rfl,qkcv rfl (K0 x w hS)⟩)) ?_;refine q2y4.All.step rfl (q2y4.Does.pure (val:=fun x=>(wayV f g)) rfl (fun x h=>absurd h (by decide)) (fun x w hm hS=>⟨rfl,rfl,(by obtain⟨b,rfl⟩:=Option.isSome_iff_exists.1 (hm 0 (by decide+kernel) (by decide) rfl);exact q0c2 rfl rfl (KW b w hS) hk.1 hk.2 hl)⟩)) ?_
 refine q2y4.All.step rfl (q2y4.Does.pure (val:=fun x=>(fnV f)) rfl (fun x h=>absurd h (by decide)) (fun x w hm hS=>⟨rfl,rfl,q058 rfl⟩)) ?_;refine q2y4.All.step rfl (q2y4.Does.pure (val:=fun x=>(.int .i64 v)) rfl (fun x h=>absurd h (by decide)) (fun x w hm hS=>⟨rfl,rfl,rfl⟩)) ?_;refine q2y4.All.step rfl (q2y4.Does.pure (val:=fun x=>(.agg C)) rfl (fun x h=>absurd h (by decide)) (fun x w hm hS=>⟨rfl,rfl,qjuh rfl hC (KB x w hS)⟩)) ?_;refine q2y4.All.step rfl (q2y4.Does.pure (val:=fun x=>(.agg E)) rfl (fun x h=>absurd h (by decide)) (fun x w hm hS=>⟨rfl,rfl,qcrw rfl rfl hE⟩)) ?_;refine q2y4.All.step rfl (q2y4.Does.call (val:=fun x=>(.tuple #[(.string X),(.int .i64 q)])) rfl (fun x h=>absurd h (by decide)) (fun x w hm hS=>⟨rfl,rfl,qwfj rf rfl rfl,H1 x w hS⟩)) ?_;refine q2y4.All.step rfl (q2y4.Does.pure (val:=fun x=>(.tuple #[(.string X),(.int .i64 q)])) rfl (fun x h=>absurd h (by decide)) (fun x w hm hS=>⟨rfl,rfl,rfl⟩)) ?_;refine q2y4.All.step rfl (q2y4.Does.pure (val:=fun x=>(.string X)) rfl (fun x h=>absurd h (by decide)) (fun x w hm hS=>⟨rfl,rfl,rfl⟩)) ?_;refine q2y4.All.step rfl (q2y4.Does.pure (val:=fun x=>(.int .i64 q)) rfl (fun x h=>absurd h (by decide)) (fun x w hm hS=>⟨rfl,rfl,rfl⟩)) ?_;refine q2y4.All.step rfl (q2y4.Does.pure (val:=fun x=>(.string X)) rfl (fun x h=>absurd h (by decide)) (fun x w hm hS=>⟨rfl,rfl,rfl⟩)) ?_;refine q2y4.All.step rfl (q2y4.Does.pure (val:=fun x=>(.int .i64 q)) rfl (fun x h=>absurd h (by decide)) (fun x w hm hS=>⟨rfl,rfl,rfl⟩)) ?_;exact q2y4.All.fin rfl
def q8xn(v:Int)(p:Pk):List UInt8×List UInt8×Nat:=if q8s2 v p≠0 then([],[],q8s2 v p) else(rawH (q9sw v p),qx3b v p,0)
theorem qjm3{v:Int}{p:Pk}(h:(qjyu v p.kind p.dup p.retain p.qos).2≠0):q8s2 v p=(qjyu v p.kind p.dup p.retain p.qos).2:=by
 unfold qjyu at h ⊢;unfold q8s2;by_cases h1:verH v=false
 ·rw[if_pos h1,if_pos h1]
 rw[if_neg h1,if_neg h1] at *;by_cases h2:qbe2 v p.kind=false
 ·rw[if_pos h2,if_pos h2]
 rw[if_neg h2,if_neg h2] at *;by_cases h3:p.kind=6\/p.kind=8\/p.kind=10
 ·rw[if_pos h3] at h;exact absurd rfl h
 rw[if_neg h3] at h ⊢;by_cases h4:p.kind=3
 ·rw[if_pos h4] at h ⊢;by_cases h5:q0xk p.dup p.qos=true
  ·rw[if_pos h5] at h;exact absurd rfl h
  ·rw[if_neg h5];have e:qc11 v p=7:=by
    unfold qc11;rw[if_neg (by omega),if_pos h4];unfold q6ed;rw[if_neg (by simpa using h4)];have e:qjyu v 3 p.dup p.retain p.qos=(0,7):=by unfold qjyu;rw[h4] at h2 h3;rw[if_neg h1,if_neg h2,if_neg h3,if_pos rfl,if_neg h5]
    rw[e];rfl
   rw[e];rfl
 ·rw[if_neg h4] at h;exact absurd rfl h
theorem qwnh{v:Int}{p:Pk}(h:(qjyu v p.kind p.dup p.retain p.qos).2=0):verH v=true/\qbe2 v p.kind=true/\q8s2 v p=if qc11 v p≠0 then qc11 v p else if 268435455<(qx3b v p).length then 4 else 0:=by obtain⟨h1,h2,-⟩:=qhp2 h;refine⟨h1,h2,?_⟩;unfold q8s2;rw[if_neg (by simp[h1]),if_neg (by simp[h2])]
theorem qdc2(v:Int)(p:Pk)(a:Ad)(w:World)(hp:PkAt w p a)(sp:q21o p)(ok:PkOk p)(cm:CapM p a) :
 Calls prog 29 #[.int .i64 v,.agg (pkC p a)] w fun e w'=>e=.returned (.tuple #[.string (bs (q8xn v p).1),.string (bs (q8xn v p).2.1),.int .i64 ((q8xn v p).2.2:Nat)])/\Below w.heap.size w w':=by
 have S0:=hid (BxS.made w p a);have C1:=hid (qwmp p a);have FL:=fun W=>q2el v (c:=pkC p a) (k:=p.kind) (q:=p.qos) (d:=p.dup) (r:=p.retain) W (qwmp p a) rfl rfl rfl rfl;unfold qu2r at FL;have k0:∀W,BxS w p a W->W.cell? ⟨w.heap.size,0,none⟩=some (.int .i64 p.kind):=fun W h=>h.cell 0;have K0:=hid k0;clear k0;have PF:=qjm3 (v:=v) (p:=p);have PK:=qwnh (v:=v) (p:=p);have HM:=fun h=>qri3.2 (qri3.1 (qlyn (v:=v) (p:=p) h));unfold q9sw at HM;obtain⟨⟨fl,y⟩,hF⟩:∃z,qjyu v p.kind p.dup p.retain p.qos=z:=⟨_,rfl⟩
 have HP:q8xn v p=if q8s2 v p≠0 then([],[],q8s2 v p) else(rawH ⟨p.kind,fl,((qx3b v p).length:Nat)⟩,qx3b v p,0):=by unfold q8xn q9sw;rw[hF]
 rw[hF] at FL PF PK HM;simp only at FL PF PK HM;rw[HP];clear HP hF;replace FL:=hid FL;by_cases hy:y=0
 ·subst hy;obtain⟨hv,hk,hM⟩:=PK rfl;have hkr:=q39c hk;obtain⟨f,g,HW⟩:=qniq hkr.1 hkr.2;have WR:=fun W (h:BxS w p a W)=>HW.wr v p a W rfl (hp.below h.low) sp ok cm;unfold qqdr at WR;have hX:qwgk v p=(if qc11 v p≠0 then [] else qx3b v p,qc11 v p):=by unfold qwgk;by_cases h:qc11 v p=0<;>simp[h]
  rw[hX] at WR;simp only at WR;have HBY:=fun W=>q43z v ⟨p.kind,fl,((qx3b v p).length:Nat)⟩ W;unfold qwqq qnxm hdV at HBY;obtain⟨X,hXX⟩:∃X,bs (if qc11 v p≠0 then [] else qx3b v p)=X:=⟨_,rfl⟩
  rw[hXX] at WR;have WR:=fun(x:Option Nat) W (h:BxS w p a W/\∀b,x=some b->qvkg W b)=>(WR W h.1).mono fun e w' hh=>(⟨hh.1,h.1.call hh.2,fun b e=>(h.2 b e).below hh.2⟩:_/\BxS w p a w'/\∀b,x=some b->qvkg w' b)
  have KD:=fun(x:Option Nat) W (h:BxS w p a W/\∀b,x=some b->qvkg W b)=>(qdie W).mono fun e w' ⟨b,he,hw,hb⟩=>(⟨b,he,h.1.call hb,fun c e=>by cases e;exact hw⟩:∃b,e=Ending.returned (.map (some b))/\BxS w p a w'/\∀c,some b=some c->qvkg w' c)
  have WRH:=hid WR;have KDH:=hid KD;have HWH:=hid HW;have HKR:=hid hkr;have HXX:=hid hXX;have HMH:=hid HM;have HMM:=hid hM;replace HBY:=hid HBY;clear WR KD HW hkr hXX HM hM PF PK hp sp ok cm hX hv hk;generalize hq:qc11 v p=q at *;generalize qx3b v p=L at *;generalize q8s2 v p=E at *;clear hq;obtain⟨T,hT⟩:∃T:List UInt8×List UInt8×Nat,(if E≠0 then([],[],E) else(rawH ⟨p.kind,fl,(L.length:Nat)⟩,L,0))=T:=⟨_,rfl⟩
  rw[hT];replace hT:=hid hT;go_in;go_wp2_with (refine wpList_load_row rfl _ _ rfl w.heap.size rfl 38 _ (0,0) _ S0.out.box underlying38 rfl (by rw[C1.out];exact q5nr) ?_);refine(FL.out _).mono ?_;rintro e W ⟨rfl,hb⟩;have S1:=hid (S0.out.call hb);clear hb S0
  go_upto_region 4 with fail
  refine qjqt (S:=fun x W=>BxS w p a W/\∀b,x=some b->qvkg W b) (B:=w.heap.size) (f:=f) (g:=g) (k:=p.kind) (q:=q) (X:=X) (C:=pkC p a) (E:=wrC v p a) ⟨S1.out.draw,fun b e=>by cases e⟩ HKR.out HWH.out.look HWH.out.rf C1.out (qet0 v p a) (fun x W h=>K0.out W h.1) (fun x W h=>h.1.box) (fun b W h=>h.2 b rfl) KDH.out WRH.out ?_;rintro x W2 ⟨hS,-⟩;have S2:=hid hS;clear hS S1 WRH KDH HWH HKR FL;generalize wrC v p a=D at *;generalize pkC p a=C at *;dsimp only;by_cases hq:q=0
  ·subst hq;have hx:=HXX.out;rw[if_neg (by simp)] at hx;have hz:X.size=L.length:=by rw[<-hx,q5zk]
   have hE:=HMM.out;rw[if_neg (by simp)] at hE;have K2:=K0.out _ S2.out;by_cases hlen:268435455<L.length
   ·rw[if_pos hlen] at hE;subst hE;have hT2:=hT.out;rw[if_pos (by decide)] at hT2;subst hT2;have g1:decide ((268435455:Int)<(X.size:Int))=true:=decide_eq_true (by omega);have LO:=hid S2.out.low;clear hx hz hlen HXX HMH HMM HBY S2 K2;go_wp2
    go_ret3
    exact⟨rfl,LO.out⟩
   ·rw[if_neg hlen] at hE;subst hE;have hT2:=hT.out;rw[if_neg (by simp)] at hT2;have hc:=HMH.out rfl;have g1:decide ((268435455:Int)<(X.size:Int))=false:=decide_eq_false (by omega);have HB:=HBY.out;rw[if_pos hc,hc,<-hz] at HB;obtain⟨Y,hY⟩:∃Y,bs (rawH ⟨p.kind,fl,(X.size:Int)⟩)=Y:=⟨_,rfl⟩
    rw[hY] at HB;have e1:bs T.1=Y:=by rw[<-hT2,<-hY,hz]
    have e2:bs T.2.1=X:=by rw[<-hT2,<-hx]
    have e3:T.2.2=0:=by rw[<-hT2]
    have HT:=hid (And.intro e1 (And.intro e2 e3));clear hY e1 e2 e3 hT2 hT;replace HB:=hid HB;have LO:=hid S2.out.low;clear hx hz hlen HXX HMH HMM HBY S2 hc;go_wp2_with fail;refine(HB.out _).mono ?_;rintro e W3 ⟨rfl,hb⟩;have L3:=hid (qxh2 LO.out hb);clear hb;go_wp2
    go_ret3
    rw[HT.out.1,HT.out.2.1,HT.out.2.2];exact⟨rfl,L3.out⟩
  ·have hE:=HMM.out;rw[if_pos hq] at hE;subst hE;have hT2:=hT.out;rw[if_pos hq] at hT2;subst hT2;have q1:((E:Int)==0)=false:=by simp;omega
   have q2:((E:Int) != 0)=true:=by simp;omega
   have LO:=hid S2.out.low;clear hq HXX HMH HMM HBY S2;go_wp2
   go_ret3
   exact⟨rfl,LO.out⟩
 ·rw[PF hy,if_pos hy];have y1:((y:Int)==0)=false:=by simp;omega
  have y2:((y:Int) != 0)=true:=by simp;omega
  clear PF PK HM hy hp sp ok cm K0;go_in;go_wp2_with (refine wpList_load_row rfl _ _ rfl w.heap.size rfl 38 _ (0,0) _ S0.out.box underlying38 rfl (by rw[C1.out];exact q5nr) ?_);refine(FL.out _).mono ?_;rintro e W ⟨rfl,hb⟩;have LO:=hid (S0.out.call hb).low;clear hb;go_wp2
  go_ret3
  exact⟨rfl,LO.out⟩
theorem qbxa{v:Int}{p:Pk}:(q8xn v p).2.2=q8s2 v p:=by unfold q8xn;by_cases h:q8s2 v p=0<;>simp[h]
theorem qbp2{v:Int}{p:Pk}:(q8xn v p).1++(q8xn v p).2.1=(qk4b v p).1/\q8s2 v p=(qk4b v p).2:=by unfold q8xn qk4b rawM;by_cases h:q8s2 v p=0<;>simp[h]
theorem qlh2(v:Int)(p:Pk):(q8xn v p).1.length+(q8xn v p).2.1.length<=268435460:=by
 have h1:=(qbp2 (v:=v) (p:=p)).1;rw[<-List.length_append,h1];unfold qk4b;by_cases h:q8s2 v p=0
 ·rw[if_neg (by simpa using h)];exact qu4s h
 ·rw[if_pos h];exact Nat.zero_le _
theorem qjcp(v:Int)(p:Pk)(a:Ad)(w:World)(hp:PkAt w p a)(sp:q21o p)(ok:PkOk p)(cm:CapM p a) :
 Calls prog 20 #[.int .i64 v,.agg (pkC p a)] w fun e w'=>e=.returned (.tuple #[.int .i64 ((qk4b v p).1.length:Nat),.int .i64 ((qk4b v p).2:Nat)])/\Below w.heap.size w w':=by
 have S0:=hid (BxS.made w p a);have C1:=hid (qwmp p a);have PA:=hid (qdc2 v p a _ (hp.below S0.out.low) sp ok cm);obtain⟨h1,h2⟩:=qbp2 (v:=v) (p:=p);have hz:=qlh2 v p;rw[<-h1,<-h2,<-qbxa,List.length_append];clear hp sp ok cm h1 h2;generalize q8xn v p=R at *;have h1:(bs R.1).size=R.1.length:=q5zk _;have h2:(bs R.2.1).size=R.2.1.length:=q5zk _;rw[<-h1,<-h2] at hz ⊢;generalize bs R.1=X at *;generalize bs R.2.1=Y at *;have e:((X.size+Y.size:Nat):Int)=(X.size:Int)+(Y.size:Int):=by omega
 have hw:wrap64 ((X.size:Int)+(Y.size:Int))=(X.size:Int)+(Y.size:Int):=by unfold wrap64;omega
 rw[e];clear h1 h2 e hz;go_in;go_wp2_with (refine wpList_load_row rfl _ _ rfl w.heap.size rfl 38 _ (0,0) _ S0.out.box underlying38 rfl (by rw[C1.out];exact q5nr) ?_);refine(PA.out).mono ?_;rintro e W ⟨rfl,hb⟩;have LO:=hid (S0.out.call hb).low;clear hb;go_wp2
 go_ret2
 refine⟨?_,LO.out⟩;show Ending.returned (.tuple #[.int .i64 (wrap64 ((X.size:Int)+(Y.size:Int))),_])=_;rw[hw]
 rfl
end Go.Proofs.YtefmhbioggcfaaaGreatDoor
