/- A list of packets as it lies in memory: each one's cells, its lists. No condition. -/
import Derived.Deep.DeepCutAuto
import Derived.Test.YtombgnfedafkjaaGreatDoorK13
import Derived.Test.YtombgnfedafkjaaGreatDoorK17
set_option maxRecDepth 100000
set_option maxHeartbeats 4000000
namespace Go.Proofs.YtombgnfedafkjaaGreatDoor
open Lib(hid)
open Proofs.Tryz
open Go.RowKit
abbrev Pa:=Pk×Ad
def pkCs(l:List Pa):List Value:=l.flatMap fun q=>(pkC q.1 q.2).toList
theorem q6wm(l:List Pa):(pkCs l).length=l.length*25:=by
 induction l with
 |nil=>rfl
 |cons q l ih=>show((pkC q.1 q.2).toList++pkCs l).length=_;rw[List.length_append,ih,Array.length_toList,qwmp,List.length_cons];omega
theorem q0mi(l m:List Pa):pkCs (l++m)=pkCs l++pkCs m:=by simp[pkCs]
theorem qlyl:∀(l:List Pa) (i j:Nat) (q:Pa) (u:Value),l[i]?=some q->(pkC q.1 q.2)[j]?=some u->(pkCs l)[i*25+j]?=some u
 |[],i,j,q,u,h,_=>by simp at h
 |x::l,0,j,q,u,h,hu=>by
  have h:x=q:=by simpa using h
  subst h;have hj:j<25:=by
   have:=(Array.getElem?_eq_some_iff.1 hu).1
   rwa [qwmp] at this
  show((pkC x.1 x.2).toList++pkCs l)[0*25+j]?=some u;rw[show 0*25+j=j by omega,List.getElem?_append_left (by rw[Array.length_toList,qwmp];exact hj)];simpa using hu
 |x::l,i+1,j,q,u,h,hu=>by have ih:=qlyl l i j q u (by simpa using h) hu;show((pkC x.1 x.2).toList++pkCs l)[(i+1)*25+j]?=some u;rw[List.getElem?_append_right (by rw[Array.length_toList,qwmp];omega),Array.length_toList,qwmp,show(i+1)*25+j-25=i*25+j by omega];exact ih
structure PKL(W:World)(A:Option Addr)(l:List Pa):Prop where
 cl:CL W A (pkCs l)
 each:∀q∈l,PkAt W q.1 q.2
section
variable{W W':World}{A:Option Addr}{l m:List Pa}{q:Pa}
theorem PKL.nil:PKL W A []:=⟨CL.nil,fun _ h=>(nomatch h)⟩
theorem PKL.below(h:PKL W A l)(hb:Below W.heap.size W W'):PKL W' A l:=⟨h.cl.below hb,fun q hq=>(h.each q hq).below hb⟩
theorem PKL.at(h:PKL W A l){i:Nat}(hi:l[i]?=some q):∃g o,A=some ⟨g,o,none⟩/\g<W.heap.size/\∀(j:Nat) (u:Value),(pkC q.1 q.2)[j]?=some u->W.cell? ⟨g,o+i*25+j,none⟩=some u:=by
 have hne:pkCs l≠[]:=fun e=>by have h1:=qlyl l i 0 q _ hi (show(pkC q.1 q.2)[0]?=some _ from rfl);rw[e] at h1;cases h1
 obtain⟨g,o,e,hg,hc⟩:=h.cl hne;refine⟨g,o,e,hg,fun j u hu=>?_⟩;rw[Nat.add_assoc];exact hc _ _ (qlyl l i j q u hi hu)
theorem PKL.get(h:PKL W A l){i:Nat}(hi:l[i]?=some q):PkAt W q.1 q.2:=h.each q (List.mem_of_getElem? hi)
end
def qojd(v:Int):Int:=if v=4 then 14 else if v=5 then 15 else 0
theorem qtq4(v:Int)(w:World):Calls prog 58 #[.int .i64 v] w fun e w'=>e=.returned (.int .i64 (qojd v))/\w=w':=by
 unfold qojd;by_cases h4:v=4
 ·subst h4;go_in;go_wp2;go_ret;exact⟨rfl,rfl⟩
 by_cases h5:v=5
 ·subst h5;go_in;go_wp2;go_ret;exact⟨rfl,rfl⟩
 rw[if_neg h4,if_neg h5];have e4:(v==4)=false:=by rw[beq_eq_false_iff_ne];exact h4
 have e5:(v==5)=false:=by rw[beq_eq_false_iff_ne];exact h5
 clear h4 h5;go_in;go_wp2;go_ret;exact⟨rfl,rfl⟩
theorem q53g{v:Int}(h:verH v=true):v=4\/v=5:=by unfold verH at h;simpa only[Bool.or_eq_true,beq_iff_eq] using h
theorem q25y{v:Int}(h:verH v=false):v≠4/\v≠5:=by unfold verH at h;simpa only[Bool.or_eq_false_iff,beq_eq_false_iff_ne] using h
def verE(v:Int):Int:=if verH v=false then 2 else 0
theorem qzcr(v:Int)(w:World):Calls prog 34 #[.int .i64 v] w fun e w'=>e=.returned (.int .i64 (verE v))/\w=w':=by
 have L:=hid (qtq4 v);cases h:verH v
 ·have hv:=q25y h;have hl:qojd v=0:=by unfold qojd;rw[if_neg hv.1,if_neg hv.2]
  have he:verE v=2:=by unfold verE;rw[h];rfl
  rw[he];rw[hl] at L;clear hl he hv h;go_in;go_wp2_with fail;refine(L.out _).mono ?_;rintro e w' ⟨rfl,rfl⟩;go_wp2;go_ret;exact⟨rfl,rfl⟩
 ·have he:verE v=0:=by unfold verE;rw[h];rfl
  rw[he];rcases q53g h with rfl|rfl
  all_goals clear he h;go_in;go_wp2_with fail;refine(L.out _).mono ?_;rintro e w' ⟨rfl,rfl⟩;go_wp2;go_ret;exact⟨rfl,rfl⟩
def q2fo(v k:Int):Int:=if verH v=false then 2 else if qbe2 v k=false then 8 else 0
theorem qk5h(v k:Int)(w:World):Calls prog 54 #[.int .i64 v,.int .i64 k] w fun e w'=>e=.returned (.int .i64 (q2fo v k))/\w=w':=by
 have V:=hid (qzcr v);have L:=hid (qtq4 v);cases h:verH v
 ·have he:q2fo v k=2:=by unfold q2fo;rw[h];rfl
  have h2:verE v=2:=by unfold verE;rw[h];rfl
  rw[he];rw[h2] at V;clear he h2 h;go_in;go_wp2_with fail;refine(V.out _).mono ?_;rintro e w' ⟨rfl,rfl⟩;go_wp2;go_ret;exact⟨rfl,rfl⟩
 have h2:verE v=0:=by unfold verE;rw[h];rfl
 rw[h2] at V;clear h2;by_cases h1:k<1
 ·have he:q2fo v k=8:=by unfold q2fo qbe2;rw[h,if_neg (by simp),decide_eq_false (show ¬1<=k by omega)];rfl
  rw[he];have hd:decide (k<1)=true:=decide_eq_true h1;clear he h h1;go_in;go_wp2_with fail;refine(V.out _).mono ?_;rintro e w' ⟨rfl,rfl⟩;go_wp2;go_ret;exact⟨rfl,rfl⟩
 have hd:decide (k<1)=false:=decide_eq_false h1;by_cases h3:qojd v<k
 ·have he:q2fo v k=8:=by
   have hk:qbe2 v k=false:=by
    unfold qbe2;rcases q53g h with rfl|rfl
    ·have h3':14<k:=h3;rw[decide_eq_false (show ¬k<15 by omega)];simp
    ·have h3':15<k:=h3;rw[decide_eq_false (show ¬k<15 by omega),show(k==15)=false by rw[beq_eq_false_iff_ne];omega];simp
   unfold q2fo;rw[h,hk];rfl
  rw[he];have hg:decide (qojd v<k)=true:=decide_eq_true h3;generalize qojd v=z at *;clear he h h1 h3;go_in;go_wp2_with fail;refine(V.out _).mono ?_;rintro e w' ⟨rfl,rfl⟩;go_wp2_with fail;refine(L.out _).mono ?_;rintro e w' ⟨rfl,rfl⟩;go_wp2;go_ret;exact⟨rfl,rfl⟩
 ·have he:q2fo v k=0:=by
   have hk:qbe2 v k=true:=by
    unfold qbe2;rw[decide_eq_true (show 1<=k by omega)];rcases q53g h with rfl|rfl
    ·have h3':¬14<k:=h3;rw[decide_eq_true (show k<15 by omega)];rfl
    ·have h3':¬15<k:=h3;by_cases h15:k=15
     ·subst h15;rfl
     ·rw[decide_eq_true (show k<15 by omega)];rfl
   unfold q2fo;rw[h,hk];rfl
  rw[he];have hg:decide (qojd v<k)=false:=decide_eq_false h3;generalize qojd v=z at *;clear he h h1 h3;go_in;go_wp2_with fail;refine(V.out _).mono ?_;rintro e w' ⟨rfl,rfl⟩;go_wp2_with fail;refine(L.out _).mono ?_;rintro e w' ⟨rfl,rfl⟩;go_wp2;go_ret;exact⟨rfl,rfl⟩
def qnmj(k:Int)(d r:Bool)(q:Int):Int×Nat:=
 if k=6\/k=8\/k=10 then(2,0) else if k=3 then(if q0xk d q then(qgl0 d r q,0) else(0,7)) else(0,0)
theorem q4eo(v k:Int)(d r:Bool)(q:Int):qjyu v k d r q=if q2fo v k=0 then qnmj k d r q else(0,(q2fo v k).toNat):=by
 unfold qjyu q2fo qnmj;cases verH v
 ·rfl
 ·cases qbe2 v k
  ·rfl
  ·rfl
def qu2r(x:Int×Nat)(w:World)(e:Ending)(w':World):Prop:=e=.returned (.tuple #[.int .i64 x.1,.int .i64 (x.2:Nat)])/\Below w.heap.size w w'
theorem qa1w{q:Int}{d r:Bool}{c:Array Value}(w:World)(h1:c[1]?=some (.bool d))(h2:c[2]?=some (.bool r))(h3:c[3]?=some (.int .i64 q)):Calls prog 76 #[.agg c] w (qu2r (if q0xk d q then(qgl0 d r q,0) else(0,7)) w):=by
 have hb:∀o,Below w.heap.size w (w.alloc o):=fun o=>(Below.refl _ _).alloc (Nat.le_refl _) _;have HB:=hid hb;clear hb;by_cases hq0:q<0
 ·have e:q0xk d q=false:=by unfold q0xk;rw[decide_eq_false (show ¬0<=q by omega)];rfl
  rw[e];clear e;go_in;go_wp2
  go_ret2
  exact⟨rfl,HB.out _⟩
 by_cases hq2:2<q
 ·have e:q0xk d q=false:=by unfold q0xk;rw[decide_eq_false (show ¬q<=2 by omega)];simp
  rw[e];clear e;go_in;go_wp2
  go_ret2
  exact⟨rfl,HB.out _⟩
 obtain rfl|rfl|rfl:q=0\/q=1\/q=2:=by omega
 all_goals clear hq0 hq2;cases d<;>cases r
 all_goals
  go_in;go_wp2
  go_ret2
  exact⟨rfl,HB.out _⟩
theorem qo12{k q:Int}{d r:Bool}{c:Array Value}(w:World)(hs:c.size=25)(h0:c[0]?=some (.int .i64 k))(h1:c[1]?=some (.bool d))(h2:c[2]?=some (.bool r))(h3:c[3]?=some (.int .i64 q)):Calls prog 55 #[.agg c] w (qu2r (qnmj k d r q) w):=by
 have hb:∀o,Below w.heap.size w (w.alloc o):=fun o=>(Below.refl _ _).alloc (Nat.le_refl _) _;have HB:=hid hb;clear hb;have P:=hid (fun W=>qa1w W h1 h2 h3);unfold qnmj;have HS:=hid hs;clear h1 h2 h3 hs;by_cases hk3:k=3
 ·subst hk3;rw[if_neg (by decide),if_pos rfl];generalize (if q0xk d q then(qgl0 d r q,0) else((0,7):Int×Nat))=z at *;go_in;go_wp2_with (refine wpList_load_row rfl _ _ rfl w.heap.size rfl 32 _ (0,0) _ (heap_alloc_new w _) underlying32 rfl (by rw[HS.out];exact q5nr) ?_);go_wp2_with fail;refine(P.out _).mono ?_;rintro e w' ⟨rfl,h⟩;go_wp2
  go_ret2
  exact⟨rfl,(HB.out _).trans (h.mono (HB.out _).size)⟩
 by_cases h6:k=6
 ·subst h6;go_in;go_wp2
  go_ret2
  exact⟨rfl,HB.out _⟩
 by_cases h8:k=8
 ·subst h8;go_in;go_wp2
  go_ret2
  exact⟨rfl,HB.out _⟩
 by_cases h10:k=10
 ·subst h10;go_in;go_wp2
  go_ret2
  exact⟨rfl,HB.out _⟩
 rw[if_neg (by omega),if_neg hk3];have e3:(k==3)=false:=by rw[beq_eq_false_iff_ne];exact hk3
 have e6:(k==6)=false:=by rw[beq_eq_false_iff_ne];exact h6
 have e8:(k==8)=false:=by rw[beq_eq_false_iff_ne];exact h8
 have e10:(k==10)=false:=by rw[beq_eq_false_iff_ne];exact h10
 clear hk3 h6 h8 h10;go_in;go_wp2
 go_ret2
 exact⟨rfl,HB.out _⟩
theorem q2el(v:Int){k q:Int}{d r:Bool}{c:Array Value}(w:World)(hs:c.size=25)(h0:c[0]?=some (.int .i64 k))(h1:c[1]?=some (.bool d))(h2:c[2]?=some (.bool r))(h3:c[3]?=some (.int .i64 q)):Calls prog 32 #[.int .i64 v,.agg c] w (qu2r (qjyu v k d r q) w):=by
 have hb:∀o,Below w.heap.size w (w.alloc o):=fun o=>(Below.refl _ _).alloc (Nat.le_refl _) _;have HB:=hid hb;clear hb;rw[q4eo];have K:=hid (qk5h v k);have F:=hid (fun W=>qo12 W hs h0 h1 h2 h3);have HS:=hid hs;clear h1 h2 h3 hs;by_cases h:q2fo v k=0
 ·rw[if_pos h];rw[h] at K;clear h;generalize qnmj k d r q=z at *;go_in;go_wp2_with fail;refine(K.out _).mono ?_;rintro e w' ⟨rfl,rfl⟩;go_wp2_with (refine wpList_load_row rfl _ _ rfl w.heap.size rfl 32 _ (0,0) _ (heap_alloc_new w _) underlying32 rfl (by rw[HS.out];exact q5nr) ?_);go_wp2_with fail;refine(F.out _).mono ?_;rintro e w' ⟨rfl,h⟩;go_wp2
  go_ret2
  exact⟨rfl,(HB.out _).trans (h.mono (HB.out _).size)⟩
 ·rw[if_neg h];have hz:((q2fo v k).toNat:Int)=q2fo v k:=by
   have:0<=q2fo v k:=by
    unfold q2fo;split
    ·decide
    ·split<;>decide
   omega
  unfold qu2r;show Calls _ _ _ _ fun e w'=>e=.returned (.tuple #[.int .i64 0,.int .i64 ((q2fo v k).toNat:Int)])/\Below w.heap.size w w';rw[hz];have hn:(q2fo v k==0)=false:=by rw[beq_eq_false_iff_ne];exact h
  clear F hz h;generalize q2fo v k=z at *;go_in;go_wp2_with fail;refine(K.out _).mono ?_;rintro e w' ⟨rfl,rfl⟩;go_wp2
  go_ret2
  exact⟨rfl,HB.out _⟩
def hdV(h:Hd):Value := .agg #[.int .i64 h.kind,.int .i64 h.flags,.int .i64 h.length]
def qrta(k:Int)(d r:Bool)(q:Int)(w:World)(e:Ending)(w':World):Prop:=
 ∃c:Array Value,e=.returned (.agg c)/\c.size=25/\c[0]?=some (.int .i64 k)/\c[1]?=some (.bool d)/\c[2]?=some (.bool r)/\c[3]?=some (.int .i64 q)/\Below w.heap.size w w'
theorem qyup(h:Hd)(w:World):Calls prog 79 #[hdV h] w (qrta h.kind (bits .and .i64 h.flags 8 != 0) (bits .and .i64 h.flags 1 != 0) (wrap64 ((bits .and .i64 h.flags 6).tdiv 2)) w):=by
 have hzv:=qrai;have HZ:=hid qbwp;have HB:=hid (fun o o'=>qxh2 (qybm (w:=w) o) (qybm o'));have HN:=hid (fun o o'=>heap_alloc2_new w o o');have hne:¬pkZ=#[]:=by intro h;have:=qbwp;rw[h] at this;cases this
 generalize pkZ=Z at hzv HZ hne;generalize hD:pkD h.kind (bits .and .i64 h.flags 8 != 0) (bits .and .i64 h.flags 1 != 0) (wrap64 ((bits .and .i64 h.flags 6).tdiv 2))=D;have HD:=hid hD;clear hD;unfold hdV;go_in;go_wp2_with (first
  |(refine wpList_buildTo rfl 32 _ rfl (some 17) rfl D (by rw[<-HD.out];kernel_rfl) ?_)
  |(refine wpList_store_row rfl _ _ _ rfl (w.heap.size+1) D rfl rfl 32 _ (HN.out _ _) ?c1 ?c2 ?c3 ?_))
 case c1=>rw[<-HD.out];exact q5nr
 case c2=>rw[HZ.out,<-HD.out];rfl
 case c3=>rw[<-HD.out];exact qqq1 _ _ _ _
 refine q7wi (cs:=D) rfl rfl rfl underlying32 rfl (by rw[<-HD.out];exact q5nr) (setRow_heap _ _ _ _ _ _ (HN.out _ _)) ?_;rw[<-HD.out];exact⟨_,rfl,rfl,rfl,rfl,rfl,rfl,q8xz (HB.out _ _) (by omega) _⟩
def fitH(k f:Int):Bool:=(qnmj k (bits .and .i64 f 8 != 0) (bits .and .i64 f 1 != 0) (wrap64 ((bits .and .i64 f 6).tdiv 2))).2==0&&(qnmj k (bits .and .i64 f 8 != 0) (bits .and .i64 f 1 != 0) (wrap64 ((bits .and .i64 f 6).tdiv 2))).1==f
theorem q6ae(k:Int)(d r:Bool)(q:Int):0<=(qnmj k d r q).1/\(qnmj k d r q).1<=15:=by
 unfold qnmj;split
 ·exact⟨by decide,by decide⟩
 split
 ·cases h:q0xk d q
  ·exact⟨Int.le_refl 0,show(0:Int)<=15 by decide⟩
  ·rw[if_pos rfl];unfold q0xk at h;simp only[Bool.and_eq_true,decide_eq_true_eq,Bool.not_eq_true'] at h;obtain⟨⟨q0,q2⟩,_⟩:=h;unfold qgl0;cases d<;>cases r<;>simp<;>omega
 ·exact⟨by decide,by decide⟩
theorem qd45(k f:Int):fitH k f=qg3k k f:=by
 by_cases hf:0<=f/\f<=15
 ·have:f=0\/f=1\/f=2\/f=3\/f=4\/f=5\/f=6\/f=7\/f=8\/f=9\/f=10\/f=11\/f=12\/f=13\/f=14\/f=15:=by omega
  by_cases h3:k=3
  ·subst h3;rcases this with rfl|rfl|rfl|rfl|rfl|rfl|rfl|rfl|rfl|rfl|rfl|rfl|rfl|rfl|rfl|rfl<;>decide+kernel
  by_cases h6:k=6\/k=8\/k=10
  ·unfold fitH qnmj qg3k;rw[if_pos h6,if_neg h3,if_pos h6,beq_self_eq_true,Bool.true_and,Bool.eq_iff_iff,beq_iff_eq,beq_iff_eq];exact eq_comm
  ·unfold fitH qnmj qg3k;rw[if_neg h6,if_neg h3,if_neg h3,if_neg h6,beq_self_eq_true,Bool.true_and,Bool.eq_iff_iff,beq_iff_eq,beq_iff_eq];exact eq_comm
 ·have h1:fitH k f=false:=by
   unfold fitH
   have:=q6ae k (bits .and .i64 f 8 != 0) (bits .and .i64 f 1 != 0) (wrap64 ((bits .and .i64 f 6).tdiv 2))
   generalize qnmj k (bits .and .i64 f 8 != 0) (bits .and .i64 f 1 != 0) (wrap64 ((bits .and .i64 f 6).tdiv 2))=z at *;rw[Bool.and_eq_false_iff]
   right
   rw[beq_eq_false_iff_ne];omega
  rw[h1];cases h:qg3k k f
  ·rfl
  ·exact absurd (qo5i h) hf
theorem qfxa(h:Hd)(w:World):Calls prog 62 #[hdV h] w fun e w'=>e=.returned (.bool (qg3k h.kind h.flags))/\Below w.heap.size w w':=by
 rw[<-qd45];unfold fitH;have D:=hid (qyup h);generalize (bits .and .i64 h.flags 8 != 0)=d at *;generalize (bits .and .i64 h.flags 1 != 0)=r at *;generalize (wrap64 ((bits .and .i64 h.flags 6).tdiv 2))=q at *;have HB:=hid (fun o=>qybm (w:=w) o);have F:=hid (fun(c:Array Value) (W:World) (hs:c.size=25) (h0:c[0]?=some (.int .i64 h.kind)) (h1:c[1]?=some (.bool d)) (h2:c[2]?=some (.bool r)) (h3:c[3]?=some (.int .i64 q))=>qo12 W hs h0 h1 h2 h3);generalize qnmj h.kind d r q=z at *;obtain⟨k,f,l⟩:=h;obtain⟨B,hB⟩:∃B,(z.2==0&&z.1==(⟨k,f,l⟩:Hd).flags)=B:=⟨_,rfl⟩
 rw[hB];have EB:=hid hB;clear hB;unfold hdV at *;go_in;go_wp2_with fail;refine(D.out _).mono ?_;rintro e w' ⟨c,rfl,hs,h0,h1,h2,h3,hb⟩;have FF:=hid (F.out c w' hs h0 h1 h2 h3);have B2:=hid (qxh2 (HB.out _) hb);clear hs h0 h1 h2 h3;obtain⟨x,y⟩:=z;have hc:=hb.cell (p:=⟨w.heap.size,1,none⟩) (by simp);rw[World.cell?_alloc_at _ _ _ _ rfl] at hc;have HS:=hid (show w.heap.size<w'.heap.size by have:=hb.size;rw[World.size_alloc] at this;omega);clear hb;go_wp2_with fail;refine(FF.out).mono ?_;rintro e w2 ⟨rfl,hb⟩;have B3:=hid (qxh2 B2.out hb);have hc2:=(hb.cell (p:=⟨w.heap.size,1,none⟩) HS.out).trans hc;clear hc hb;by_cases hy:y=0
 ·subst hy;have hx:(x==f)=B:=EB.out;have HX:=hid hx;clear hx;go_wp2;go_ret;exact⟨congrArg (fun b=>Ending.returned (Value.bool b)) HX.out,B3.out⟩
 ·have hy2:((y:Int)==0)=false:=by simp;omega
  have hy3:false=B:=by rw[<-EB.out];show false=((y==0)&&(x==f));simp[hy]
  have HX:=hid hy3;clear hy3 hy;go_wp2;go_ret;exact⟨congrArg (fun b=>Ending.returned (Value.bool b)) HX.out,B3.out⟩
theorem q5sb(v:Int)(h:Hd)(w:World):Calls prog 38 #[.int .i64 v,hdV h] w fun e w'=>e=.returned (.int .i64 (q9d8 v h:Nat))/\Below w.heap.size w w':=by
 have K:=hid (qk5h v h.kind);have F:=hid (qfxa h);have S:=hid (qk0d h.length);have HB:=hid (fun o=>qybm (w:=w) o);by_cases hk:q2fo v h.kind=0
 ·rw[hk] at K;cases hf:qg3k h.kind h.flags
  ·have e:q9d8 v h=7:=by
    unfold q2fo at hk;unfold q9d8;cases hv:verH v
    ·rw[hv] at hk;cases hk
    ·cases hv2:qbe2 v h.kind
     ·rw[hv,hv2] at hk;cases hk
     ·rw[hf];rfl
   rw[e];rw[hf] at F;clear e hf hk;obtain⟨k,f,l⟩:=h;unfold hdV at *;go_in;go_wp2_with fail;refine(K.out _).mono ?_;rintro e w' ⟨rfl,rfl⟩;go_wp2_with fail;refine(F.out _).mono ?_;rintro e w' ⟨rfl,hb⟩;have B2:=hid (qxh2 (HB.out _) hb);clear hb;go_wp2;go_ret;exact⟨rfl,B2.out⟩
  ·rw[hf] at F;have e:q9d8 v h=if sz h.length=0 then 2 else 0:=by
    unfold q2fo at hk;unfold q9d8;cases hv:verH v
    ·rw[hv] at hk;cases hk
    ·cases hv2:qbe2 v h.kind
     ·rw[hv,hv2] at hk;cases hk
     ·rw[hf];simp only[Bool.true_eq_false,if_false];by_cases hl:h.length<0\/268435455<h.length
      ·rw[if_pos hl,if_pos (qbck.2 hl)]
      ·rw[if_neg hl,if_neg (fun h0=>hl (qbck.1 h0))]
   rw[e];clear e hf hk;obtain⟨k,f,l⟩:=h;unfold hdV at *;by_cases h0:sz l=0
   ·rw[if_pos h0];rw[show sz (⟨k,f,l⟩:Hd).length=sz l from rfl,h0] at S;clear h0;go_in;go_wp2_with fail;refine(K.out _).mono ?_;rintro e w' ⟨rfl,rfl⟩;go_wp2_with fail;refine(F.out _).mono ?_;rintro e w' ⟨rfl,hb⟩;have B2:=hid (qxh2 (HB.out _) hb);have hc:=hb.cell (p:=⟨w.heap.size,2,none⟩) (by simp);rw[World.cell?_alloc_at _ _ _ _ rfl] at hc;clear hb;go_wp2_with fail;refine(S.out _).mono ?_;rintro e w' ⟨rfl,rfl⟩;go_wp2;go_ret;exact⟨rfl,B2.out⟩
   ·rw[if_neg h0];have hn:((sz l:Int)==0)=false:=by simp;omega
    clear h0;go_in;go_wp2_with fail;refine(K.out _).mono ?_;rintro e w' ⟨rfl,rfl⟩;go_wp2_with fail;refine(F.out _).mono ?_;rintro e w' ⟨rfl,hb⟩;have B2:=hid (qxh2 (HB.out _) hb);have hc:=hb.cell (p:=⟨w.heap.size,2,none⟩) (by simp);rw[World.cell?_alloc_at _ _ _ _ rfl] at hc;clear hb;go_wp2_with fail;refine(S.out _).mono ?_;rintro e w' ⟨rfl,rfl⟩;go_wp2;go_ret;exact⟨rfl,B2.out⟩
 ·have e:((q9d8 v h:Nat):Int)=q2fo v h.kind:=by
   unfold q2fo at hk ⊢;unfold q9d8;cases hv:verH v
   ·rfl
   ·cases hv2:qbe2 v h.kind
    ·rfl
    ·rw[hv,hv2] at hk;exact absurd rfl hk
  rw[e];have hn:(q2fo v h.kind==0)=false:=by rw[beq_eq_false_iff_ne];exact hk
  clear e hk F S;obtain⟨k,f,l⟩:=h;unfold hdV at *;generalize q2fo v k=z at *;go_in;go_wp2_with fail;refine(K.out _).mono ?_;rintro e w' ⟨rfl,rfl⟩;go_wp2;go_ret;exact⟨rfl,HB.out _⟩
theorem qnzz(v k:Int)(w:World):Calls prog 111 #[.int .i64 v,.int .i64 k] w fun e w'=>e=.returned (.bool (versC v&&qvya k))/\w=w':=by
 unfold versC qvya;have hv:v=4\/v=5\/((v==4)=false/\(v==5)=false):=by
  by_cases h4:v=4
  ·exact .inl h4
  by_cases h5:v=5
  ·exact .inr (.inl h5)
  exact .inr (.inr ⟨beq_eq_false_iff_ne.2 h4,beq_eq_false_iff_ne.2 h5⟩)
 have hk:decide (4<=k)=true\/decide (4<=k)=false:=by cases decide (4<=k)<;>simp
 rcases hv with rfl|rfl|⟨h4,h5⟩
 ·rcases hk with k1|k1
  all_goals rw[k1];go_in;go_wp2;go_ret;exact⟨by first|rfl|simp,rfl⟩
 ·rcases hk with k1|k1
  all_goals rw[k1];go_in;go_wp2;go_ret;exact⟨by first|rfl|simp,rfl⟩
 ·rw[h4,h5];go_in;go_wp2;go_ret;exact⟨by first|rfl|simp,rfl⟩
theorem q6c0(p:Pk)(a:Ad)(w:World):Calls prog 109 #[.agg (pkC p a)] w fun e w'=>e=.returned (.int .i64 (necA p:Nat))/\Below w.heap.size w w':=by
 have S0:=hid (BxS.made w p a);have c24:(w.alloc (.cells (pkC p a) 32)).cell? ⟨w.heap.size,24,none⟩=some (.slice a.ps p.props.length a.pc):=S0.out.cell 24;have c21:(w.alloc (.cells (pkC p a) 32)).cell? ⟨w.heap.size,21,none⟩=some (.int .i64 p.code):=S0.out.cell 21;unfold necA;by_cases hl:p.props=[]
 ·have hz:p.props.length=0:=by rw[hl];rfl
  rw[if_neg (by simpa using hl)];rw[hz] at c24;by_cases hc:p.code=0
  ·rw[if_neg (by simpa using hc)];rw[hc] at c21;clear hl hc hz;go_in;go_wp2;go_ret;exact⟨rfl,S0.out.low⟩
  ·rw[if_pos hc];have e1:(p.code==0)=false:=by simpa using hc
   have e2:(p.code != 0)=true:=by simpa using hc
   clear hl hc hz;generalize p.code=c at *;go_in;go_wp2;go_ret;exact⟨rfl,S0.out.low⟩
 ·rw[if_pos hl];have hz:0<p.props.length:=List.length_pos_iff.2 hl;clear hl;generalize p.props.length=n at *;go_in;go_wp2;go_ret;exact⟨rfl,S0.out.low⟩
def qo3o(v:Int)(p:Pk):Pk:={Pk.zero with kind:=p.kind,id:=p.id,code:=if v=5 then p.code else 0,props:=if v=5 then p.props else []}
def qi8p(v:Int)(a:Ad):Ad:={adZ with ps:=if v=5 then a.ps else none,pc:=if v=5 then a.pc else 0}
theorem qvqb{w:World}{p:Pk}{a:Ad}(v:Int)(h:PkAt w p a):PkAt w (qo3o v p) (qi8p v a):=by
 refine⟨fun e=>absurd rfl e,fun e=>absurd rfl e,fun e=>absurd rfl e,?_⟩;unfold qo3o qi8p;by_cases h5:v=5
 ·simp only[if_pos h5];exact h.ps
 ·simp only[if_neg h5];exact fun e=>absurd rfl e
theorem q9mw{p:Pk}(v:Int)(h:q21o p):q21o (qo3o v p):=by
 refine⟨Nat.zero_le _,Nat.zero_le _,?_,Nat.zero_le _⟩;unfold qo3o;by_cases h5:v=5
 ·simp only[if_pos h5];exact h.2.2.1
 ·simp only[if_neg h5];exact Nat.zero_le _
def us0A(p:Pk):Pk:={Pk.zero with kind:=p.kind,id:=p.id}
theorem qbym(v:Int)(p:Pk)(a:Ad)(w:World):Calls prog 188 #[.int .i64 v,.agg (pkC p a)] w fun e w'=>e=.returned (.agg (pkC (qo3o v p) (qi8p v a)))/\Below w.heap.size w w':=by
 have Z0:((w.alloc (.cells (pkC p a) 32)).alloc (.cells pkZ 32)).heap.size=w.heap.size+1+1:=by simp
 have GN:(((w.alloc (.cells (pkC p a) 32)).alloc (.cells pkZ 32)).alloc (.cells pkZ 32)).heap[w.heap.size+1+1]?=some (.cells pkZ 32 (0,0)):=by
  have:=heap_alloc_new ((w.alloc (.cells (pkC p a) 32)).alloc (.cells pkZ 32)) (.cells pkZ 32)
  rw[Z0] at this;exact this
 have S0:UsS w p a (us0A p) adZ ((((w.alloc (.cells (pkC p a) 32)).alloc (.cells pkZ 32)).alloc (.cells pkZ 32)).setRow (w.heap.size+1+1) (pkC (us0A p) adZ)):=by
  refine⟨q8xz (qxh2 (qxh2 (qybm _) (qybm _)) (qybm _)) (by omega) _,?_,?_,setRow_heap _ _ _ _ _ _ GN⟩
  ·exact(setRow_other _ _ _ _ (by omega)).trans ((heap_alloc_old _ _ (by rw[Z0];omega)).trans (heap_alloc2_old _ _ _))
  ·exact(setRow_other _ _ _ _ (by omega)).trans ((heap_alloc_old _ _ (by rw[Z0];omega)).trans (heap_alloc2_new _ _ _))
 have hzv:=qrai;have hne:¬pkZ=#[]:=by intro h;have:=qbwp;rw[h] at this;cases this
 have HZ:=hid qbwp;have GN:=hid GN;have hD1:=qwmp (us0A p) adZ;have hD2:=qmz0 (us0A p) adZ;obtain⟨D,hD⟩:∃D,pkC (us0A p) adZ=D:=⟨_,rfl⟩
 rw[hD] at hD1 hD2 S0;have HD:=hid hD;have HD1:=hid hD1;have HD2:=hid hD2;have HS0:=hid S0;have k0:((w.alloc (.cells (pkC p a) 32)).alloc (.cells pkZ 32)).cell? ⟨w.heap.size,0,none⟩=some (.int .i64 p.kind):=cell_of_row _ _ 0 _ _ _ (heap_alloc2_old _ _ _);have k4:((w.alloc (.cells (pkC p a) 32)).alloc (.cells pkZ 32)).cell? ⟨w.heap.size,4,none⟩=some (.int .i64 p.id):=cell_of_row _ _ 4 _ _ _ (heap_alloc2_old _ _ _);clear S0 hD hD1 hD2 Z0;go_in
 go_upto_if 12 with (first
  |(refine wpList_buildTo rfl 32 _ rfl (some _) rfl D (by rw[<-HD.out];kernel_rfl) ?_)
  |(refine wpList_store_row rfl _ _ _ rfl (w.heap.size+1+1) D rfl rfl 32 _ GN.out (by rw[HD1.out];exact q5nr) (by rw[HZ.out,HD1.out]) HD2.out ?_))
 clear k0 k4 GN HZ hne hzv;go_cut [] (fun wx=>UsS w p a (qo3o v p) (qi8p v a) wx)
 case first=>
  generalize (((w.alloc (.cells (pkC p a) 32)).alloc (.cells pkZ 32)).alloc (.cells pkZ 32)).setRow (w.heap.size+1+1) D=W at *;by_cases h5:v=5
  ·subst h5;have S1:=hid ((HS0.out.put 21 (.int .i64 p.code) (x':={us0A p with code:=p.code}) (b':=adZ) rfl).put 24 (.slice a.ps p.props.length a.pc) (x':=qo3o 5 p) (b':=qi8p 5 a) rfl);have k21:W.cell? ⟨w.heap.size,21,none⟩=some (.int .i64 p.code):=HS0.out.cell 21;have k24:W.cell? ⟨w.heap.size,24,none⟩=some (.slice a.ps p.props.length a.pc):=HS0.out.cell 24;have n21:W.cell? ⟨w.heap.size+1+1,21,none⟩=some (.int .i64 0):=HS0.out.ncell 21;have n24:W.cell? ⟨w.heap.size+1+1,24,none⟩=some (.slice none 0 0):=HS0.out.ncell 24;have f21:=HS0.out.fr 21;have f24:=HS0.out.fr 24;clear HS0
   go_upto_region 3 with fail
   go_region
   go_wp2_with fail
   go_meet
   exact S1.out.drew
  ·have h5':(v==5)=false:=beq_eq_false_iff_ne.2 h5;have SB:=hid (show UsS w p a (qo3o v p) (qi8p v a) W by unfold qo3o qi8p;rw[if_neg h5,if_neg h5,if_neg h5,if_neg h5];exact HS0.out)
   clear HS0 h5;go_wp2_with fail
   go_meet
   exact SB.out
 case rest=>
  have HS:=hid hcut;clear hcut HS0;have GB:=HS.out.new;have GR:=hid HS.out.res;have LO:=hid HS.out.low;have hR1:=qwmp (qo3o v p) (qi8p v a);have hR2:=qmz0 (qo3o v p) (qi8p v a);obtain⟨R,hR⟩:∃R,pkC (qo3o v p) (qi8p v a)=R:=⟨_,rfl⟩
  rw[hR] at GB hR1 hR2;have HR:=hid hR;have GB:=hid GB;have HR1:=hid hR1;have HR2:=hid hR2;clear hR1 hR2 HS hR;go_wp2_with (first
   |(refine wpList_load_row rfl _ _ rfl (w.heap.size+1+1) rfl 32 R (0,0) _ GB.out underlying32 rfl (by rw[HR1.out];exact q5nr) ?_)
   |(refine wpList_store_row rfl _ _ _ rfl (w.heap.size+1) R rfl rfl 32 _ GR.out (by rw[HR1.out];exact q5nr) (by rw[qbwp,HR1.out]) HR2.out ?_))
  exact q7wi (cs:=R) rfl rfl rfl underlying32 rfl (by rw[HR1.out];exact q5nr) (setRow_heap _ _ _ _ _ _ GR.out) ⟨by rw[HR.out],q8xz LO.out (by omega) _⟩
def FitA(p:Pk):Prop:=PkOk p/\q21o p
theorem q0yw{kind:Int}{i c:Nat}{l:List Pr}(hk:-9223372036854775808<=kind/\kind<=9223372036854775807)(hl:(∀p∈l,PrOk p/\p.text.length<=65535/\p.value.length<=65535)/\l.length<=1000):FitA (pkB kind i c l):=by
 refine⟨⟨hk,by show _<=(0:Int)/\(0:Int)<=_;decide,fun t ht=>?_,fun x hx=>(nomatch hx),fun x hx=>?_,fun x hx=>(nomatch hx)⟩,Nat.zero_le _,Nat.zero_le _,Nat.le_trans hl.2 (by decide),Nat.zero_le _⟩
 ·have:t=[]:=by simpa [Pk.texts,Pk.zero,pkB] using ht
  rw[this];decide
 ·obtain⟨h1,h2,h3⟩:=hl.1 x hx;exact⟨h1,by omega,by omega⟩
theorem qkys:FitA Pk.zero:=by
 have:=q0yw (kind:=0) (i:=0) (c:=0) (l:=[]) (by decide) ⟨fun p hp=>(nomatch hp),Nat.zero_le _⟩
 exact this
def q2da(w:World)(R:Pk×Nat)(e:Ending)(W:World):Prop:=
 ∃a:Ad,e=.returned (.tuple #[.agg (pkC R.1 a),.int .i64 (R.2:Nat)])/\PkAt W R.1 a/\R.1.props.length<=a.pc/\FitA R.1/\Below w.heap.size w W/\(R.2≠0->a=adZ)/\FrA w R.1 a
def qv0k(f:Nat):Value := .func (.func f) #[.agg #[]] #[]
def qo38:List (Int×Value):=[(15,qv0k 207),(14,qv0k 206),(13,qv0k 205),(12,qv0k 205)]
def qvwa(w:World)(b:Nat):Prop:=qwau prog 3 w b .nilFunc qo38
theorem qa1p(w:World):Calls prog 162 #[] w fun e w'=>∃b,e=.returned (.map (some b))/\qvwa w' b/\Below w.heap.size w w':=by
 have hmf:∀(fn:Fn) (first cap:Array Value) (w:World),(Instr.makeFunc fn first cap).run prog w=.ok (.func fn first cap) w:=fun _ _ _ _=>rfl;have hmm:=@run_makeMap prog;have hG:qpdk prog 3 w ((w.alloc (.cells #[] 216)).alloc (.map #[] 0)) (w.heap.size+1) .nilFunc []:=by have h:=qwau.made (w.alloc (.cells #[] 216)) prog 3 .nilFunc;rw[show(w.alloc (.cells #[] 216)).heap.size=w.heap.size+1 by simp] at h;exact⟨h,((Below.refl _ _).alloc (Nat.le_refl _) _).alloc (by simp) _,Nat.le_succ _⟩
 go_in;go_wp2_with (refine q6d2 rfl _ _ _ 184 rfl 3 182 underlying3 underlying184 _ _ _ rfl hG (by simp[maxLen]) _ _ rfl rfl (by decide) ?_;clear hG;intro w1 hG);go_ret;exact⟨_,rfl,hG.1,hG.2.1⟩
theorem qena(x:Int)(w:World):Calls prog 205 #[.agg #[],.int .i64 x] w fun e w'=>e=.returned (.tuple #[.bool false,.int .i64 0])/\Below w.heap.size w w':=by
 go_in;go_wp2
 go_ret2
 exact⟨rfl,qybm _⟩
theorem qugm(x:Int)(w:World):Calls prog 206 #[.agg #[],.int .i64 x] w fun e w'=>e=.returned (.tuple #[.bool (x==5),.int .i64 0])/\Below w.heap.size w w':=by
 go_in;go_wp2
 go_ret2
 exact⟨rfl,qybm _⟩
theorem qtnb(x:Int)(w:World):Calls prog 207 #[.agg #[],.int .i64 x] w fun e w'=>e=.returned (.tuple #[.bool (x==5),.int .i64 (if x=5 then 0 else 8)])/\Below w.heap.size w w':=by
 by_cases h5:x=5
 ·subst h5;go_in;go_wp2
  go_ret2
  exact⟨rfl,qybm _⟩
 ·have h1:(x==5)=false:=beq_eq_false_iff_ne.2 h5;have h2:(x != 5)=true:=by simpa using h5
  rw[if_neg h5,h1];clear h5;go_in;go_wp2
  go_ret2
  exact⟨rfl,qybm _⟩
theorem q24b(W:World):(zeroValue 182).run prog W=.ok .nilFunc W:=by kernel_rfl
theorem qv3n{n:Int}(h0:-9223372036854775808<=n)(h1:n<=9223372036854775807):(Lit.int .i64 n).wf=true:=by simp[Lit.wf,IntKind.min,IntKind.max,IntKind.signed,IntKind.bits];omega
theorem q2qrj{k:Int}(hk0:-9223372036854775808<=k)(hk1:k<=9223372036854775807)(W:World)(b:Nat)(h:qvwa W b) :
 (Instr.lookup 184 (.map (some b)) (.int .i64 k) true).run prog W=.ok (.tuple #[q1n3 .nilFunc qo38 k,.bool (hasK qo38 k)]) W:=
 h.look underlying3 underlying184 (q24b W) (qv3n hk0 hk1)
theorem qkgb(v k:Int)(w:World)(hk0:-9223372036854775808<=k)(hk1:k<=9223372036854775807) :
 Calls prog 122 #[.int .i64 v,.int .i64 k] w fun e w'=>e=.returned (.tuple #[.bool (qyjk v k).1,.int .i64 ((qyjk v k).2:Nat)])/\Below w.heap.size w w':=by
 have LK:=q2qrj hk0 hk1;have hv:(v=4\/v=5)\/((v==4)=false/\(v==5)=false)/\(v != 4)=true/\(v != 5)=true/\versC v=false:=by
  by_cases h4:v=4
  ·exact .inl (.inl h4)
  by_cases h5:v=5
  ·exact .inl (.inr h5)
  exact .inr ⟨⟨beq_eq_false_iff_ne.2 h4,beq_eq_false_iff_ne.2 h5⟩,by simpa using h4,by simpa using h5,by simp[versC,h4,h5]⟩
 have hk:(k=12\/k=13\/k=14\/k=15)\/q1n3 .nilFunc qo38 k=.nilFunc/\hasK qo38 k=false/\q5t0 k=false:=by
  by_cases h:k=12\/k=13\/k=14\/k=15
  ·exact .inl h
  ·refine .inr ⟨?_,?_,?_⟩
   ·simp only[qo38,q1n3];rw[if_neg (by omega),if_neg (by omega),if_neg (by omega),if_neg (by omega)]
   ·simp only[qo38,hasK];rw[if_neg (by omega),if_neg (by omega),if_neg (by omega),if_neg (by omega)]
   ·simp only[q5t0,Bool.and_eq_false_iff,decide_eq_false_iff_not];omega
 have PI:=hid qena;have DI:=hid qugm;have AU:=hid qtnb;have KD:=hid qa1p;rcases hk with hk|⟨l1,l2,l3⟩
 ·rcases hv with hv|⟨⟨v1,v2⟩,v3,v4,v5⟩
  ·rcases hk with rfl|rfl|rfl|rfl
   case' inl=>have hh:hasK qo38 12=true:=rfl;have hl:q1n3 .nilFunc qo38 12=.func (.func 205) #[.agg #[]] #[]:=rfl
   case' inr.inl=>have hh:hasK qo38 13=true:=rfl;have hl:q1n3 .nilFunc qo38 13=.func (.func 205) #[.agg #[]] #[]:=rfl
   case' inr.inr.inl=>have hh:hasK qo38 14=true:=rfl;have hl:q1n3 .nilFunc qo38 14=.func (.func 206) #[.agg #[]] #[]:=rfl
   case' inr.inr.inr=>have hh:hasK qo38 15=true:=rfl;have hl:q1n3 .nilFunc qo38 15=.func (.func 207) #[.agg #[]] #[]:=rfl
   all_goals
    rw[hh,hl] at LK;have LKH:=hid LK;clear LK hh hl hk0 hk1;rcases hv with rfl|rfl
    all_goals
     go_in;go_wp2_with fail;refine(KD.out _).mono ?_;rintro e W ⟨b,rfl,hK,hb⟩;have lk:=LKH.out W b hK;have LO:=hid hb;clear hb hK;go_wp2_with fail
     first
      |with_reducible refine(PI.out _ _).mono ?_
      |with_reducible refine(DI.out _ _).mono ?_
      |with_reducible refine(AU.out _ _).mono ?_
     rintro e W2 ⟨rfl,hb⟩;have LO2:=hid (qxh2 LO.out hb);clear hb LO;go_wp2
     go_ret2
     exact⟨rfl,LO2.out⟩
  ·have ht:qyjk v k=(false,2):=by simp[qyjk,v5]
   rw[ht];clear ht v5;obtain⟨hh,f,hl⟩:hasK qo38 k=true/\∃f,q1n3 .nilFunc qo38 k=.func (.func f) #[.agg #[]] #[]:=by
    rcases hk with rfl|rfl|rfl|rfl
    all_goals exact⟨rfl,_,rfl⟩
   rw[hh,hl] at LK;have LKH:=hid LK;clear LK hh hl hk hk0 hk1;go_in;go_wp2_with fail;refine(KD.out _).mono ?_;rintro e W ⟨b,rfl,hK,hb⟩;have lk:=LKH.out W b hK;have LO:=hid hb;clear hb hK;go_wp2
   go_ret2
   exact⟨rfl,LO.out⟩
 ·have ht:qyjk v k=(false,2):=by simp[qyjk,l3]
  rw[ht];rw[l1,l2] at LK;have LKH:=hid LK;clear LK ht l1 l2 l3 hv hk0 hk1;go_in;go_wp2_with fail;refine(KD.out _).mono ?_;rintro e W ⟨b,rfl,hK,hb⟩;have lk:=LKH.out W b hK;have LO:=hid hb;clear hb hK;go_wp2
  go_ret2
  exact⟨rfl,LO.out⟩
end Go.Proofs.YtombgnfedafkjaaGreatDoor
