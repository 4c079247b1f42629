/- The contract of head.Read. Condition: the length of the string. -/
import Derived.Test.YtefmhbioggcfaaaGreatDoorK17
import Derived.Test.YtefmhbioggcfaaaGreatDoorK18
set_option maxRecDepth 100000
namespace Go.Proofs.YtefmhbioggcfaaaGreatDoor
open Lib(hid)
open Proofs.Tryz
open Go.RowKit
theorem qpcz:(prog.info? 65).map (·.size)=some 3:=by kernel_rfl
def HdRd(v:Int)(l:List UInt8):Ending := .returned (.tuple #[hdV (qday v l).1,.int .i64 ((qday v l).2.1:Nat),.int .i64 ((qday v l).2.2:Nat)])
def qm9f(v:Int)(l:List UInt8)(w:World)(e:Ending)(w':World):Prop:=e=HdRd v l/\Below w.heap.size w w'
theorem q0fm{fn:Func}{R:Ending->World->Prop}{a:Act}{W:World}{p u v:Tmp}{B:Nat}{cs:Array Value}{x y:Value}(h:fn.results=#[.cell p 65,.tmp u,.tmp v])(hp:a.tmps.getD p undef=.pointer (some ⟨B,0,none⟩))(hu:a.tmps.getD u undef=x)(hv:a.tmps.getD v undef=y)(hd:a.defers=[])(hcs:cs.size=3)
 (hg:W.heap[B]?=some (.cells cs 65 (0,0))) (hR:R (.returned (.tuple #[.agg cs,x,y])) W):bodyPost prog fn R .ret a W:=
 qabx h hp hu hv hd underlying65 rfl (by rw[hcs];exact qpcz) hg hR
theorem qez9(b:UInt8)(s:ByteArray)(h:s.data.toList=[b]):qf3l s=b.toNat:=by
 unfold qf3l
 have:s.size=1:=by rw[show s.size=s.data.toList.length by simp,h];rfl
 rw[this,h];simp[num]
theorem qn9w(l:List UInt8):rdN l<=4:=by
 unfold rdN;split
 ·rename_i h
  have:=qvpf l (run 0 0 l).1 (run 0 0 l).2.1 (by rw[<-h])
  have h2:=qnl4 (run 0 0 l).1 this.1;omega
 ·omega
theorem q5fz(v:Int)(s:ByteArray)(w:World)(hm:s.size<=9223372036854775807):Calls prog 27 #[.int .i64 v,.string s] w (qm9f v s.data.toList w):=by
 have V:=hid (qzcr v);have hb0:Below w.heap.size w (w.alloc (.cells #[.int .i64 0,.int .i64 0,.int .i64 0] 65)):=qybm _;have B0:=hid hb0;have N0:=hid (heap_alloc_new w (.cells #[.int .i64 0,.int .i64 0,.int .i64 0] 65));clear hb0;cases hv:verH v
 ·have he:verE v=2:=by unfold verE;rw[hv];rfl
  have hr:HdRd v s.data.toList=.returned (.tuple #[.agg #[.int .i64 0,.int .i64 0,.int .i64 0],.int .i64 0,.int .i64 2]):=by
   unfold HdRd;cases s.data.toList with
   |nil=>rw[qwts,if_pos hv];rfl
   |cons b r=>
    rw[qr52];have hc:q9d8 v (q1f7 b)=2:=by unfold q9d8;rw[if_pos hv]
    rw[if_pos (by rw[hc];decide),hc];rfl
  have HR:=hid hr;rw[he] at V;clear he hr hv;go_in;go_wp2_with fail;refine(V.out _).mono ?_;rintro e w' ⟨rfl,rfl⟩;go_wp2_with fail;exact q0fm rfl rfl rfl rfl rfl rfl N0.out ⟨HR.out.symm,B0.out⟩
 have he:verE v=0:=by unfold verE;rw[hv];rfl
 rw[he] at V;clear he;by_cases hs:s.size=0
 ·have hr:HdRd v s.data.toList=.returned (.tuple #[.agg #[.int .i64 0,.int .i64 0,.int .i64 0],.int .i64 0,.int .i64 3]):=by
   have:s.data.toList=[]:=List.eq_nil_of_length_eq_zero (by simpa using hs)
   unfold HdRd;rw[this,qwts,if_neg (by rw[hv];decide)];rfl
  have HR:=hid hr;have NUM:=hid (fun(W:World) (C:Nat) (hc:Cur W C s 0 0)=>q6bm 1 hc (Nat.zero_le _) hm (by rw[hs];decide));clear hr hs hv;go_in;go_wp2_with fail;refine(V.out _).mono ?_;rintro e w' ⟨rfl,rfl⟩;go_wp2_with fail;refine(q2gu s _).mono ?_;rintro e w1 ⟨rfl,hc,hb,_⟩;have N1:=(hb.block w.heap.size (by simp)).trans N0.out;have B1:=qxh2 B0.out hb;rw[World.size_alloc] at hc;have HC:=hid hc;have N1:=hid N1;have B1:=hid B1;clear hc hb;go_wp2_with fail;refine(NUM.out _ _ HC.out).mono ?_;rintro e w2 ⟨rfl,hc,hg⟩;have N2:=hid ((hg.block w.heap.size (lt_of_block N1.out) (by simp)).trans N1.out);have B2:=hid (B1.out.grown hg B1.out.size (fun k hk=>by cases hk;exact Nat.le_succ _));clear hg;go_wp2_with fail;refine(q29p hc).mono ?_;rintro e w3 ⟨rfl,rfl⟩;clear hc;go_wp2_with (refine wpList_store_row rfl _ _ _ rfl w.heap.size _ rfl rfl 65 _ N2.out qpcz rfl (by simp[Value.oneCell']) ?_);exact q0fm rfl rfl rfl rfl rfl rfl (setRow_heap _ _ _ _ _ _ N2.out) ⟨HR.out.symm,q8xz B2.out (Nat.le_refl _) _⟩
 obtain⟨b,r,hbr⟩:∃b r,s.data.toList=b::r:=by
  cases h:s.data.toList with
  |nil=>exact absurd (show s.size=0 by rw[show s.size=s.data.toList.length by simp,h];rfl) hs
  |cons b r=>exact⟨b,r,rfl⟩
 have hbn:=b.toNat_lt;have hx1:(s.extract 0 (0+1)).data.toList=[b]:=by rw[show(s.extract 0 (0+1)).data.toList=s.data.toList.take 1 by simp[Array.toList_extract,List.extract_eq_take_drop],hbr];rfl
 have hx2:(s.extract 1 s.size).data.toList=r:=by rw[show(s.extract 1 s.size).data.toList=(s.data.toList.drop 1).take (s.size-1) by simp[Array.toList_extract,List.extract_eq_take_drop],hbr];show r.take (s.size-1)=r;exact List.take_of_length_le (by rw[show s.size=s.data.toList.length by simp,hbr];simp)
 have NUM:=hid (fun(W:World) (C:Nat) (hc:Cur W C s 0 0)=>qvi6 1 hc (by omega) hm);rw[qez9 b _ hx1] at NUM;obtain⟨x,hx⟩:∃x,b.toNat=x:=⟨_,rfl⟩
 have hx255:(x:Int)<=255:=by omega
 obtain⟨K,hK⟩:∃K,(x:Int) / 16=K:=⟨_,rfl⟩
 obtain⟨F,hF⟩:∃F,(x:Int)%16=F:=⟨_,rfl⟩
 have hof:q1f7 b=⟨K,F,0⟩:=by unfold q1f7;rw[<-hK,<-hF,<-hx];simp
 have CH:=hid (q5sb v (q1f7 b));have hrd:qday v s.data.toList=qday v (b::r):=by rw[hbr]
 rw[qr52] at hrd;rw[hof] at CH hrd;rw[hx] at NUM;have e1:((b.toNat / 16:Nat):Int)=K:=by rw[hx,<-hK];simp
 have e2:((b.toNat%16:Nat):Int)=F:=by rw[hx,<-hF];simp
 rw[e1,e2] at hrd;clear e1 e2 hof hx1 hbn hx hbr;have RD:=hid (fun W=>q6w6 (s.extract 1 s.size) W (by simp;omega));rw[hx2] at RD;have hs1:¬s.size<1:=by omega
 have hs1':1<=s.size:=by omega
 have LS:=hid hs1';clear hs hs1 hs1' hx2;by_cases hc0:q9d8 v ⟨K,F,0⟩≠0
 ·rw[if_pos hc0] at hrd;have hr:HdRd v s.data.toList=.returned (.tuple #[.agg #[.int .i64 0,.int .i64 0,.int .i64 0],.int .i64 0,.int .i64 (q9d8 v ⟨K,F,0⟩:Nat)]):=by unfold HdRd;rw[hrd];rfl
  have HR:=hid hr;have hne:(((q9d8 v ⟨K,F,0⟩:Nat):Int)==0)=false:=by simp;exact hc0
  generalize q9d8 v ⟨K,F,0⟩=z at *;clear hr hrd hc0 hv RD;unfold hdV at CH;go_in;go_wp2_with fail;refine(V.out _).mono ?_;rintro e w' ⟨rfl,rfl⟩;go_wp2_with fail;refine(q2gu s _).mono ?_;rintro e w1 ⟨rfl,hc,hb,_⟩;have N1:=(hb.block w.heap.size (by simp)).trans N0.out;have B1:=qxh2 B0.out hb;rw[World.size_alloc] at hc;have HC:=hid hc;have N1:=hid N1;have B1:=hid B1;clear hc hb;go_wp2_with fail;refine(NUM.out _ _ HC.out).mono ?_;rintro e w2 ⟨rfl,hc,hg⟩;have N2:=hid ((hg.block w.heap.size (lt_of_block N1.out) (by simp)).trans N1.out);have B2:=hid (B1.out.grown hg B1.out.size (fun k hk=>by cases hk;exact Nat.le_succ _));clear hg;go_wp2_with fail;refine(q29p hc).mono ?_;rintro e w3 ⟨rfl,rfl⟩;clear hc;have N3:=hid (setRow_heap _ _ _ #[.int .i64 K,.int .i64 F,.int .i64 0] _ _ N2.out);have B3:=hid (q8xz B2.out (Nat.le_refl _) #[.int .i64 K,.int .i64 F,.int .i64 0]);go_wp2_with (first
   |(refine wpList_store_row rfl _ _ _ rfl w.heap.size _ rfl rfl 65 _ N2.out qpcz rfl (by simp[Value.oneCell']) ?_)
   |(refine wpList_load_row rfl _ _ rfl w.heap.size rfl 65 _ (0,0) _ N3.out underlying65 rfl qpcz ?_))
  refine(CH.out _).mono ?_;rintro e w4 ⟨rfl,hb⟩;have N4:=hid ((hb.block w.heap.size (lt_of_block N3.out)).trans N3.out);have B4:=hid (qxh2 B3.out hb);clear hb;go_wp2_with (refine wpList_store_row rfl _ _ _ rfl w.heap.size _ rfl rfl 65 _ N4.out qpcz rfl (by simp[Value.oneCell']) ?_);exact q0fm rfl rfl rfl rfl rfl rfl (setRow_heap _ _ _ _ _ _ N4.out) ⟨HR.out.symm,q8xz B4.out (Nat.le_refl _) _⟩
 ·have hc0':q9d8 v ⟨K,F,0⟩=0:=Classical.byContradiction hc0;rw[if_neg hc0] at hrd;rw[hc0'] at CH;clear hc0 hc0';unfold qxfh q51h at RD;by_cases he0:rdE r≠0
  ·rw[if_pos he0] at hrd;have hr:HdRd v s.data.toList=.returned (.tuple #[.agg #[.int .i64 0,.int .i64 0,.int .i64 0],.int .i64 0,.int .i64 (rdE r:Nat)]):=by unfold HdRd;rw[hrd];rfl
   have HR:=hid hr;have hne:(((rdE r:Nat):Int)==0)=false:=by simp;exact he0
   generalize rdE r=z at *;generalize rdV r=y at *;generalize rdN r=n at *;clear hr hrd he0 hv;unfold hdV at CH;go_in;go_wp2_with fail;refine(V.out _).mono ?_;rintro e w' ⟨rfl,rfl⟩;go_wp2_with fail;refine(q2gu s _).mono ?_;rintro e w1 ⟨rfl,hc,hb,_⟩;have N1:=(hb.block w.heap.size (by simp)).trans N0.out;have B1:=qxh2 B0.out hb;rw[World.size_alloc] at hc;have HC:=hid hc;have N1:=hid N1;have B1:=hid B1;clear hc hb;go_wp2_with fail;refine(NUM.out _ _ HC.out).mono ?_;rintro e w2 ⟨rfl,hc,hg⟩;have N2:=hid ((hg.block w.heap.size (lt_of_block N1.out) (by simp)).trans N1.out);have B2:=hid (B1.out.grown hg B1.out.size (fun k hk=>by cases hk;exact Nat.le_succ _));clear hg;go_wp2_with fail;refine(q29p hc).mono ?_;rintro e w3 ⟨rfl,rfl⟩;have HC:=hid hc;clear hc;have N3:=hid (setRow_heap _ _ _ #[.int .i64 K,.int .i64 F,.int .i64 0] _ _ N2.out);have B3:=hid (q8xz B2.out (Nat.le_refl _) #[.int .i64 K,.int .i64 F,.int .i64 0]);go_wp2_with (first
    |(refine wpList_store_row rfl _ _ _ rfl w.heap.size _ rfl rfl 65 _ N2.out qpcz rfl (by simp[Value.oneCell']) ?_)
    |(refine wpList_load_row rfl _ _ rfl w.heap.size rfl 65 _ (0,0) _ N3.out underlying65 rfl qpcz ?_))
   refine(CH.out _).mono ?_;rintro e w4 ⟨rfl,hb⟩;have N4:=hid ((hb.block w.heap.size (lt_of_block N3.out)).trans N3.out);have B4:=hid (qxh2 B3.out hb);have HC2:=hid (HC.out.of_block (w':=w2.setRow w.heap.size #[.int .i64 K,.int .i64 F,.int .i64 0]) (setRow_other _ _ _ _ (by omega)));have HC4:=hid (HC2.out.of_block (hb.block _ HC2.out.lt));clear hb;go_wp2_with fail;refine(qdvc HC4.out LS.out hm).mono ?_;rintro e w5 ⟨rfl,m,rfl⟩;have N5:(w4.drewN m).heap[w.heap.size]?=_:=N4.out;have B5:=qnpu B4.out m;generalize w4.drewN m=w5 at *;have N5:=hid N5;have B5:=hid B5;go_wp2_with fail;refine(RD.out _).mono ?_;rintro e w6 ⟨rfl,hb⟩;have N6:=hid ((hb.block w.heap.size (lt_of_block N5.out)).trans N5.out);have B6:=hid (qxh2 B5.out hb);clear hb;go_wp2_with (refine wpList_store_row rfl _ _ _ rfl w.heap.size _ rfl rfl 65 _ N6.out qpcz rfl (by simp[Value.oneCell']) ?_);exact q0fm rfl rfl rfl rfl rfl rfl (setRow_heap _ _ _ _ _ _ N6.out) ⟨HR.out.symm,q8xz B6.out (Nat.le_refl _) _⟩
  ·have he0':rdE r=0:=Classical.byContradiction he0;rw[if_neg he0] at hrd;rw[he0'] at RD;have hr:HdRd v s.data.toList=.returned (.tuple #[.agg #[.int .i64 K,.int .i64 F,.int .i64 (rdV r:Nat)],.int .i64 (1+rdN r:Nat),.int .i64 0]):=by unfold HdRd;rw[hrd];rfl
   have hn4:(rdN r:Int)<=4:=by have:=qn9w r;omega
   have h1n:((1+rdN r:Nat):Int)=1+(rdN r:Int):=by omega
   rw[h1n] at hr;have HR:=hid hr;generalize rdV r=y at *;generalize rdN r=n at *;clear hr hrd he0 he0' hv h1n;unfold hdV at CH;go_in;go_wp2_with fail;refine(V.out _).mono ?_;rintro e w' ⟨rfl,rfl⟩;go_wp2_with fail;refine(q2gu s _).mono ?_;rintro e w1 ⟨rfl,hc,hb,_⟩;have N1:=(hb.block w.heap.size (by simp)).trans N0.out;have B1:=qxh2 B0.out hb;rw[World.size_alloc] at hc;have HC:=hid hc;have N1:=hid N1;have B1:=hid B1;clear hc hb;go_wp2_with fail;refine(NUM.out _ _ HC.out).mono ?_;rintro e w2 ⟨rfl,hc,hg⟩;have N2:=hid ((hg.block w.heap.size (lt_of_block N1.out) (by simp)).trans N1.out);have B2:=hid (B1.out.grown hg B1.out.size (fun k hk=>by cases hk;exact Nat.le_succ _));clear hg;go_wp2_with fail;refine(q29p hc).mono ?_;rintro e w3 ⟨rfl,rfl⟩;have HC:=hid hc;clear hc;have N3:=hid (setRow_heap _ _ _ #[.int .i64 K,.int .i64 F,.int .i64 0] _ _ N2.out);have B3:=hid (q8xz B2.out (Nat.le_refl _) #[.int .i64 K,.int .i64 F,.int .i64 0]);go_wp2_with (first
    |(refine wpList_store_row rfl _ _ _ rfl w.heap.size _ rfl rfl 65 _ N2.out qpcz rfl (by simp[Value.oneCell']) ?_)
    |(refine wpList_load_row rfl _ _ rfl w.heap.size rfl 65 _ (0,0) _ N3.out underlying65 rfl qpcz ?_))
   refine(CH.out _).mono ?_;rintro e w4 ⟨rfl,hb⟩;have N4:=hid ((hb.block w.heap.size (lt_of_block N3.out)).trans N3.out);have B4:=hid (qxh2 B3.out hb);have HC2:=hid (HC.out.of_block (w':=w2.setRow w.heap.size #[.int .i64 K,.int .i64 F,.int .i64 0]) (setRow_other _ _ _ _ (by omega)));have HC4:=hid (HC2.out.of_block (hb.block _ HC2.out.lt));clear hb;go_wp2_with fail;refine(qdvc HC4.out LS.out hm).mono ?_;rintro e w5 ⟨rfl,m,rfl⟩;have N5:(w4.drewN m).heap[w.heap.size]?=_:=N4.out;have B5:=qnpu B4.out m;generalize w4.drewN m=w5 at *;have N5:=hid N5;have B5:=hid B5;go_wp2_with fail;refine(RD.out _).mono ?_;rintro e w6 ⟨rfl,hb⟩;have N6:=hid ((hb.block w.heap.size (lt_of_block N5.out)).trans N5.out);have B6:=hid (qxh2 B5.out hb);clear hb;have N7:=hid (qlvy N6.out 2 (.int .i64 y));have B7:=hid (B6.out.setCell (p:=⟨w.heap.size,2,none⟩) (Nat.le_refl _) (.int .i64 y));have N8:=hid (setRow_heap _ _ _ #[.int .i64 K,.int .i64 F,.int .i64 y] _ _ N7.out);have fz:w6.frozen? ⟨w.heap.size,2,none⟩=false:=frozen_of_row _ _ _ _ _ N6.out;have cz:w6.cell? ⟨w.heap.size,2,none⟩=some (.int .i64 0):=cell_of_row _ _ 2 _ _ _ N6.out;go_wp2_with (first
    |(refine wpList_store_row rfl _ _ _ rfl w.heap.size _ rfl rfl 65 _ N7.out qpcz rfl (by simp[Value.oneCell']) ?_)
    |(refine wpList_load_row rfl _ _ rfl w.heap.size rfl 65 _ (0,0) _ N7.out underlying65 rfl qpcz ?_))
   exact q0fm rfl rfl rfl rfl rfl rfl N8.out ⟨HR.out.symm,q8xz B7.out (Nat.le_refl _) _⟩
end Go.Proofs.YtefmhbioggcfaaaGreatDoor
