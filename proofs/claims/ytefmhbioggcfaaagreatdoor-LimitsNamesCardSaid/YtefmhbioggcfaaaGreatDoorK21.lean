/- The library's functions on strings lie in this program as the library's contracts ask: strings.IndexAny. No condition. -/
import Derived.Shelf.Strings.IndexAnyAll
import Derived.Test.YtefmhbioggcfaaaGreatDoorK06
set_option maxRecDepth 1000000
set_option maxHeartbeats 20000000
namespace Go.Proofs.YtefmhbioggcfaaaGreatDoor
open Lib(hid)
open Proofs.Tryz
open Go.Shelf
def q5p3:Go.Shelf.Ren:=⟨fun|153=>258|152=>277|226=>278|227=>279|228=>280|137=>287|119=>288|224=>289|225=>290|217=>296|266=>301|n=>n,fun|9=>9|3=>3|4=>4|5=>5|21=>21|117=>287|116=>286|0=>0|46=>106|124=>297|n=>n,fun|n=>n⟩
theorem qzew:Go.Proofs.Lays.n153 prog q5p3:={
 mixed:=by kernel_rfl
 f119:=func288.trans (congrArg some (by kernel_rfl))
 f137:=func287.trans (congrArg some (by kernel_rfl))
 f152:=func277.trans (congrArg some (by kernel_rfl))
 f153:=func258.trans (congrArg some (by kernel_rfl))
 f217:=func296.trans (congrArg some (by kernel_rfl))
 f224:=func289.trans (congrArg some (by kernel_rfl))
 f225:=func290.trans (congrArg some (by kernel_rfl))
 f226:=func278.trans (congrArg some (by kernel_rfl))
 f227:=func279.trans (congrArg some (by kernel_rfl))
 f228:=func280.trans (congrArg some (by kernel_rfl))
 f266:=func301.trans (congrArg some (by kernel_rfl))
 t0:=underlying0
 a0:=Tryz.isAgg0
 z0:=Tryz.sizeOf0
 v0:=Tryz.zeroValue0
 t3:=underlying3
 a3:=Tryz.isAgg3
 z3:=Tryz.sizeOf3
 v3:=Tryz.zeroValue3
 t4:=underlying4
 a4:=Tryz.isAgg4
 z4:=Tryz.sizeOf4
 v4:=Tryz.zeroValue4
 t5:=underlying5
 a5:=Tryz.isAgg5
 z5:=Tryz.sizeOf5
 v5:=Tryz.zeroValue5
 t9:=underlying9
 a9:=Tryz.isAgg9
 z9:=Tryz.sizeOf9
 v9:=Tryz.zeroValue9
 t21:=underlying21
 a21:=Tryz.isAgg21
 z21:=Tryz.sizeOf21
 v21:=Tryz.zeroValue21
 t46:=underlying106
 a46:=Tryz.isAgg106
 z46:=Tryz.sizeOf106
 v46:=Tryz.zeroValue106
 t116:=underlying286
 a116:=Tryz.isAgg286
 z116:=Tryz.sizeOf286
 t117:=underlying287
 a117:=Tryz.isAgg287
 z117:=Tryz.sizeOf287
 v117:=Tryz.zeroValue287
 t124:=underlying297
 a124:=Tryz.isAgg297
 z124:=Tryz.sizeOf297
 v124:=Tryz.zeroValue297}
end Go.Proofs.YtefmhbioggcfaaaGreatDoor
namespace Go.Proofs.YtefmhbioggcfaaaGreatDoor
open Lib(hid)
open Proofs.Tryz
open Go.RowKit Go.Shelf
theorem qmh0(b:UInt8)(r:List UInt8)(h:128<=b.toNat) :
 128<=(dl (b::r)).1/\Utf8.valid ((dl (b::r)).1:Int)=true/\1<=(dl (b::r)).2/\(dl (b::r)).2<=(b::r).length/\∀j,j<(dl (b::r)).2->128<=((b::r).getD j 0).toNat:=by
 have hn:¬b.toNat<128:=by omega
 have hb:b.toNat<256:=b.toNat_lt;have h0:∀j,j<1->128<=((b::r).getD j 0).toNat:=fun j hj=>by
  obtain rfl:j=0:=by omega
  exact h
 have bad:128<=((65533,1):Nat×Nat).1/\Utf8.valid ((((65533,1):Nat×Nat).1:Nat):Int)=true/\1<=((65533,1):Nat×Nat).2/\((65533,1):Nat×Nat).2<=(b::r).length/\∀j,j<((65533,1):Nat×Nat).2->128<=((b::r).getD j 0).toNat:=
  ⟨by decide,by decide,by decide,by simp,h0⟩
 have hlt:∀k,((b::r).getD k 0).toNat<256:=fun k=>((b::r).getD k 0).toNat_lt;have cont:∀k,(decide (k<(b::r).length)&&((b::r).getD k 0).toNat / 64==2)=true->k<(b::r).length/\128<=((b::r).getD k 0).toNat:=fun k hk=>by simp only[Bool.and_eq_true,decide_eq_true_eq,beq_iff_eq] at hk;exact⟨hk.1,by omega⟩
 have c1:=cont 1;have c2:=cont 2;have c3:=cont 3;have l1:=hlt 1;have l2:=hlt 2;have l3:=hlt 3;clear cont hlt;unfold dl;simp only[List.getD_cons_zero];rw[if_neg hn];split
 ·rename_i hc;rw[Bool.and_eq_true] at hc;obtain⟨k1,k2⟩:=c1 hc.2;split
  ·rename_i hge;refine⟨hge,(qpx1 _).2 (by omega),Nat.le_succ 1,by omega,fun j hj=>?_⟩
   match j,hj with
   |0,_=>exact h
   |1,_=>exact k2
  ·exact bad
 ·split
  ·rename_i hc;simp only[Bool.and_eq_true] at hc;obtain⟨⟨_,e1⟩,e2⟩:=hc;obtain⟨k1,k2⟩:=c1 (by simpa using e1);obtain⟨k3,k4⟩:=c2 (by simpa using e2);split
   ·rename_i hge;simp only[Bool.and_eq_true,decide_eq_true_eq,ge_iff_le] at hge;refine⟨by omega,hge.2,Nat.le_add_left 1 2,by omega,fun j hj=>?_⟩
    match j,hj with
    |0,_=>exact h
    |1,_=>exact k2
    |2,_=>exact k4
   ·exact bad
  ·split
   ·rename_i hc;simp only[Bool.and_eq_true] at hc;obtain⟨⟨⟨_,e1⟩,e2⟩,e3⟩:=hc;obtain⟨k1,k2⟩:=c1 (by simpa using e1);obtain⟨k3,k4⟩:=c2 (by simpa using e2);obtain⟨k5,k6⟩:=c3 (by simpa using e3);split
    ·rename_i hge;simp only[Bool.and_eq_true,decide_eq_true_eq,ge_iff_le] at hge;refine⟨by omega,hge.2,Nat.le_add_left 1 3,by omega,fun j hj=>?_⟩
     match j,hj with
     |0,_=>exact h
     |1,_=>exact k2
     |2,_=>exact k4
     |3,_=>exact k6
    ·exact bad
   ·exact bad
def pm:ByteArray:=⟨#[43,35]⟩
theorem qdkq:pm.size=2:=rfl
theorem qu5j(w:World) :
 Calls prog 277 #[.string pm,.int .i32 65533] w fun e w'=>e=.returned (.int .i64 (-1))/\Below w.heap.size w w':=by
 have hsz:=qdkq;go_in;go_wp2
 go_loopg [5,6] 2 (fun g _ _ wx=>∃i:Nat,i+g=2/\wx=w.iter pm i)
 case atStart=>exact⟨0,by omega,rfl⟩
 case round=>
  obtain⟨i,hig,rfl⟩:=hrel;cases gk with
  |zero=>
   obtain rfl:i=2:=by omega
   have hnx:=run_next_end (P:=prog) w pm 2;go_wp2;go_ret;exact⟨rfl,(Below.refl _ _).alloc (Nat.le_refl _) _⟩
  |succ g=>
   have hi:i<pm.size:=by omega
   have hlt:(pm[i]'hi).toNat<128:=by
    match i,hi with
    |0,_=>exact(by decide:(43:UInt8).toNat<128)
    |1,_=>exact(by decide:(35:UInt8).toNat<128)
   have hnx:=fun ty=>run_next_ascii (P:=prog) w pm i ty hi hlt;obtain⟨c,hc⟩:∃c,(pm[i]'hi).toNat=c:=⟨_,rfl⟩
   rw[hc] at hnx hlt;have hne:¬(c:Int)=65533:=by omega
   clear hc;go_wp2
   go_roundg g
   case measure=>omega
   case rel=>exact⟨i+1,by omega,rfl⟩
theorem qyok(c:Nat)(w:World)(hv:Utf8.valid (c:Int)=true) :
 Calls prog 288 #[.int .i32 c] w fun e w'=>e=.returned (.bool true)/\w'=w:=by
 rcases(qpx1 c).1 hv with hl|⟨hl,hr⟩
 ·have k0:(0:Int)<=(c:Int):=by omega
  have k1:(c:Int)<55296:=by omega
  clear hv hl;go_in;go_wp2;go_ret;exact⟨rfl,rfl⟩
 ·have k1:¬(c:Int)<55296:=by omega
  have k2:(57343:Int)<(c:Int):=by omega
  have k3:(c:Int)<=1114111:=by omega
  clear hv hl hr;go_in;go_wp2;go_ret;exact⟨rfl,rfl⟩
theorem qail(c:Nat)(rs:ByteArray)(w:World)(hval:RowKit.Hid (Calls prog 288 #[.int .i32 c] w fun e w'=>e=.returned (.bool true)/\w'=w))
 (hconv:∀W,(convert 21 9 (.int .i32 (c:Int))).run prog W=.ok (.string rs) W) (g0:(0:Int)<=(c:Int)) (g1:¬(c:Int)<128) (g2:¬(c:Int)=65533) (n:Int) (k2:2<=n) (k3:n<=3) (h2:(rs.size:Int)=n+1) :
 Calls prog 277 #[.string pm,.int .i32 c] w fun e w'=>e=.returned (.int .i64 (-1))/\w'=w:=by
 have hsz:=qdkq;go_in;generalize hS:Code.scope _=S;have HS:=hid hS;clear hS;go_wp2_with fail;refine(hval.out).mono ?_;rintro e w' ⟨rfl,rfl⟩;go_wp2_with fail;have hS:=HS.out;clear HS;subst hS
 go_step3
 generalize hF:Code.seq (Code.label 1) _=F;have HF:=hid hF;clear hF;generalize hB:Code.block 2 _=B;have HB:=hid hB;clear hB;go_wp2_with fail;refine wp_loop_rounds 1 ?_;rw[rounds_succ];go_wp2_with fail;rw[Exit.noGoto_ret];go_ret;exact⟨rfl,rfl⟩
theorem qvw1(q:Nat)(x:ByteArray)(W:World)(hx:x.size=0) :
 Calls prog 287 #[.string x,.int .u8 (q:Int)] W fun e w'=>e=.returned (.int .i64 (-1))/\W=w':=by
 refine(Any.strings_IndexByte (P:=prog) {qzew with} x (q:Int) W).mono fun e w' ⟨he,hw⟩=>⟨?_,hw.symm⟩
 have hl:x.data.toList=[]:=List.eq_nil_of_length_eq_zero (by rw[<-Lib.size_eq];exact hx);rw[he,hl];rfl
theorem qfwh(c:Nat)(rs:ByteArray)(q:Nat)(w:World)(hval:RowKit.Hid (Calls prog 288 #[.int .i32 c] w fun e w'=>e=.returned (.bool true)/\w'=w))
 (hconv:∀W,(convert 21 9 (.int .i32 (c:Int))).run prog W=.ok (.string rs) W) (g0:(0:Int)<=(c:Int)) (g1:¬(c:Int)<128) (g2:¬(c:Int)=65533) (h2:rs.size=2) (hq:(rs[1]'(by omega)).toNat=q) (g5:((35:Int) != (q:Int))=true) :
 Calls prog 277 #[.string pm,.int .i32 c] w fun e w'=>e=.returned (.int .i64 (-1))/\∃n,w'=w.drewN n:=by
 have hsz:=qdkq;have hib:=hid (qvw1 q);go_in;generalize hS:Code.scope _=S;have HS:=hid hS;clear hS;go_wp2_with fail;refine(hval.out).mono ?_;rintro e w' ⟨rfl,rfl⟩;go_wp2_with fail;have hS:=HS.out;clear HS;subst hS
 go_step3
 generalize hF:Code.seq (Code.label 1) _=F;have HF:=hid hF;clear hF;generalize hB:Code.block 2 _=B;have HB:=hid hB;clear hB;go_wp2_with fail;refine wp_loop_rounds 1 ?_;rw[rounds_succ];go_wp2_with fail;have hB:=HB.out;clear HB;subst hB;have hp1:(pm[1]'(by decide)).toNat=35:=rfl;go_wp2_with fail
 go_step3
 go_wp2_with fail;go_quiet (fail);go_wp2_with fail;have hw2:IntKind.i64.wrap 2=2:=by decide
 go_quiet (first|(go_at_call 287;exact(hib.out ByteArray.empty _ rfl).mono fun _ _ h=>⟨h.1,_,h.2.symm⟩));go_wp2_with fail;simp only[Exit.noGoto,Exit.inBlock,Exit.then];go_ret;exact⟨rfl,_,rfl⟩
theorem qfkj(c:Nat)(w:World)(h:128<=c)(hv:Utf8.valid (c:Int)=true) :
 Calls prog 277 #[.string pm,.int .i32 c] w fun e w'=>e=.returned (.int .i64 (-1))/\Below w.heap.size w w':=by
 by_cases hne:c=65533
 ·subst hne;exact qu5j w
 ·have hval:=hid (qyok c w hv);obtain⟨e1,e2,e3⟩:=encode_facts (c:Int) hv (by omega);have hconv:∀W,(convert 21 9 (.int .i32 (c:Int))).run prog W=.ok (.string (Utf8.encode (c:Int))) W:=fun W=>run_convert_int_string W _ _ _ _ (by rw[underlying21];rfl) underlying9;generalize Utf8.encode (c:Int)=rs at *;by_cases h2:rs.size=2
  ·have hlast:128<=(rs[1]'(by omega)).toNat:=by
    have:=e3 (by omega)
    simpa [h2] using this
   exact(qfwh c rs _ w hval hconv (by omega) (by omega) (by omega) h2 rfl (by simp only[bne_iff_ne,ne_eq];omega)).mono fun e w' ⟨he,n,hw⟩=>⟨he,hw▸qnpu (Below.refl _ _) n⟩
  ·exact(qail c rs w hval hconv (by omega) (by omega) (by omega) ((rs.size:Int)-1) (by omega) (by omega) (by omega)).mono fun e w' ⟨he,hw⟩=>⟨he,hw▸Below.refl _ _⟩
def pml:List UInt8:=[43,35]
theorem q6uz(b:UInt8)(h:128<=b.toNat):pml.contains b=false:=by
 have h1:b≠43:=fun e=>by rw[e] at h;exact absurd h (by decide)
 have h2:b≠35:=fun e=>by rw[e] at h;exact absurd h (by decide)
 simp[pml,h1,h2]
theorem qyx4{l:List UInt8}{i k:Nat}(h:Lib.NoAny l pml i)(hk:∀j,j<k->128<=((l.drop i).getD j 0).toNat):Lib.NoAny l pml (i+k):=fun j b hj hb=>by
 by_cases hi:j<i
 ·exact h j b hi hb
 ·have:=hk (j-i) (by omega)
  rw[List.getD_eq_getElem?_getD,List.getElem?_drop,show i+(j-i)=j by omega,hb] at this;exact q6uz b this
theorem qgtd(s:ByteArray)(w:World)(h8:s.size<=8) :
 Calls prog 258 #[.string s,.string pm] w fun e w'=>e=.returned (.int .i64 (Lib.indexAny s.data.toList pml))/\Below w.heap.size w w':=by
 have hsz:=qdkq;have h8z:decide ((8:Int)<(s.size:Int))=false:=decide_eq_false (by omega);have hemp:pm.toList.isEmpty=false:=by rw[qrze];rfl
 have hset:=Any.strings_shouldUseASCIISet (P:=prog) {qzew with} s.size w;rw[h8z] at hset;have hset:=hid hset;clear h8z;have hsm:s.size<9223372036854775807:=by omega
 go_in;go_wp2_with fail;refine(hset.out).mono ?_;rintro e w' ⟨rfl,rfl⟩;go_wp2_with fail
 go_loopg [9,10] s.size (fun g _ _ wx=>∃i:Nat,i<=s.size/\g=s.size-i/\wx.heap[w'.heap.size]?=some (.stringIter s i)/\Below w'.heap.size w' wx/\Lib.NoAny s.data.toList pml i)
 case atStart=>exact⟨0,by omega,by omega,World.iter_heap _ _ _,(Below.refl _ _).alloc (Nat.le_refl _) _,Lib.NoAny.zero _ _⟩
 case round=>
  obtain⟨i,hi,hg,hit,hB,hno⟩:=hrel;have HN:=hid hno;have HB:=hid hB;have HI:=hid hit;by_cases hlt:i<s.size
  ·have hnx:=fun ty=>Lib.run_next_any_at (P:=prog) wr w'.heap.size s i ty hit hlt;rw[qf0g] at hnx;have hsl:i<s.data.toList.length:=by rw[<-Lib.size_eq];exact hlt
   have hdr:s.data.toList.drop i=s.data.toList[i]::s.data.toList.drop (i+1):=List.drop_eq_getElem_cons hsl;have hsome:s.data.toList[i]?=some s.data.toList[i]:=List.getElem?_eq_getElem hsl;obtain⟨b,hb⟩:∃b,s.data.toList[i]=b:=⟨_,rfl⟩
   rw[hb] at hdr hsome;by_cases h128:b.toNat<128
   ·have hd:dl (s.data.toList.drop i)=(b.toNat,1):=by rw[hdr];simp[dl,h128]
    rw[hd] at hnx;obtain⟨z,hz⟩:∃z,Lib.indexByte pml b=z:=⟨_,rfl⟩
    have hR:∀W,Calls prog 277 #[.string pm,.int .i32 (b.toNat:Int)] W fun e w'=>e=.returned (.int .i64 z)/\W=w':=fun W=>
     (Any.strings_IndexRune_ascii (P:=prog) {qzew with} pm (b.toNat:Int) W (by omega) (by omega)).mono fun e w' ⟨he,hw⟩=>⟨by
      rw[he,<-hz]
      have:((b.toNat:Int)).toNat.toUInt8=b:=by simp
      rw[this];rfl,hw.symm⟩
    have hR:=hid hR;have hcon:=Lib.contains_iff_indexByte pml b;rw[hz] at hcon;have hi2:=Lib.iterAt_heap wr w'.heap.size s i (i+1) hit;have hB2:=Lib.below_iterAt hB (Nat.le_refl _) s (i+1);have NEXT:=hid (show(wr.iterAt w'.heap.size s (i+1)).heap[w'.heap.size]?=some (.stringIter s (i+1))/\Below w'.heap.size w' (wr.iterAt w'.heap.size s (i+1)) from⟨hi2,hB2⟩);obtain⟨c,hc⟩:∃c,b.toNat=c:=⟨_,rfl⟩
    rw[hc] at hnx hR;have HS:=hid hsome;cases hin:pml.contains b with
    |false=>
     rw[hin] at hcon;have hlt0:¬(0:Int)<=z:=of_decide_eq_false hcon.symm;have HIN:=hid hin;clear hi2 hB2 hcon hin hsome hdr hb hd hno hB hit hz hc h128 hsl;go_wp2_with fail;refine(hR.out _).mono ?_;rintro e W ⟨rfl,rfl⟩;go_wp2_with fail
     go_roundg (s.size-(i+1))
     case measure=>omega
     case rel=>exact⟨i+1,by omega,rfl,NEXT.out.1,NEXT.out.2,HN.out.succ HS.out HIN.out⟩
    |true=>rw[hin] at hcon;have hge0:(0:Int)<=z:=of_decide_eq_true hcon.symm;have HIN:=hid hin;clear hi2 hB2 hcon hin hsome hdr hb hd hno hB hit hz hc h128 hsl;go_wp2_with fail;refine(hR.out _).mono ?_;rintro e W ⟨rfl,rfl⟩;go_wp2;go_ret;exact⟨by rw[Lib.indexAny_hit HN.out HS.out HIN.out];rfl,NEXT.out.2⟩
   ·have hd:=qmh0 b (s.data.toList.drop (i+1)) (by omega);rw[<-hdr] at hd;obtain⟨d1,d2,d3,d4,d5⟩:=hd;rw[List.length_drop] at d4;have hR:=fun W=>qfkj (dl (s.data.toList.drop i)).1 W d1 d2;have HN2:=qyx4 hno d5;obtain⟨k,hk⟩:∃k,(dl (s.data.toList.drop i)).2=k:=⟨_,rfl⟩
    obtain⟨c,hc⟩:∃c,(dl (s.data.toList.drop i)).1=c:=⟨_,rfl⟩
    rw[hk] at d3 d4 HN2;rw[hc] at hR;rw[hk,hc] at hnx;have hi2:=Lib.iterAt_heap wr w'.heap.size s i (i+k) hit;have hB2:=Lib.below_iterAt hB (Nat.le_refl _) s (i+k);have hlh:w'.heap.size<(wr.iterAt w'.heap.size s (i+k)).heap.size:=(Array.getElem?_eq_some_iff.1 hi2).1;have NEXT:=hid (show(wr.iterAt w'.heap.size s (i+k)).heap[w'.heap.size]?=some (.stringIter s (i+k))/\Below w'.heap.size w' (wr.iterAt w'.heap.size s (i+k))/\Lib.NoAny s.data.toList pml (i+k)/\w'.heap.size<(wr.iterAt w'.heap.size s (i+k)).heap.size/\1<=k/\i+k<=s.size from⟨hi2,hB2,HN2,hlh,d3,by rw[Lib.size_eq];omega⟩);have hR:=hid hR;clear hi2 hB2 HN2 hlh d1 d2 d3 d4 d5 hk hc hsome hdr hb hno hB hit h128 hsl;go_wp2_with fail;refine(hR.out _).mono ?_;rintro e W ⟨rfl,hb⟩;have NX:=NEXT.out;have N2:=hid (show W.heap[w'.heap.size]?=some (.stringIter s (i+k))/\Below w'.heap.size w' W from⟨(hb.block _ NX.2.2.2.1).trans NX.1,NX.2.1.trans (hb.mono (Nat.le_of_lt NX.2.2.2.1))⟩);clear NX hb;go_wp2_with fail
    go_roundg (s.size-(i+k))
    case measure=>have:=NEXT.out;omega
    case rel=>exact⟨i+k,NEXT.out.2.2.2.2.2,rfl,N2.out.1,N2.out.2,NEXT.out.2.2.1⟩
  ·obtain rfl:i=s.size:=by omega
   have hnx:=fun ty=>Lib.run_next_end_at (P:=prog) wr w'.heap.size s s.size ty hit hlt;clear hno hit;go_wp2;go_ret;exact⟨by rw[Lib.indexAny_none (by rw[<-Lib.size_eq];exact HN.out)];rfl,HB.out⟩
theorem qr03:(prog.info? 286).map (fun i=>(i.zero,i.size))=some (some (.agg (Array.replicate 256 (.bool false))),256):=by kernel_rfl
theorem q0ec(s:ByteArray)(w:World)(hs:s.size<4000000000) :
 Calls prog 258 #[.string s,.string pm] w fun e w'=>e=.returned (.int .i64 (Lib.indexAny s.data.toList pml))/\Below w.heap.size w w':=by
 by_cases h8:s.size<=8
 ·exact qgtd s w h8
 ·exact(Any.strings_IndexAny_long qzew (zero_of_info qr03).1 (zero_of_info qr03).2 s pm w (by decide) (by omega) (by omega) (by decide) (fun j b hb=>by
   have hm:b∈pml:=List.mem_of_getElem? hb;simp[pml] at hm;rcases hm with rfl|rfl<;>decide)).mono fun e w' ⟨h1,h2⟩=>⟨h1,by rw[h2];exact((Below.refl _ _).alloc (Nat.le_refl _) _).alloc (by simp) _⟩
def wild(l:List UInt8):Bool:=decide ((43:UInt8)∈l\/(35:UInt8)∈l)
theorem qn89:∀(l:List UInt8),decide (0<=Lib.indexAny l pml)=wild l
 |[]=>rfl
 |b::l=>by
  have ih:=qn89 l;unfold wild at ih ⊢;rw[Lib.indexAny];by_cases h1:b=43
  ·subst h1;simp[pml]
  ·by_cases h2:b=35
   ·subst h2;simp[pml]
   ·have hc:pml.contains b=false:=by simp[pml,h1,h2]
    rw[hc];have hge:=Lib.indexAny_ge pml l;generalize Lib.indexAny l pml=z at ih hge;have e:decide ((43:UInt8)∈b::l\/(35:UInt8)∈b::l)=decide ((43:UInt8)∈l\/(35:UInt8)∈l):=by simp[Ne.symm h1,Ne.symm h2]
    rw[e,<-ih];simp only[Bool.false_eq_true,if_false];by_cases hz:z= -1
    ·subst hz;decide
    ·have:(z== -1)=false:=beq_eq_false_iff_ne.2 hz
     rw[this];simp only[Bool.false_eq_true,if_false];rw[decide_eq_decide];omega
theorem qfac(s:ByteArray)(w:World)(hs:s.size<4000000000) :
 Calls prog 234 #[.string s,.string pm] w fun e w'=>e=.returned (.bool (wild s.data.toList))/\Below w.heap.size w w':=by
 have c:=hid (q0ec s w hs);have hw:=hid (qn89 s.data.toList);generalize Lib.indexAny s.data.toList pml=z at *;generalize wild s.data.toList=b at *;clear hs;go_in;go_wp2_with fail;refine(c.out).mono ?_;rintro e w' ⟨rfl,hb⟩;go_wp2;go_ret;exact⟨by rw[<-hw.out];rfl,hb⟩
theorem qok8(s:ByteArray)(w:World)(hs:s.size<4000000000) :
 Calls prog 190 #[.string s] w fun e w'=>e=.returned (.bool (wild s.data.toList))/\Below w.heap.size w w':=by
 have c:=hid (qfac s w hs);generalize wild s.data.toList=b at *;clear hs;go_in;go_wp2_with fail;refine(c.out).mono ?_;rintro e w' ⟨rfl,hb⟩;go_wp2;go_ret;exact⟨rfl,hb⟩
end Go.Proofs.YtefmhbioggcfaaaGreatDoor
