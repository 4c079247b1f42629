/- The contract of limits.sorted: the numbers in order, in new memory. Condition: at most 100,000 numbers. -/
import Derived.Deep.DeepCutAuto
import Derived.Test.YtefmhbioggcfaaaGreatDoorK51
import Derived.Test.YtefmhbioggcfaaaGreatDoorK20
set_option maxRecDepth 100000
set_option maxHeartbeats 2000000
namespace Go.Proofs.YtefmhbioggcfaaaGreatDoor
open Lib(hid)
open Proofs.Tryz
open Go.RowKit
def qbjl(w:World)(n:Nat)(zs:List Int)(e:Ending)(W:World):Prop:=
 ∃g c,e=.returned (.slice (some ⟨g,0,none⟩) n c)/\IR W (some ⟨g,0,none⟩) (qs51 zs)/\Below w.heap.size w W
theorem qaqr:(prog.info? 3).map (fun i=>(i.zero,i.size,i.bytes))=some (some (.int .i64 0),1,8):=by kernel_rfl
theorem qoqx{α:Type} [Inhabited α] (enc:α->Value)(w:World)(g o:Nat)(d:Array α){k:Nat}(hk:k≠g):(Go.Sort.putRow enc w g o d).heap[k]?=w.heap[k]? := by unfold Go.Sort.putRow Go.Sort.mapBlock;rw[Array.getElem?_modify,if_neg (fun e=>hk e.symm)]
theorem qabw{W:World}{g j:Nat}{cur:Array Value}{t:TypeId}(h:W.heap[g]?=some (.cells cur t (0,0))):W.cell? ⟨g,j,none⟩=cur[j]? := by unfold World.cell?;simp[h]
theorem qxix{W:World}{g j:Nat}{cur:Array Value}{t:TypeId}(h:W.heap[g]?=some (.cells cur t (0,0))):W.frozen? ⟨g,j,none⟩=false:=by unfold World.frozen?;simp[h]
theorem qql1{w W:World}{g n:Nat}{xs:List Value}(h:W.ownsRow w.heap.size 3 1 (.slice (some ⟨g,0,none⟩) n n) n xs):g<W.heap.size/\w.heap.size<=g/\∀j,j<n->(W.cell? ⟨g,0+j,none⟩).isSome=true/\W.frozen? ⟨g,0+j,none⟩=false:=by
 rcases h.2 with ⟨h0,_⟩|⟨g',cap,cur,e,h2,h3,_,_,h6,_⟩
 ·cases h0
 ·cases e;refine⟨(Array.getElem?_eq_some_iff.1 h3).1,h2,fun j hj=>⟨?_,qxix h3⟩⟩;rw[qabw h3,Nat.zero_add,Array.getElem?_eq_getElem (by omega)]
  rfl
theorem q8xt{W:World}{A:Option Addr}{c d g:Nat}(hi:(prog.info? 3).map (fun x=>x.size)=some 1) :
 (Builtin.copy_ #[35,35] 3 #[.slice (some ⟨g,0,none⟩) 0 d,.slice A 0 c]).run prog W=.ok (goInt 0) W:=by
 cases A with
 |none=>rfl
 |some a=>exact run_copy_cells (P:=prog) W 35 35 3 3 g 0 0 d a 0 c [] underlying35 hi rfl (fun j v hv=>by cases hv) (fun j hj=>absurd hj (Nat.not_lt_zero _)) (fun j hj=>absurd hj (Nat.not_lt_zero _)) (fun v hv=>by cases hv)
theorem q17a{W:World}{A:Option Addr}{c d n g:Nat}{zs:List Int}(hA:IR W A zs)(hn:zs.length=n)(hm:∀j,j<n->(W.cell? ⟨g,0+j,none⟩).isSome=true/\W.frozen? ⟨g,0+j,none⟩=false) :
 (Builtin.copy_ #[35,35] 3 #[.slice (some ⟨g,0,none⟩) n d,.slice A n c]).run prog W=.ok (goInt n) (W.setCells g 0 (zcs zs))/\Go.Sort.Holds (Value.int .i64) (W.setCells g 0 (zcs zs)) g 0 zs.toArray:=by
 subst hn;obtain⟨i0,hi,hz0,hz1,hz2⟩:=info_parts qaqr;have H:Go.Sort.Holds (Value.int .i64) (W.setCells g 0 (zcs zs)) g 0 zs.toArray:=fun j hj=>by rw[List.size_toArray] at hj;refine⟨?_,(World.frozen?_setCells ..).trans (hm j hj).2⟩;rw[World.cell?_setCells_in g (zcs zs) 0 W (fun k hk=>(hm k (by rwa [qi69] at hk)).1) j (by rw[qi69];exact hj)];simp[zcs,hj]
 cases hz:zs with
 |nil=>subst hz;exact⟨q8xt (by rw[hi,Option.map_some,hz1]),H⟩
 |cons z r=>
  rw[<-hz];obtain⟨a,rfl,hg,hc⟩:=hA (by rw[hz];exact Nat.succ_pos _);refine⟨?_,H⟩;have h:=run_copy_cells (P:=prog) W 35 35 3 3 g 0 zs.length d a zs.length c (zcs zs) underlying35 (by rw[hi,Option.map_some,hz1]) (by rw[qi69];exact(Nat.min_self _).symm) (fun j v hv=>by
   have hj:j<zs.length:=by
    have:=(List.getElem?_eq_some_iff.1 hv).1
    rwa [qi69] at this
   rw[hc j hj,<-hv,qazj5 hj]) (fun j hj=>(hm j (by rwa [qi69] at hj)).1) (fun j hj=>(hm j (by rwa [qi69] at hj)).2) (qbzn zs)
  rw[qi69] at h;exact h
theorem qv4c(b:Nat):∀(vs:List Value) (o:Nat) (W:World),(W.setCells b o vs).heap.size=W.heap.size
 |[],_,_=>rfl
 |v::vs,o,W=>by rw[World.setCells,qv4c b vs];simp[World.setCell]
theorem qbjl.put{w W W':World}{g:Nat}{zs:List Int}(hb:Below w.heap.size w W)(hw:w.heap.size<=g)(hg:g<W.heap.size)(hH:Go.Sort.Holds (Value.int .i64) W g 0 zs.toArray)
 (h:∃m os,W'=Go.Sort.grow (Go.Sort.putRow (Value.int .i64) (Go.Sort.ahead W m) g 0 (zs.mergeSort fun x y=>decide (x<=y)).toArray) os) :
 IR W' (some ⟨g,0,none⟩) (qs51 zs)/\Below w.heap.size w W':=by
 obtain⟨m,os,rfl⟩:=h;have hL:(qs51 zs).toArray.size=zs.toArray.size:=by rw[List.size_toArray,List.size_toArray,ql8m]
 refine⟨fun _=>⟨_,rfl,?_,fun i hi=>?_⟩,⟨hb.os,hb.tape,hb.output,?_,fun k hk=>?_⟩⟩
 ·show g<(_++os).size;rw[Array.size_append,Go.Sort.size_putRow];exact Nat.lt_of_lt_of_le hg (Nat.le_add_right _ _)
 ·rw[Addr.add_lit];have h1:=Go.Sort.cell?_putRow (Value.int .i64) (Go.Sort.ahead W m) g 0 zs.toArray (qs51 zs).toArray hH hL i (by rw[List.size_toArray];exact hi);have e:(qs51 zs).toArray[i]! = (qs51 zs).getD i 0:=by simp[List.getD,hi]
  rw[e] at h1;refine(World.cell?_of_block (a:=⟨g,0+i,none⟩) ?_).trans h1;exact Array.getElem?_append_left (by rw[Go.Sort.size_putRow];exact hg)
 ·show _<=(_++os).size;rw[Array.size_append,Go.Sort.size_putRow];exact Nat.le_trans hb.size (Nat.le_add_right _ _)
 ·refine(Array.getElem?_append_left (by rw[Go.Sort.size_putRow];exact Nat.lt_of_lt_of_le hk hb.size)).trans ?_;rw[qoqx _ _ _ _ _ (by omega)];exact hb.block k hk
theorem qbc4(A:Option Addr)(n c:Nat)(zs:List Int)(w:World)(hA:IR w A zs)(hn:zs.length=n)(hl:n<=100000) :
 Calls prog 21 #[.slice A n c] w (qbjl w n zs):=by
 obtain⟨i0,hi,hz0,hz1,hz2⟩:=info_parts qaqr;have HA:=hid hA;have HN:=hid hn;have HL:=hid hl;have HB:=hid (show i0.bytes*n<=281474976710656 by rw[hz2];omega);clear hA hl hn;go_in;go_wp2_with (refine wpList_make_full w rfl _ _ 35 rfl w.heap.size 3 i0 (.int .i64 0) 1 underlying35 hi hz0 hz1 .i64 .i64 (n:Int) (n:Int) n rfl rfl rfl rfl HB.out (by have:=HL.out;simp only[maxLen];omega) (Nat.le_refl _) ?_;intro w1 hown hgrow);obtain⟨hg,hw,hm⟩:=qql1 hown;have LB:=hid (show Below w.heap.size w w1 from(Below.refl _ _).grown hgrow (Nat.le_refl _) (fun j hj=>by cases hj));obtain⟨hrun,hH⟩:=q17a (c:=c) (d:=n) (HA.out.kept LB.out) HN.out hm;have LB2:=hid (qkgb hw (zcs zs) 0 w1 LB.out);have hg2:w.heap.size<(w1.setCells w.heap.size 0 (zcs zs)).heap.size:=by rw[qv4c];exact hg
 obtain⟨W2,hW2⟩:∃W2,w1.setCells w.heap.size 0 (zcs zs)=W2:=⟨_,rfl⟩
 rw[hW2] at hrun hH hg2 LB2;have FIN:=fun W' h=>qbjl.put (W':=W') LB2.out hw hg2 hH h;have SRT:Calls prog 30 _ _ _:=Any.slices_Sort_int q8g8 w.heap.size 0 n zs W2 hH hg2 (by rw[HN.out];have:=HL.out;omega);rw[HN.out] at SRT;have SRT:=hid SRT;have FIN:=hid FIN;clear hown hgrow hm hH hg hg2 LB2 hW2;rw[hrun];clear hrun;go_wp2_with fail;refine SRT.out.mono ?_;rintro e W3 ⟨rfl,h3⟩;have F:=hid (FIN.out W3 h3);go_wp2;go_ret;exact⟨_,_,rfl,F.out.1,F.out.2⟩
theorem qv7l(s:ByteArray):s.data.toList.length=s.size:=by rw[Array.length_toList];rfl
theorem q6ko(s:ByteArray)(i j:Nat):s.extract i j=bs ((s.data.toList.drop i).take (j-i)):=by apply ByteArray.ext;simp only[bs,ByteArray.data_extract];apply Array.toList_inj.1;rw[Array.toList_extract,List.extract_eq_take_drop]
theorem q5bh(s:ByteArray)(A:Option Addr)(n c:Nat)(zs:List Int)(w:World)(hA:IR w A zs)(hn:zs.length=n)(hl:n<=1000)(hs:s.size<=1000000000) :
 Calls prog 11 #[.string s,.slice A n c] w (qix8 w (qhkp s.data.toList zs)):=by
 have HL:=hid (And.intro hl (And.intro hn hs));have SRT:=fun W=>qbc4 A n c zs W;obtain⟨R,hR⟩:∃R,qhkp s.data.toList zs=R:=⟨_,rfl⟩
 rw[hR];have HR:=hid hR;have SRT0:=hid (SRT w hA hn (by omega));clear hA hn hl hs SRT hR
 go_in
 go_wp2_with fail;refine SRT0.out.mono ?_;rintro e1 w1 ⟨g,c1,rfl,hI,hB⟩;have HI:=hid (hI);have T0:=hid (show ChS w1 [] (.slice none 0 0) w1 from⟨Below.refl _ _,World.ownsRow_nil _ _ _ _⟩);have HB:=hid hB;clear SRT0 hI hB;go_wp2_with fail
 go_loopg [5,6,12] n (fun gk s5 s6 s12 wr=>∃(k:Nat) (x:Value),gk=n-k/\x=s5/\s6=.int .i64 ((qj5n 0 (fitL s.size ((qs51 zs).take k)):Nat):Int)/\s12=.int .i64 (k:Int)/\k<=n/\ChS w1 (q9lk s.data.toList 0 (fitL s.size ((qs51 zs).take k))) x wr)
 case atStart=>exact⟨0,_,rfl,rfl,rfl,rfl,Nat.zero_le _,T0.out⟩
 case round=>
  obtain⟨k,u,rfl,rfl,rfl,rfl,hk,hS⟩:=hrel;clear T0;by_cases hlt:k<n
  ·have hI:=HI.out.kept hS.low;obtain⟨a,ha,hgs,hc⟩:=hI (by rw[ql8m,HL.out.2.1];omega);cases ha;have hck:=hc k (by rw[ql8m,HL.out.2.1];exact hlt);rw[Addr.add_lit,Nat.zero_add] at hck;have hkl:k<(qs51 zs).length:=by rw[ql8m,HL.out.2.1];exact hlt
   obtain⟨z,hz⟩:∃z,(qs51 zs).getD k 0=z:=⟨_,rfl⟩
   rw[hz] at hck;have g1:(k:Int)<(n:Int):=by omega
   have hk1000:(k:Int)<=1000:=by have:=HL.out.1;omega
   clear hI;by_cases hok:okL s.size z=true
   ·have hok2:0<=z/\z<=(s.size:Int):=by simpa [okL] using hok
    have hstep:=qpl1 (n:=s.size) hkl (by rw[hz];exact hok);have hbef:=qvm5 (n:=s.size) (q63u zs) hkl (by rw[hz];exact hok);rw[hz] at hstep hbef;obtain⟨x,rfl⟩:∃x:Nat,z=(x:Int):=⟨z.toNat,by omega⟩
    rw[Int.toNat_natCast] at hstep hbef;have hx0:(0:Int)<=(x:Int):=hok2.1;have hxs:(x:Int)<=(s.size:Int):=hok2.2;have hgl:(q9lk s.data.toList 0 (fitL s.size ((qs51 zs).take k))).length<=2000:=by
     rw[qtb5];refine Nat.le_trans (q7dk _ _) (Nat.le_trans (List.length_take_le _ _) ?_)
     have:=HL.out.1
     omega
    obtain⟨f,hf⟩:∃f,qj5n 0 (fitL s.size ((qs51 zs).take k))=f:=⟨_,rfl⟩
    have hheads:=qple s.data.toList x (fitL s.size ((qs51 zs).take k)) 0;have hlast:=qisl x (fitL s.size ((qs51 zs).take k)) 0;rw[hf] at hbef hheads ⊢;rw[<-hstep] at hheads hlast;obtain⟨x',W',hrun,SN⟩:=hS.app ((s.data.toList.drop f).take (x-f)) hgl 0;rw[<-hheads] at SN;rw[<-q6ko] at hrun;have hfx:(f:Int)<=(x:Int):=by omega
    have hf0:(0:Int)<=(f:Int):=by omega
    have HS:=hid (And.intro hlast (And.intro SN hlt));clear hstep hS hlt hok hc hkl hz hgs hk hok2 hbef hf hheads hlast SN hgl;have hrun:(Builtin.append_ #[40,40] 40 #[u,.slice (some ⟨wr.heap.size,0,none⟩) 1 1]).run prog (wr.alloc (.cells #[.string (s.extract f x)] 9))=.ok x' W':=hrun;go_wp2_with (at_builtin;refine qrfq rfl _ _ _ _ rfl rfl rfl hrun ?_)
    all_goals
     clear hrun
     go_roundg (n-(k+1))
     case measure=>have:=HS.out.2.2;omega
     case rel=>exact⟨k+1,_,rfl,rfl,by rw[HS.out.1],by go_num,HS.out.2.2,HS.out.2.1⟩
   ·rw[Bool.not_eq_true] at hok;have hstep:=qrq7 (n:=s.size) hkl (by rw[hz];exact hok);have hbad:z<0\/(0<=z/\(s.size:Int)<z):=by simp only[okL,Bool.and_eq_false_iff,decide_eq_false_iff_not] at hok;omega
    have HS:=hid (And.intro hstep (And.intro hS hlt));clear hstep hS hlt hok hc hkl hz hgs hk;rcases hbad with hz0|⟨hz0,hz1⟩
    all_goals
     go_wp2_with fail
     go_roundg (n-(k+1))
     case measure=>have:=HS.out.2.2;omega
     case rel=>exact⟨k+1,_,rfl,rfl,by rw[HS.out.1],by go_num,HS.out.2.2,by rw[HS.out.1];exact HS.out.2.1⟩
  ·obtain rfl:k=n:=by omega
   have hall:(qs51 zs).take k=qs51 zs:=List.take_of_length_le (by rw[ql8m,HL.out.2.1];exact Nat.le_refl _);rw[hall] at hS ⊢;have hgl:(q9lk s.data.toList 0 (fitL s.size (qs51 zs))).length<=2000:=by
    rw[qtb5];refine Nat.le_trans (q7dk _ _) ?_;rw[ql8m,HL.out.2.1]
    have:=HL.out.1
    omega
   have hfs:=q6f0 (n:=s.size) (l:=qs51 zs);have hp:=qzto s.data.toList (fitL s.size (qs51 zs)) 0;obtain⟨f,hf⟩:∃f,qj5n 0 (fitL s.size (qs51 zs))=f:=⟨_,rfl⟩
   rw[hf] at hp hfs ⊢;have hR:q9lk s.data.toList 0 (fitL s.size (qs51 zs))++[s.data.toList.drop f]=R:=by rw[<-hp,<-HR.out];unfold qhkp;rw[qv7l,qk11]
   obtain⟨x',W',hrun,SN⟩:=hS.app (s.data.toList.drop f) hgl 0;rw[hR] at SN;have e:bs (s.data.toList.drop f)=s.extract f s.size:=by rw[q6ko,List.take_of_length_le (by rw[List.length_drop,qv7l];exact Nat.le_refl _)]
   rw[e] at hrun;have hrun:(Builtin.append_ #[40,40] 40 #[u,.slice (some ⟨wr.heap.size,0,none⟩) 1 1]).run prog (wr.alloc (.cells #[.string (s.extract f s.size)] 9))=.ok x' W':=hrun;have FIN:=hid (SN.ret.since HB.out);obtain⟨A',c',hx',-,-⟩:=id FIN.out;have HX:=hid hx';have hfs1:(f:Int)<=(s.size:Int):=by omega
   clear hall hS hgl hf hp hR SN e hx' hk hlt;go_wp2_with (at_builtin;refine qrfq rfl _ _ _ _ rfl rfl rfl hrun ?_);go_ret;exact FIN.out
theorem q31j:qhkp ([97,98,99]:List UInt8) [2,0]=[[],[97,98],[99]]:=by decide
theorem qf34(w:World):Calls prog 5 #[] w fun e W=>e=.returned (.bool true)/\Below w.heap.size w W:=by
 have B0:=hid (show Below w.heap.size w (w.alloc (.cells (zcs [2,0]).toArray 3)) from(Below.refl _ _).alloc (Nat.le_refl _) _);have ch:=q5bh (bs [97,98,99]) (some ⟨w.heap.size,0,none⟩) 2 2 [2,0] _ (IR.alloc (W:=w) [2,0] 3) rfl (by decide) (by decide);rw[show qhkp (bs [97,98,99]).data.toList [2,0]=[[],[97,98],[99]] from q31j] at ch;have CH:=hid ch;have SM:=hid (fun A B c d W h1 h2=>qtpi6 A B c d [[],[97,98],[99]] W h1 h2 (by decide));clear ch
 go_in
 go_wp2_with fail;refine CH.out.mono ?_;rintro e1 w1 ⟨A,c,rfl,hR,hB,-⟩;have HR:=hid (hR.kept ((Below.refl _ _).alloc (Nat.le_refl _) (.cells (strs [[],[97,98],[99]]).toArray 9)));have S2:=hid (SR.alloc (W:=w1) (ls:=[[],[97,98],[99]]) 9);have hb1:=B0.out.trans (hB.mono B0.out.size);have B1:=hid (hb1.alloc hb1.size (.cells (strs [[],[97,98],[99]]).toArray 9));have SM1:=SM.out A _ c 3 _ HR.out S2.out;clear hR hB CH B0 hb1;go_wp2_with fail;refine SM1.mono ?_;rintro e2 w2 ⟨rfl,hb⟩;have B2:=hid (B1.out.trans (hb.mono B1.out.size));clear SM1 hb;go_wp2;go_ret;exact⟨rfl,B2.out⟩
end Go.Proofs.YtefmhbioggcfaaaGreatDoor
