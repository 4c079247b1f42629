/- The contract of subscribe.reader.filter. Condition: the bytes are no more than an int says. -/
import Derived.OwnWalk
import Derived.WalkSmall
import Derived.Deep.LoopGhost
import Derived.Lib.IndexBytes
import Derived.Test.YtbecggefmbpnoaaGreatDoorK40
import Derived.Test.YtbecggefmbpnoaaGreatDoorK09
import Derived.Test.YtbecggefmbpnoaaGreatDoorK37
set_option maxRecDepth 100000
set_option maxHeartbeats 2000000
namespace Go.Proofs.YtbecggefmbpnoaaGreatDoor
open Go.RowKit
theorem qmxu:rdT []=([],0,3):=by decide
theorem q5y0{w W:World}{B j:Nat}{u:Value}{r:Option Nat}(h:w.grownBy W r)(hB:w.heap.size≤B):w.grownBy (W.setCell ⟨B,j,none⟩ u) r:=
 ⟨h.os,h.tape,h.output,by have:=h.size;simpa [World.setCell] using this,fun k hk hne=>(heap_setCell_other W ⟨B,j,none⟩ k u (by show k≠B;omega)).trans (h.block k hk hne)⟩
section
variable{w W W':World}{cb:Nat}{s:ByteArray}{x y z:Cs}{v kind:Int}
theorem qruy(hk:kind=8∨kind=10)(hm:s.size≤9223372036854775807)(h:CsAt w cb s x) :
 Calls Tryz.prog 117 #[rdS cb v kind] w fun e w'=>e = .returned (.agg (fiC (x.filt v kind).1))∧CsAt w' cb s (x.filt v kind).2∧w.grownBy w' (some cb):=by
 have AH:=Lib.hid (fun W (h:CsAt W cb s x)=>qnsg (v:=v) (kind:=kind) hm h)
 have hle:x.ahead.length≤x.r.length:=by unfold Cs.ahead;split;exact Nat.le_refl _;exact Nat.zero_le _
 have RD:=fun W=>q2z4 (bs x.ahead) W (by rw[q5zk];have:=h.len;omega)
 rw[qkd1] at RD
 have hk2:(rdT x.ahead).2.1≤x.r.length:=Nat.le_trans (qslt x.ahead).1 hle
 have e1:x.text=((rdT x.ahead).1,if x.e=0 then⟨x.r.drop (rdT x.ahead).2.1,(rdT x.ahead).2.2⟩ else x):=by
  unfold Cs.text Cs.ahead
  by_cases he:x.e=0
  ·simp[he]
  ·simp[he,qmxu]
 unfold Cs.filt
 rw[e1]
 generalize rdT x.ahead=z at *
 obtain⟨t,k,f⟩:=z
 have PS:=fun W (h:CsAt W cb s x)=>qo6b (v:=v) (kind:=kind) k f hk2 hm h
 generalize (if x.e=0 then(⟨x.r.drop k,f⟩:Cs) else x)=y at *
 have OP:=fun W (h:CsAt W cb s y)=>qla3 (v:=v) (kind:=kind) hm h
 have R0:=Lib.hid (RoS.made (v:=v) (kind:=kind) h)
 generalize bs x.ahead=T at *
 replace RD:=Lib.hid RD
 replace PS:=Lib.hid PS
 replace OP:=Lib.hid OP
 have K0:∀y W,RoS w cb v kind s y W→W.cell? ⟨w.heap.size,0,none⟩=some (.pointer (some ⟨cb,0,none⟩)):=fun y W h=>h.cell 0
 have K1:∀y W,RoS w cb v kind s y W→W.cell? ⟨w.heap.size,1,none⟩=some (.int .i64 v):=fun y W h=>h.cell 1
 have K2:∀y W,RoS w cb v kind s y W→W.cell? ⟨w.heap.size,2,none⟩=some (.int .i64 kind):=fun y W h=>h.cell 2
 replace K0:=Lib.hid K0
 replace K1:=Lib.hid K1
 replace K2:=Lib.hid K2
 have HZ:=Lib.hid (show fiZ.size=5 from rfl)
 simp only
 unfold rdS at *
 unfold ok3 at RD
 unfold fiZ at R0
 clear h hle hk2 e1
 rcases hk with rfl | rfl
 ·rw[if_neg (by decide)]
  generalize (y.num 1).1=n at *
  generalize (y.num 1).2=u at *
  simp only
  generalize (if 63 < n∨(v=4∧3 < n) then u.fail 7 else u)=u2 at *
  go_enter Tryz.func117,Tryz.ntmps117
  go_wp2_with fail
  refine(AH.out _ R0.out.cs).mono ?_
  rintro e w2 ⟨rfl,hb⟩
  have R2:=Lib.hid (R0.out.below hb)
  clear hb R0
  go_wp2_with fail
  refine(RD.out _).mono ?_
  rintro e w3 ⟨rfl,hb⟩
  have R3:=Lib.hid (R2.out.below hb)
  have c0:=K0.out _ _ R3.out
  have c1:=K1.out _ _ R3.out
  have c2:=K2.out _ _ R3.out
  clear hb R2
  go_wp2_with fail
  refine(PS.out _ R3.out.cs).mono ?_
  rintro e w4 ⟨rfl,hc,hg⟩
  have R4:=Lib.hid (R3.out.call hc hg)
  have R5:=Lib.hid (R4.out.below ((Below.refl _ _).alloc (Nat.le_refl _) (.cells #[.string ⟨#[]⟩,.int .i64 0,.bool false,.bool false,.int .i64 0] 32)))
  have F5:=Lib.hid (heap_alloc_new w4 (.cells #[.string ⟨#[]⟩,.int .i64 0,.bool false,.bool false,.int .i64 0] 32))
  clear hc hg R3 c0 c1 c2
  have c0:=K0.out _ _ R5.out
  have c1:=K1.out _ _ R5.out
  have c2:=K2.out _ _ R5.out
  go_wp2_with fail
  refine(OP.out _ R5.out.cs).mono ?_
  rintro e w6 ⟨rfl,hc,hg⟩
  have R6:=Lib.hid (R5.out.call hc hg)
  have hNE:w4.heap.size≠cb:=by
   have h1:=R4.out.lt;have h2:=R4.out.g.size;omega
  have F6:=Lib.hid ((hg.block w4.heap.size (by simp) (fun e=>hNE (Option.some.inj e))).trans F5.out)
  have HB:=Lib.hid (show w.heap.size+1 < w4.heap.size from lt_of_block R4.out.rs)
  clear hc hg c0 c1 c2 F5 R5 R4 hNE
  generalize w4.heap.size=b at *
  have D1:=Lib.hid (qxzo (q7vq [] n))
  have D2:=Lib.hid (qx37 (q7vq [] n))
  have D3:=Lib.hid (show(fiC (q7vq [] n)).setIfInBounds 0 (.string (bs t))=fiC (q7vq t n) from rfl)
  have D4:=Lib.hid (qxzo (q7vq t n))
  have D5:=Lib.hid (qx37 (q7vq t n))
  have H5:=Lib.hid (show #[Value.string ⟨#[]⟩,.int .i64 0,.bool false,.bool false,.int .i64 0].size=5 from rfl)
  have F7:=Lib.hid (setRow_heap _ _ _ (fiC (q7vq [] n)) _ _ F6.out)
  have f7:(w6.setRow b (fiC (q7vq [] n))).frozen? ⟨b,0,none⟩=false:=frozen_of_row _ _ _ _ _ F7.out
  have k7:(w6.setRow b (fiC (q7vq [] n))).cell? ⟨b,0,none⟩=some (.string ⟨#[]⟩):=cell_of_row _ _ 0 _ _ _ F7.out
  have F8:=Lib.hid (qv6p (j:=0) (u := .string (bs t)) F7.out D3.out)
  generalize fiC (q7vq [] n)=C1 at *
  obtain⟨C2,hC2⟩:∃C,fiC (q7vq t n)=C:=⟨_,rfl⟩
  rw[hC2] at D3 D4 D5 F8
  have HC2:=Lib.hid hC2
  clear hC2
  have G8:=Lib.hid (show((w6.setRow b C1).setCell ⟨b,0,none⟩ (.string (bs t))).heap[w.heap.size+1]? = some (.cells #[.string ⟨#[]⟩,.int .i64 0,.bool false,.bool false,.int .i64 0] 32 (0,0)) from
   (heap_setCell_other _ ⟨b,0,none⟩ _ _ (by show w.heap.size+1≠b;have:=HB.out;omega)).trans ((setRow_other _ _ _ _ (by have:=HB.out;omega)).trans R6.out.rs))
  go_wp2_with (first
   | (refine wpList_store_row rfl _ _ _ rfl b C1 rfl rfl 32 _ F6.out (by rw[D1.out];exact qhg6) (by rw[H5.out,D1.out]) D2.out ?_)
   | (refine wpList_load_row rfl _ _ rfl b rfl 32 C2 (0,0) _ F8.out Tryz.underlying32 rfl (by rw[D4.out];exact qhg6) ?_)
   | (refine wpList_store_row rfl _ _ _ rfl (w.heap.size+1) C2 rfl rfl 32 _ G8.out (by rw[D4.out];exact qhg6) (by rw[H5.out,D4.out]) D5.out ?_))
  have LT:=R6.out.lt
  refine q7wi rfl rfl rfl Tryz.underlying32 rfl (by rw[D4.out];exact qhg6) (setRow_heap _ _ _ _ _ _ G8.out) ⟨by rw[HC2.out],?_,?_⟩
  ·exact R6.out.cs.of_block ((setRow_other _ _ _ _ (by omega)).trans ((heap_setCell_other _ ⟨b,0,none⟩ _ _ (by show cb≠b;have:=HB.out;omega)).trans (setRow_other _ _ _ _ (by have:=HB.out;omega))))
  ·exact qacl (q5y0 (qacl R6.out.g (by have:=HB.out;omega) _) (by have:=HB.out;omega)) (by omega) _
 ·rw[if_pos rfl]
  simp only
  clear OP
  go_enter Tryz.func117,Tryz.ntmps117
  go_wp2_with fail
  refine(AH.out _ R0.out.cs).mono ?_
  rintro e w2 ⟨rfl,hb⟩
  have R2:=Lib.hid (R0.out.below hb)
  clear hb R0
  go_wp2_with fail
  refine(RD.out _).mono ?_
  rintro e w3 ⟨rfl,hb⟩
  have R3:=Lib.hid (R2.out.below hb)
  have c0:=K0.out _ _ R3.out
  have c1:=K1.out _ _ R3.out
  have c2:=K2.out _ _ R3.out
  clear hb R2
  go_wp2_with fail
  refine(PS.out _ R3.out.cs).mono ?_
  rintro e w4 ⟨rfl,hc,hg⟩
  have R4:=Lib.hid (R3.out.call hc hg)
  have R5:=Lib.hid (R4.out.below ((Below.refl _ _).alloc (Nat.le_refl _) (.cells #[.string ⟨#[]⟩,.int .i64 0,.bool false,.bool false,.int .i64 0] 32)))
  have F6:=Lib.hid (heap_alloc_new w4 (.cells #[.string ⟨#[]⟩,.int .i64 0,.bool false,.bool false,.int .i64 0] 32))
  clear hc hg R3 c0 c1 c2
  have c2:=K2.out _ _ R5.out
  have H5:=Lib.hid (show #[Value.string ⟨#[]⟩,.int .i64 0,.bool false,.bool false,.int .i64 0].size=5 from rfl)
  have D4:=Lib.hid (show #[Value.string (bs t),.int .i64 0,.bool false,.bool false,.int .i64 0].size=5 from rfl)
  have D5:=Lib.hid (show #[Value.string (bs t),.int .i64 0,.bool false,.bool false,.int .i64 0].all (·.oneCell')=true from by simp[Value.oneCell'])
  have R8:=Lib.hid (R4.out.below ((Below.refl _ _).alloc (Nat.le_refl _) (.cells #[.string (bs t),.int .i64 0,.bool false,.bool false,.int .i64 0] 32)))
  have G8:=Lib.hid R8.out.rs
  have HC2:=Lib.hid (show fiC ⟨t,0,false,false,0⟩=#[Value.string (bs t),.int .i64 0,.bool false,.bool false,.int .i64 0] from rfl)
  clear R4 R5
  go_wp2_with (first
   | (refine wpList_load_row rfl _ _ rfl w4.heap.size rfl 32 #[.string (bs t),.int .i64 0,.bool false,.bool false,.int .i64 0] (0,0) _ (heap_alloc_new w4 _) Tryz.underlying32 rfl (by rw[D4.out];exact qhg6) ?_)
   | (refine wpList_store_row rfl _ _ _ rfl (w.heap.size+1) #[.string (bs t),.int .i64 0,.bool false,.bool false,.int .i64 0] rfl rfl 32 _ G8.out (by rw[D4.out];exact qhg6) (by rw[D4.out];exact H5.out) D5.out ?_))
  have LT:=R8.out.lt
  refine q7wi rfl rfl rfl Tryz.underlying32 rfl (by rw[D4.out];exact qhg6) (setRow_heap _ _ _ _ _ _ G8.out) ⟨by rw[HC2.out],?_,?_⟩
  ·exact R8.out.cs.of_block (setRow_other _ _ _ _ (by omega))
  ·exact qacl R8.out.g (by omega) _
end
structure LsS(w:World)(cb:Nat)(v kind:Int)(s:ByteArray)(t:TypeId)(k n:Nat)(xs:List Value)(val:Value)(y:Cs)(W:World):Prop where
 lt:cb < w.heap.size
 g:w.grownBy W (some cb)
 bx:W.heap[w.heap.size]? = some (.cells #[.pointer (some ⟨cb,0,none⟩),.int .i64 v,.int .i64 kind] 73 (0,0))
 cs:CsAt W cb s y
 own:W.ownsRow (w.heap.size+1) t k val n xs
section
variable{w W W':World}{cb:Nat}{s:ByteArray}{x y z:Cs}{v kind:Int}{t:TypeId}{k n:Nat}{xs:List Value}{val:Value}
theorem LsS.made(h:CsAt w cb s x):LsS w cb v kind s t k 0 [] (.slice none 0 0) x (w.alloc (.cells #[.pointer (some ⟨cb,0,none⟩),.int .i64 v,.int .i64 kind] 73)):=
 ⟨h.lt,World.grownBy_alloc _ _ _,qq7p _ _ _ _,h.alloc _,World.ownsRow_nil _ _ _ _⟩
theorem LsS.call(h:LsS w cb v kind s t k n xs val y W)(hc:CsAt W' cb s z)(hg:W.grownBy W' (some cb)):LsS w cb v kind s t k n xs val z W':=
 ⟨h.lt,qo6d h.g hg,(hg.block _ (lt_of_block h.bx) (fun e=>by have:=Option.some.inj e;have:=h.lt;omega)).trans h.bx,hc,h.own.kept hg (.inr fun e=>by have:=(h.own.lt _ e).1;have:=h.lt;omega)⟩
theorem LsS.draws(h:LsS w cb v kind s t k n xs val y W)(j:Nat):LsS w cb v kind s t k n xs val y (W.drewN j):=
 h.call (h.cs.draws j) (q9cp (qnpu (Below.refl _ _) j) _)
theorem LsS.cell(h:LsS w cb v kind s t k n xs val y W)(j:Nat):W.cell? ⟨w.heap.size,j,none⟩=(#[Value.pointer (some ⟨cb,0,none⟩),.int .i64 v,.int .i64 kind]:Array Value)[j]? := cell_of_row _ _ j _ _ _ h.bx
theorem LsS.more(h:LsS w cb v kind s t k n xs val y W)(o:Obj){m:Nat}{ys:List Value}{val':Value}(hown:W'.ownsRow (w.heap.size+1) t k val' m ys)(hg:(W.alloc o).grownBy W' val.ownBlock):LsS w cb v kind s t k m ys val' y W':=by
 have hb:∀j,val.ownBlock=some j→w.heap.size+1≤j:=fun j e=>(h.own.lt j e).1
 have lb:=lt_of_block h.bx
 refine⟨h.lt,⟨hg.os.trans h.g.os,hg.tape.trans h.g.tape,hg.output.trans h.g.output,?_,fun j hj hne=>?_⟩,?_,?_,hown⟩
 ·have h1:=hg.size;have h2:=h.g.size;simp at h1;omega
 ·rw[hg.block j (by have:=h.g.size;simp;omega) (fun e=>by have:=hb j e.symm;omega),heap_alloc_old _ _ (by have:=h.g.size;omega)]
  exact h.g.block j hj hne
 ·rw[hg.block _ (by simp;omega) (fun e=>by have:=hb _ e.symm;omega),heap_alloc_old _ _ lb]
  exact h.bx
 ·refine h.cs.of_block ?_
  have:=h.lt
  rw[hg.block cb (by simp;omega) (fun e=>by have:=hb _ e.symm;omega),heap_alloc_old _ _ (by omega)]
end
def qfy2(y:Cs):Nat:=if y.e≠0 then 0 else y.r.length+1
section
variable{w W W':World}{cb:Nat}{s:ByteArray}{x y z:Cs}{v kind:Int}
theorem qrro(hk:kind=8∨kind=10)(hm:s.size≤9223372036854775807)(hN:(Cs.filtsW v kind x).1.length≤70000)(h:CsAt w cb s x) :
 Calls Tryz.prog 81 #[rdS cb v kind] w fun e w'=>(∃A c,e = .returned (.slice A (if (Cs.filtsW v kind x).2.e=0 then(Cs.filtsW v kind x).1 else []).length c)∧CL w' A (fcs (if (Cs.filtsW v kind x).2.e=0 then(Cs.filtsW v kind x).1 else []))∧∀g i,A=some ⟨g,i,none⟩→w.heap.size < g)∧CsAt w' cb s (Cs.filtsW v kind x).2∧w.grownBy w' (some cb):=by
 obtain⟨i0,hi,hz0,hz1,hz2⟩:=info_parts q4j3
 have S0:=Lib.hid (LsS.made (v:=v) (kind:=kind) (t:=32) (k:=5) h)
 have FI:=Lib.hid (fun y W (h:CsAt W cb s y)=>qruy (v:=v) hk hm h)
 have ER:=Lib.hid (fun y W (h:CsAt W cb s y)=>q3gp h)
 have LF:=Lib.hid (fun y W (h:CsAt W cb s y)=>qjtm hm h)
 have HK:=Lib.hid hk
 obtain⟨⟨L,Y⟩,hLY⟩:∃z,Cs.filtsW v kind x=z:=⟨_,rfl⟩
 rw[hLY] at hN ⊢
 simp only at hN ⊢
 have HN:=Lib.hid hN
 have HLY:=Lib.hid hLY
 have K0:∀n xs val y W,LsS w cb v kind s 32 5 n xs val y W→W.cell? ⟨w.heap.size,0,none⟩=some (.pointer (some ⟨cb,0,none⟩)):=fun n xs val y W h=>h.cell 0
 have K1:∀n xs val y W,LsS w cb v kind s 32 5 n xs val y W→W.cell? ⟨w.heap.size,1,none⟩=some (.int .i64 v):=fun n xs val y W h=>h.cell 1
 have K2:∀n xs val y W,LsS w cb v kind s 32 5 n xs val y W→W.cell? ⟨w.heap.size,2,none⟩=some (.int .i64 kind):=fun n xs val y W h=>h.cell 2
 replace K0:=Lib.hid K0
 replace K1:=Lib.hid K1
 replace K2:=Lib.hid K2
 unfold rdS at *
 clear h hk hN hLY
 go_enter Tryz.func81,Tryz.ntmps81
 go_wp2_with fail
 go_step3
 go_wp2_with fail
 go_step3
 go_wp2_with fail
 go_loopg [3] (qfy2 x) (fun gk s3 wx=>∃(l:List Fi) (y:Cs),gk=qfy2 y∧l++(Cs.filtsW v kind y).1=L∧(Cs.filtsW v kind y).2=Y∧LsS w cb v kind s 32 5 l.length (fcs l) s3 y wx)
 case atStart=>exact⟨[],x,rfl,by rw[HLY.out];rfl,by rw[HLY.out],S0.out⟩
 case round=>
  obtain⟨l,y,rfl,hL,hY,hS⟩:=hrel
  have SK:=Lib.hid hS
  have c0:=K0.out _ _ _ _ _ hS
  by_cases he:y.e=0
  ·have ERy:=fun W (h:CsAt W cb s y)=>ER.out y W h
   rw[he] at ERy
   replace ERy:=Lib.hid ERy
   have LFy:=fun W (h:CsAt W cb s y)=>LF.out y W h
   by_cases hr:y.r=[]
   ·rw[qztl (.inr hr)] at hL hY
    have hL:l=L:=by simpa using hL
    have hY:y=Y:=hY
    subst hL hY
    rw[hr] at LFy
    replace LFy:=Lib.hid LFy
    have HE:=Lib.hid he
    clear hS hr he
    go_wp2_with fail
    refine(ERy.out _ SK.out.cs).mono ?_
    rintro e W2 ⟨rfl,rfl⟩
    go_wp2_with fail
    refine(LFy.out _ SK.out.cs).mono ?_
    rintro e W3 ⟨rfl,j,rfl⟩
    have S3:=Lib.hid (SK.out.draws j)
    go_wp2_with fail
    rw[Exit.noGoto_ret]
    go_ret
    obtain⟨A,c,hv,_,hC,hA⟩:=CL.owned S3.out.own S3.out.own.1
    exact⟨⟨A,c,by rw[if_pos HE.out];exact congrArg Ending.returned hv,by rw[if_pos HE.out];exact hC,fun g i e=>hA g i e⟩,S3.out.cs,S3.out.g⟩
   ·rw[qwla HK.out he hr] at hL hY
    have q1:(((y.r.length:Nat):Int)==0)=false:=by
     have:=List.length_pos_iff.2 hr
     simp;omega
    have FIy:=FI.out y
    have hM:qfy2 (y.filt v kind).2 < qfy2 y:=by
     have e0:qfy2 y=y.r.length+1:=by unfold qfy2;rw[if_neg (by simpa using he)]
     rw[e0]
     unfold qfy2
     by_cases hz:(y.filt v kind).2.e=0
     ·rw[if_neg (by simpa using hz)]
      have:=qvwn HK.out hz
      omega
     ·rw[if_pos hz];omega
    obtain⟨⟨f,y2⟩,hf⟩:∃z,y.filt v kind=z:=⟨_,rfl⟩
    rw[hf] at hL hY FIy hM
    simp only at hL hY FIy hM
    have hL2:(l++[f])++(Cs.filtsW v kind y2).1=L:=by rw[←hL];simp
    have hlen:l.length+1≤70000:=by
     have h1:=HN.out
     rw[←hL2] at h1
     simp only[List.length_append,List.length_cons,List.length_nil] at h1
     omega
    have HLL:=Lib.hid (And.intro hL2 (And.intro hY (And.intro hM hlen)))
    have hfc:fcs l++[.string (bs f.topic),.int .i64 f.qos,.bool f.noLocal,.bool f.asPub,.int .i64 f.handling]=fcs (l++[f]):=by
     unfold fcs;rw[List.flatMap_append];rfl
    have HFC:=Lib.hid hfc
    unfold fiC at FIy
    generalize y.r.length=n at *
    replace FIy:=Lib.hid FIy
    replace LFy:=Lib.hid LFy
    generalize bs f.topic=x0 at *
    generalize f.qos=x1 at *
    generalize f.noLocal=x2 at *
    generalize f.asPub=x3 at *
    generalize f.handling=x4 at *
    clear hS hr he hL hY hf hM hL2 hlen hfc
    go_wp2_with fail
    refine(ERy.out _ SK.out.cs).mono ?_
    rintro e W2 ⟨rfl,rfl⟩
    go_wp2_with fail
    refine(LFy.out _ SK.out.cs).mono ?_
    rintro e W3 ⟨rfl,j,rfl⟩
    have S3:=Lib.hid (SK.out.draws j)
    generalize wr.drewN j=W3 at *
    have c1:=K1.out _ _ _ _ _ S3.out
    have c2:=K2.out _ _ _ _ _ S3.out
    clear c0
    have c0:=K0.out _ _ _ _ _ S3.out
    go_wp2_with fail
    refine(FIy.out _ S3.out.cs).mono ?_
    rintro e W4 ⟨rfl,hc,hg⟩
    have S4:=Lib.hid (S3.out.call hc hg)
    have hown:=S4.out.own
    clear hc hg c0 c1 c2
    go_wp2_with (at_builtin;refine wpList_append_own _ rfl _ _ 27 rfl (w.heap.size+1) 32 i0 (.agg #[.string .empty,.int .i64 0,.bool false,.bool false,.int .i64 0]) 5 40 Tryz.underlying27 hi hz0 hz1 hz2 rfl (by decide) _ _ _ rfl (hown.alloc _) ⟨W4.heap.size,0,none⟩ 1 1 [.string x0,.int .i64 x1,.bool x2,.bool x3,.int .i64 x4] rfl rfl ?c1 ?c2 ?c3 ?c4 ?c5 ?_)
    case c1=>intro j u hj;match j,hj with
     | 0,hj=>simp at hj;subst hj;exact World.cell?_alloc_at _ _ _ _ rfl
     | 1,hj=>simp at hj;subst hj;exact World.cell?_alloc_at _ _ _ _ rfl
     | 2,hj=>simp at hj;subst hj;exact World.cell?_alloc_at _ _ _ _ rfl
     | 3,hj=>simp at hj;subst hj;exact World.cell?_alloc_at _ _ _ _ rfl
     | 4,hj=>simp at hj;subst hj;exact World.cell?_alloc_at _ _ _ _ rfl
    case c2=>intro u hu;simp at hu;rcases hu with rfl | rfl | rfl | rfl | rfl<;>rfl
    case c3=>have:=HLL.out.2.2.2;unfold maxLen;omega
    case c4=>have:=HLL.out.2.2.2;omega
    case c5=>have:=lt_of_block S4.out.bx;simp only[World.size_alloc];omega
    intro v' w9 hown' hgrow _
    rw[HFC.out] at hown'
    have S9:=Lib.hid (S4.out.more _ hown' hgrow)
    clear hown' hgrow hown
    go_wp2_with fail
    go_roundg (qfy2 y2)
    case measure=>exact HLL.out.2.2.1
    case rel=>exact⟨l++[f],y2,rfl,HLL.out.1,HLL.out.2.1,by rw[List.length_append];exact S9.out⟩
  ·rw[qztl (.inl he)] at hL hY
   have hY:y=Y:=hY
   subst hY
   have ERy:=Lib.hid (fun W (h:CsAt W cb s y)=>ER.out y W h)
   have g1:((y.e:Int)==0)=false:=by simp;omega
   have g2:((y.e:Int) != 0)=true:=by simp;omega
   have HE:=Lib.hid he
   clear hS he
   go_wp2_with fail
   refine(ERy.out _ SK.out.cs).mono ?_
   rintro e W2 ⟨rfl,rfl⟩
   go_wp2_with fail
   rw[Exit.noGoto_ret]
   go_ret
   exact⟨⟨none,0,by rw[if_neg HE.out];rfl,by rw[if_neg HE.out];exact fun h=>absurd rfl h,fun g i e=>by cases e⟩,SK.out.cs,SK.out.g⟩
end
theorem q5h3:(Tryz.prog.info? 3).map (fun i=>(i.zero,i.size,i.bytes))=some (some (.int .i64 0),1,8):=by kernel_rfl
def q4rq(l:List UInt8):List Int:=l.map fun b=>((b.toNat:Nat):Int)
theorem q9a3(x:Cs):x.codes=(q4rq (x.take x.r.length).1,(x.take x.r.length).2):=by
 unfold Cs.codes Cs.take q4rq
 by_cases he:x.e=0
 ·simp[he]
 ·simp[he]
theorem q5if(x:Cs)(n:Nat):(x.take n).1.length≤n:=by
 unfold Cs.take
 split
 ·exact Nat.zero_le _
 ·split
  ·exact Nat.zero_le _
  ·simp;omega
section
variable{w W W':World}{cb:Nat}{s:ByteArray}{x y z:Cs}{v kind:Int}
theorem qi6w(hm:s.size≤9223372036854775807)(hN:x.codes.1.length≤70000)(h:CsAt w cb s x) :
 Calls Tryz.prog 82 #[rdS cb v kind] w fun e w'=>(∃A c,e = .returned (.slice A x.codes.1.length c)∧CL w' A (ics x.codes.1)∧∀g i,A=some ⟨g,i,none⟩→w.heap.size < g)∧CsAt w' cb s x.codes.2∧w.grownBy w' (some cb):=by
 obtain⟨i0,hi,hz0,hz1,hz2⟩:=info_parts q5h3
 have S0:=Lib.hid (LsS.made (v:=v) (kind:=kind) (t:=3) (k:=1) h)
 have LF:=fun W (h:CsAt W cb s x)=>qjtm hm h
 have TK:=fun W (h:CsAt W cb s x)=>qgtr x.r.length hm h
 rw[q9a3] at hN ⊢
 obtain⟨⟨T,Y⟩,hT⟩:∃z,x.take x.r.length=z:=⟨_,rfl⟩
 rw[hT] at TK hN ⊢
 simp only at TK hN ⊢
 generalize x.r.length=n at *
 have hTs:(bs T).size=T.length:=q5zk T
 have hTl:T.length≤70000:=by simpa [q4rq] using hN
 have hTk:∀(k:Nat) (hk:k < (bs T).size),T[k]? = some (bs T)[k]:=fun k hk=>by
  rw[List.getElem?_eq_getElem (show k < T.length by omega)]
  rfl
 replace LF:=Lib.hid LF
 replace TK:=Lib.hid TK
 have K0:∀n xs val y W,LsS w cb v kind s 3 1 n xs val y W→W.cell? ⟨w.heap.size,0,none⟩=some (.pointer (some ⟨cb,0,none⟩)):=fun n xs val y W h=>h.cell 0
 have HT:=Lib.hid (And.intro hTs (And.intro hTl hTk))
 unfold rdS at *
 clear h hT hN
 have q0:((bs T).size:Int)≤70000:=by omega
 clear hTs hTl hTk
 generalize bs T=t at *
 go_enter Tryz.func82,Tryz.ntmps82
 go_upto_region 2 with fail
 refine qf2v (S:=fun k W=>LsS w cb v kind s 3 1 0 [] (.slice none 0 0) (if k=2 then Y else x) W) (n:=(n:Nat)) (t:=t) (S0.out.draws 1) (fun k W h=>K0 _ _ _ _ _ h)
  (fun W h=>(LF.out W h.cs).mono fun e W' ⟨he,j,hj⟩=>⟨he,hj▸h.draws j⟩)
  (fun W h=>(TK.out W h.cs).mono fun e W' ⟨he,hc,hg⟩=>⟨he,h.call hc hg⟩) ?_
 intro W hS
 have S1:=Lib.hid (show LsS w cb v kind s 3 1 0 [] (.slice none 0 0) Y W from hS)
 clear hS
 go_wp2_with fail
 go_loopg [14,3] t.size (fun gk s14 s3 wx=>∃k:Nat,k≤t.size∧gk=t.size - k∧s14 = .int .i64 (k:Int)∧LsS w cb v kind s 3 1 k (ics (q4rq (T.take k))) s3 Y wx)
 case atStart=>exact⟨0,Nat.zero_le _,rfl,rfl,S1.out⟩
 case round=>
  obtain⟨k,hk,rfl,rfl,hS⟩:=hrel
  have SK:=Lib.hid hS
  by_cases hlt:k < t.size
  ·have hget:=HT.out.2.2 k hlt
   obtain⟨r,hr⟩:∃r,t[k].toNat=r:=⟨_,rfl⟩
   have hlist:ics (q4rq (T.take k))++[.int .i64 (r:Int)]=ics (q4rq (T.take (k+1))):=by
    obtain⟨hk1,hx⟩:=List.getElem?_eq_some_iff.1 hget
    rw[List.take_succ_eq_append_getElem hk1,hx,←hr]
    unfold ics q4rq;simp
   have HLI:=Lib.hid hlist
   have L:=Lib.hid hlt
   have g1:(k:Int) < (t.size:Int):=by omega
   have hne:¬t=ByteArray.empty:=by intro e;rw[e] at hlt;exact absurd hlt (by simp)
   have hown:=hS.own
   have hr8:(r:Int) < 256:=by have:=t[k].toNat_lt;omega
   clear hget hlist hS
   go_wp2_with (at_builtin;refine wpList_append_own _ rfl _ _ 26 rfl (w.heap.size+1) 3 i0 (.int .i64 0) 1 8 Tryz.underlying26 hi hz0 hz1 hz2 rfl (by decide) _ _ _ rfl (hown.alloc _) ⟨wr.heap.size,0,none⟩ 1 1 [.int .i64 (r:Int)] rfl rfl ?c1 ?c2 ?c3 ?c4 ?c5 ?_)
   case c1=>intro j u hj;cases j<;>simp at hj;subst hj;exact World.cell?_alloc_at _ _ _ _ rfl
   case c2=>intro u hu;simp at hu;subst hu;rfl
   case c3=>have:=HT.out.1;have:=HT.out.2.1;have:=L.out;unfold maxLen;omega
   case c4=>have:=HT.out.1;have:=HT.out.2.1;have:=L.out;omega
   case c5=>have:=lt_of_block SK.out.bx;simp only[World.size_alloc];omega
   intro v' w9 hown' hgrow _
   rw[HLI.out] at hown'
   have S9:=Lib.hid (SK.out.more _ hown' hgrow)
   clear hown' hgrow hown
   go_wp2_with fail
   go_roundg (t.size - (k+1))
   case measure=>have:=L.out;omega
   case rel=>exact⟨k+1,L.out,rfl,by go_num,S9.out⟩
  ·obtain rfl:k=t.size:=by omega
   rw[List.take_of_length_le (by rw[HT.out.1];exact Nat.le_refl _)] at hS
   have HS:=Lib.hid hS
   clear hS hlt hk
   go_wp2_with fail
   go_ret
   obtain⟨A,c,hv,_,hC,hA⟩:=CL.owned HS.out.own HS.out.own.1
   refine⟨⟨A,c,?_,hC,fun g i e=>hA g i e⟩,HS.out.cs,HS.out.g⟩
   have hl:(q4rq T).length=t.size:=by rw[HT.out.1];simp[q4rq]
   rw[hl]
   exact congrArg Ending.returned hv
end
end Go.Proofs.YtbecggefmbpnoaaGreatDoor
