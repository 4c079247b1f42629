/- The contract of ack.readTail. Condition: the bytes are no more than an int says. -/
import Derived.Deep.DeepCutAuto
import Derived.Test.YthhdhagenmcbeaaGreatK40
import Derived.Test.YthhdhagenmcbeaaGreatK12
import Derived.Test.YthhdhagenmcbeaaGreatK44
import Derived.Test.YthhdhagenmcbeaaGreatK43
set_option maxRecDepth 100000
set_option maxHeartbeats 4000000
namespace Go.Proofs.YthhdhagenmcbeaaGreat
open Go.RowKit
section
variable{w W W':World}{cb:Nat}{s:ByteArray}{y:Cs}{B i:Nat}{kind:Int}
theorem qg0m(x:Cs):(x.num 1).1 < 65536:=by
 unfold Cs.num
 have:=qn9h (x.take 1).1
 have hl:(x.take 1).1.length≤1:=by
  unfold Cs.take
  split
  ·simp
  ·split
   ·simp
   ·simp;omega
 have:256^(x.take 1).1.length≤256^1:=Nat.pow_le_pow_right (by decide) hl
 omega
theorem qafx(hk0:-9223372036854775808≤kind)(hk1:kind≤9223372036854775807)(hm:s.size≤140737488351232)(h:CsS w cb s B y (pkB kind i 0 []) adZ W) :
 Calls Tryz.prog 51 #[.pointer (some ⟨cb,0,none⟩),.pointer (some ⟨B,0,none⟩)] W fun e W'=>e = .returned (.int .i64 ((qolc kind y).1.2.2:Nat))∧∃a',CsS w cb s B (qolc kind y).2 (pkB kind i (qolc kind y).1.1 (qolc kind y).1.2.1) a' W':=by
 have hm9:s.size≤9223372036854775807:=by omega
 have LF:=fun(z:Cs) W (h:CsAt W cb s z)=>qjtm hm9 h
 have H:=Lib.hid h
 have L1:=LF y W h.cs
 unfold qolc
 by_cases hr:y.r=[]
 ·rw[if_pos hr]
  rw[hr] at L1
  replace L1:=Lib.hid L1
  clear LF h hr hm hm9
  go_enter Tryz.func51,Tryz.ntmps51
  go_wp2_with fail
  refine(L1.out).mono ?_
  rintro e w2 ⟨rfl,n,rfl⟩
  have H2:=Lib.hid (H.out.draws n)
  go_wp2_with fail
  go_ret
  exact⟨rfl,adZ,H2.out⟩
 ·rw[if_neg hr]
  have q1:(((y.r.length:Nat):Int)==0)=false:=by
   have:=List.length_pos_iff.2 hr
   simp;omega
  generalize y.r.length=n1 at *
  have NM:=fun W (h:CsAt W cb s y)=>q8yf 1 (by decide) hm9 h
  have hz:=qg0m y
  obtain⟨z,hzz⟩:∃z,y.num 1=z:=⟨_,rfl⟩
  rw[hzz] at NM hz ⊢
  obtain⟨z1,z2⟩:=z
  simp only at NM hz ⊢
  have hz0:(z1:Int) < 65536:=by omega
  have L2:=fun W (h:CsAt W cb s z2)=>LF z2 W h
  replace NM:=Lib.hid NM
  replace L1:=Lib.hid L1
  by_cases hr2:z2.r=[]
  ·rw[if_pos hr2]
   rw[hr2] at L2
   replace L2:=Lib.hid L2
   clear LF h hr hm hm9 hr2 hzz hz
   go_enter Tryz.func51,Tryz.ntmps51
   go_wp2_with fail
   refine(L1.out).mono ?_
   rintro e w2 ⟨rfl,n,rfl⟩
   have H2:=Lib.hid (H.out.draws n)
   clear L1
   go_wp2_with fail
   refine(NM.out _ H2.out.cs).mono ?_
   rintro e w3 ⟨rfl,hc,hg⟩
   have H3:=Lib.hid (H2.out.call hc hg)
   have n21:w3.cell? ⟨B,21,none⟩=some (.int .i64 0):=H3.out.cell 21
   have f21:=H3.out.fr 21
   have H4:=Lib.hid (H3.out.set 21 (.int .i64 (z1:Int)) (P':=pkB kind i z1 []) (a':=adZ) rfl H3.out.ps H3.out.pc H3.out.pf)
   clear hc hg H2
   go_wp2_with fail
   refine(L2.out _ H4.out.cs).mono ?_
   rintro e w4 ⟨rfl,n,rfl⟩
   have H5:=Lib.hid (H4.out.draws n)
   clear H4 H3 n21 f21
   go_wp2_with fail
   go_ret
   exact⟨rfl,adZ,H5.out⟩
  ·rw[if_neg hr2]
   have q2:(((z2.r.length:Nat):Int)==0)=false:=by
    have:=List.length_pos_iff.2 hr2
    simp;omega
   generalize z2.r.length=n2 at *
   obtain⟨L,k,F,hq⟩:∃L k F,qflw kind z2.r=(L,k,F):=⟨_,_,_,rfl⟩
   have RD:=fun W (h:CsAt W cb s z2)=>q188 kind (bs z2.r) L k F hk0 hk1 (by rw[q5zk];have:=h.len;omega) hq W
   rw[hq]
   have RS:=fun W (h:CsAt W cb s z2)=>qzrp hm9 h
   have TK:=fun W (h:CsAt W cb s z2)=>qgtr k hm9 h
   have FL:=fun(x:Cs) W (h:CsAt W cb s x)=>qazj F h
   simp only
   generalize bs z2.r=T at *
   obtain⟨y3,hy3⟩:∃y3,z2.take k=y3:=⟨_,rfl⟩
   rw[hy3] at TK ⊢
   replace RD:=Lib.hid RD
   replace RS:=Lib.hid RS
   replace TK:=Lib.hid TK
   replace FL:=Lib.hid FL
   replace L2:=Lib.hid L2
   clear LF h hr hm hm9 hr2 hzz hz hy3 hq
   go_enter Tryz.func51,Tryz.ntmps51
   go_wp2_with fail
   refine(L1.out).mono ?_
   rintro e w2 ⟨rfl,n,rfl⟩
   have H2:=Lib.hid (H.out.draws n)
   clear L1
   go_wp2_with fail
   refine(NM.out _ H2.out.cs).mono ?_
   rintro e w3 ⟨rfl,hc,hg⟩
   have H3:=Lib.hid (H2.out.call hc hg)
   have n21:w3.cell? ⟨B,21,none⟩=some (.int .i64 0):=H3.out.cell 21
   have f21:=H3.out.fr 21
   have H4:=Lib.hid (H3.out.set 21 (.int .i64 (z1:Int)) (P':=pkB kind i z1 []) (a':=adZ) rfl H3.out.ps H3.out.pc H3.out.pf)
   clear hc hg H2
   go_wp2_with fail
   refine(L2.out _ H4.out.cs).mono ?_
   rintro e w4 ⟨rfl,n,rfl⟩
   have H5:=Lib.hid (H4.out.draws n)
   clear H4 H3 n21 f21
   go_upto_region 6 with fail
   refine qv1p (S:=fun x V=>CsS w cb s B z2 (pkB kind i z1 []) adZ V∧∀A c,x=some (A,c)→PL V A L∧L.length≤c∧∀g i,A=some ⟨g,i,none⟩→B < g) (n:=L.length) (k:=(k:Int)) (f:=(F:Int)) (t:=T) ⟨H5.out.draws 1,fun A c e=>by cases e⟩ (fun x V hS=>hS.1.cell 0)
    (fun x V hS=>(RS.out V hS.1.cs).mono fun e W' ⟨he,n,hn⟩=>⟨he,hn▸hS.1.draws n,fun A c e=>by
     obtain⟨p1,p2,p3⟩:=hS.2 A c e
     exact⟨hn▸p1.below (qnpu (Below.refl _ _) n),p2,p3⟩⟩)
    (fun x V hS=>(RD.out V hS.1.cs).mono fun e W' ⟨hb,A,c,he,hc,hP,_,_,hA⟩=>⟨A,c,he,hS.1.below hb,fun A' c' e=>by
     cases e
     exact⟨hP,hc,fun g i e=>Nat.lt_of_lt_of_le (lt_of_block hS.1.pk) (hA g i e)⟩⟩) ?_
   intro x V hx hS
   obtain⟨⟨A,c⟩,rfl⟩:=Option.isSome_iff_exists.1 hx
   obtain⟨p1,p2,p3⟩:=hS.2 A c rfl
   have H6:=Lib.hid hS.1
   have P6:=Lib.hid p1
   have Q6:=Lib.hid (And.intro p2 p3)
   have CB:=Lib.hid H6.out.ne
   have BB:=Lib.hid (show cb < B by have:=H6.out.lt;have:=H6.out.hB;omega)
   clear hx hS p1 p2 p3 H5
   go_wp2_with fail
   refine(TK.out _ H6.out.cs).mono ?_
   rintro e w7 ⟨rfl,hc,hg⟩
   have H7:=Lib.hid (H6.out.call hc hg)
   have P7:=Lib.hid (P6.out.grown hg (fun g i e=>by have:=Q6.out.2 g i e;have:=BB.out;omega))
   clear hc hg
   go_wp2_with fail
   refine(FL.out _ _ H7.out.cs).mono ?_
   rintro e w8 ⟨rfl,hc,hg⟩
   have H8:=Lib.hid (H7.out.call hc hg)
   have P8:=Lib.hid (P7.out.grown hg (fun g i e=>by have:=Q6.out.2 g i e;have:=BB.out;omega))
   have n24:w8.cell? ⟨B,24,none⟩=some (.slice none 0 0):=H8.out.cell 24
   have f24:=H8.out.fr 24
   have H9:=Lib.hid (H8.out.set 24 (.slice A L.length c) (P':=pkB kind i z1 L) (a':={adZ with ps:=A,pc:=c}) rfl P8.out Q6.out.1 Q6.out.2)
   clear hc hg
   go_wp2_with fail
   go_ret
   exact⟨rfl,_,H9.out⟩
end
end Go.Proofs.YthhdhagenmcbeaaGreat
