/- The contract of connect.reader's connect. Condition: the bytes are no more than an int says. -/
import Derived.Deep.DeepCutAuto
import Derived.Test.YtaahhbjnflimnaaGreatK47
import Derived.Test.YtaahhbjnflimnaaGreatK08
import Derived.Test.YtaahhbjnflimnaaGreatK45
import Derived.Test.YtaahhbjnflimnaaGreatK06
import Derived.Test.YtaahhbjnflimnaaGreatK10
import Derived.Test.YtaahhbjnflimnaaGreatK42
import Derived.Test.YtaahhbjnflimnaaGreatK18
import Derived.Test.YtaahhbjnflimnaaGreatK27
import Derived.Test.YtaahhbjnflimnaaGreatK14
import Derived.Test.YtaahhbjnflimnaaGreatK33
import Derived.Test.YtaahhbjnflimnaaGreatK28
set_option maxRecDepth 100000
set_option maxHeartbeats 4000000
namespace Go.Proofs.YtaahhbjnflimnaaGreat
open Go.RowKit
section
variable{w W W':World}{cb:Nat}{s:ByteArray}{x:Cs}{v:Int}
theorem qu7y(x:Cs):(if ((bs (x.take 6).1).toList==[0,4,77,81,84,84]) then(x.take 6).2 else(x.take 6).2.fail 5)=x.name:=by
 rw[qz9v,q0c6]
 unfold Cs.name
 have e6:enc2 q1f4=[0,4,77,81,84,84]:=by decide
 rw[e6]
 simp only[beq_eq_false_iff_ne]
theorem q11j(x:Cs)(v:Int):(if (((x.num 1).1:Nat):Int)==v then(x.num 1).2 else(x.num 1).2.fail 5)=x.vers v:=by
 rw[qz9v]
 unfold Cs.vers
 simp only[beq_eq_false_iff_ne]
theorem q822(hm:s.size≤9223372036854775807)(h:CsAt w cb s x) :
 Calls Tryz.prog 115 #[rdrV cb v] w (q563 w cb s (qnld v x).2 (qnld v x).1):=by
 have S0:=Lib.hid (RkS.made (v:=v) h)
 obtain⟨z,hz5⟩:∃z,(x.name.vers v).flags v=z:=⟨_,rfl⟩
 have hf:z.1 < 256:=by rw[←hz5];exact qunn _
 obtain⟨f,x5⟩:=z
 obtain⟨z,hz6⟩:∃z,x5.num 2=z:=⟨_,rfl⟩
 have hk:z.1 < 65536:=by rw[←hz6];exact q0ph _ 2 (by decide)
 obtain⟨k,x6⟩:=z
 obtain⟨z,hz7⟩:∃z,x6.props v 1=z:=⟨_,rfl⟩
 obtain⟨L,x7⟩:=z
 obtain⟨z,hz8⟩:∃z,x7.text=z:=⟨_,rfl⟩
 obtain⟨ct,x8⟩:=z
 obtain⟨z,hz9⟩:∃z,x8.optP (f / 4%2==1) v 16=z:=⟨_,rfl⟩
 obtain⟨Lw,x9⟩:=z
 obtain⟨z,hz10⟩:∃z,x9.optT (f / 4%2==1)=z:=⟨_,rfl⟩
 obtain⟨wt,x10⟩:=z
 obtain⟨z,hz11⟩:∃z,x10.optB (f / 4%2==1)=z:=⟨_,rfl⟩
 obtain⟨wd,x11⟩:=z
 obtain⟨z,hz12⟩:∃z,x11.optT (f / 128%2==1)=z:=⟨_,rfl⟩
 obtain⟨us,x12⟩:=z
 obtain⟨z,hz13⟩:∃z,x12.optB (f / 64%2==1)=z:=⟨_,rfl⟩
 obtain⟨pa,x13⟩:=z
 rw[qy6q v x hz5 hz6 hz7 hz8 hz9 hz10 hz11 hz12 hz13]
 have TK:=fun W (h:CsAt W cb s x)=>qgtr 6 hm h
 have R1:=fun W (h:CsAt W cb s (x.take 6).2)=>qr75 (v:=v) ((bs (x.take 6).1).toList==[0,4,77,81,84,84]) 5 h
 rw[qu7y] at R1
 obtain⟨b1,hb1⟩:∃b,((bs (x.take 6).1).toList==[0,4,77,81,84,84])=b:=⟨_,rfl⟩
 rw[hb1] at R1
 generalize x.name=x2 at *
 generalize x.take 6=t6 at *
 obtain⟨T,x1⟩:=t6
 have OC:=fun W (h:CsAt W cb s x2)=>qevs (v:=v) hm h
 have R2:=fun W (h:CsAt W cb s (x2.num 1).2)=>qr75 (v:=v) ((((x2.num 1).1:Nat):Int)==v) 5 h
 rw[q11j] at R2
 obtain⟨b2,hb2⟩:∃b,((((x2.num 1).1:Nat):Int)==v)=b:=⟨_,rfl⟩
 rw[hb2] at R2
 generalize x2.vers v=x4 at *
 generalize x2.num 1=n1 at *
 obtain⟨nv,x3⟩:=n1
 have FL:=fun W (h:CsAt W cb s x4)=>qb3g (v:=v) hm h
 have NM:=fun W (h:CsAt W cb s x5)=>q8yf 2 (by decide) hm h
 have PR:=fun W (h:CsAt W cb s x6)=>q5sz (v:=v) 1 (by decide) (by decide) hm h
 have TX:=fun W (h:CsAt W cb s x7)=>qt5a (v:=v) hm h
 rw[hz5] at FL
 rw[hz6] at NM
 rw[hz7] at PR
 rw[hz8] at TX
 have WP:=fun W (h:CsAt W cb s x8)=>q5sz (v:=v) 16 (by decide) (by decide) hm h
 have WT:=fun W (h:CsAt W cb s x9)=>qt5a (v:=v) hm h
 have WD:=fun W (h:CsAt W cb s x10)=>q932 (v:=v) hm h
 have UT:=fun W (h:CsAt W cb s x11)=>qt5a (v:=v) hm h
 have PD:=fun W (h:CsAt W cb s x12)=>q932 (v:=v) hm h
 unfold q8ku at FL
 simp only at hf hk ⊢ FL NM PR TX
 generalize (f / 2%2==1)=cl at *
 generalize (f / 128%2==1)=hu at *
 generalize (f / 64%2==1)=ha at *
 generalize (f / 4%2==1)=hw at *
 generalize (f / 32%2==1)=re at *
 generalize ((f / 8%4:Nat):Int)=q at *
 have hk0:(0:Int)≤k:=by omega
 have hk1:(k:Int) < 65536:=by omega
 obtain⟨D,hD⟩:∃D,pkC (qvmk cl hu ha hw re q) adZ=D:=⟨_,rfl⟩
 have hD1:=qwmp (qvmk cl hu ha hw re q) adZ
 have hD2:=qmz0 (qvmk cl hu ha hw re q) adZ
 rw[hD] at hD1 hD2 FL
 have HD:=Lib.hid hD
 have HD1:=Lib.hid hD1
 have HD2:=Lib.hid hD2
 have HZ:=Lib.hid qbwp
 have hzv:=qrai
 have hne:¬pkZ=#[]:=by intro h;have:=qbwp;rw[h] at this;cases this
 have TK:=Lib.hid TK
 have R1:=Lib.hid R1
 have OC:=Lib.hid OC
 have R2:=Lib.hid R2
 have FL:=Lib.hid FL
 have NM:=Lib.hid NM
 have PR:=Lib.hid PR
 have TX:=Lib.hid TX
 have WP:=Lib.hid WP
 have WT:=Lib.hid WT
 have WD:=Lib.hid WD
 have UT:=Lib.hid UT
 have PD:=Lib.hid PD
 have Z9:=Lib.hid hz9
 have Z10:=Lib.hid hz10
 have Z11:=Lib.hid hz11
 have Z12:=Lib.hid hz12
 have Z13:=Lib.hid hz13
 have B1:=Lib.hid hb1
 have B2:=Lib.hid hb2
 unfold rdrV at *
 clear hf hk h hD hD1 hD2 hz5 hz6 hz7 hz8 hz9 hz10 hz11 hz12 hz13 hb1 hb2
 go_enter Tryz.func115,Tryz.ntmps115
 go_upto_region 1 with fail
 refine qjsk (S:=fun u W=>match u with
  | (false,false)=>RkS w cb s v x W
  | (true,false)=>RkS w cb s v x1 W
  | (true,true)=>RkS w cb s v x2 W
  | (false,true)=>False) (B:=w.heap.size) (t:=bs T) (b:=b1) S0.out.drew (fun u W h=>by obtain⟨u1,u2⟩:=u;cases u1<;>cases u2<;>first | exact h.c0 | exact h.elim) (fun u W h=>by obtain⟨u1,u2⟩:=u;cases u1<;>cases u2<;>first | exact h.c1 | exact h.elim) B1.out
  (fun u W h hu=>by
   obtain⟨u1,u2⟩:=u
   cases hu
   cases u2
   ·exact(TK.out W h.cs).mono fun e w' ⟨he,hc,hg⟩=>⟨he,h.call hc hg⟩
   ·exact h.elim)
  (fun u W h hu1 hu2=>by
   obtain⟨u1,u2⟩:=u
   cases hu1
   cases hu2
   exact(R1.out W h.cs).mono fun e w' ⟨he,hc,hg⟩=>⟨he,h.call hc hg⟩) ?_
 intro W1 hS
 have S1:=Lib.hid (show RkS w cb s v x2 W1 from hS)
 clear hS
 go_upto_region 2 with fail
 refine q2os (S:=fun u W=>match u with
  | (false,false)=>RkS w cb s v x2 W
  | (true,false)=>RkS w cb s v x3 W
  | (true,true)=>RkS w cb s v x4 W
  | (false,true)=>False) (B:=w.heap.size) (n:=(nv:Int)) (b:=b2) S1.out.drew (fun u W h=>by obtain⟨u1,u2⟩:=u;cases u1<;>cases u2<;>first | exact h.c0 | exact h.elim) (fun u W h=>by obtain⟨u1,u2⟩:=u;cases u1<;>cases u2<;>first | exact h.c1 | exact h.elim) B2.out
  (fun u W h hu=>by
   obtain⟨u1,u2⟩:=u
   cases hu
   cases u2
   ·exact(OC.out W h.cs).mono fun e w' ⟨he,hc,hg⟩=>⟨he,h.call hc hg⟩
   ·exact h.elim)
  (fun u W h hu1 hu2=>by
   obtain⟨u1,u2⟩:=u
   cases hu1
   cases hu2
   exact(R2.out W h.cs).mono fun e w' ⟨he,hc,hg⟩=>⟨he,h.call hc hg⟩) ?_
 intro W2 hS
 have S2:=Lib.hid (show RkS w cb s v x4 W2 from hS)
 clear hS
 have c0:=S2.out.c0
 have c1:=S2.out.c1
 go_wp2_with fail
 refine(FL.out _ S2.out.cs).mono ?_
 rintro e W3 ⟨rfl,hc,hg⟩
 have S3:=Lib.hid (S2.out.call hc hg)
 clear hc hg c0 c1
 have SP:=Lib.hid (ReS.laid S3.out HD.out rfl rfl)
 have c0:=SP.out.rk.c0
 have c1:=SP.out.rk.c1
 go_wp2_with (first
  | (refine wpList_store_row rfl _ _ _ rfl W3.heap.size D rfl rfl 28 _ (heap_alloc_new W3 _) (by rw[HD1.out];exact q5nr) (by rw[HZ.out,HD1.out]) HD2.out ?_))
 refine(NM.out _ SP.out.rk.cs).mono ?_
 rintro e W4 ⟨rfl,hc,hg⟩
 have S4:=Lib.hid (SP.out.call hc hg)
 clear hc hg c0 c1
 generalize W3.heap.size=B at *
 have S5:=Lib.hid (S4.out.put 8 (.int .i64 (k:Int)) (P':={(qvmk cl hu ha hw re q) with keep:=(k:Int)}) rfl rfl rfl)
 have n8:W4.cell? ⟨B,8,none⟩=some (.int .i64 0):=S4.out.cell 8
 have f8:=S4.out.fr 8
 have c0:=S5.out.rk.c0
 have c1:=S5.out.rk.c1
 go_wp2_with fail
 clear n8 f8
 refine(PR.out _ S5.out.rk.cs).mono ?_
 rintro e W6 ⟨⟨A,cc,rfl,hl,hP,hA⟩,ok,h1000,hc,hg⟩
 have hBW:=lt_of_block S5.out.pk
 have S6:=Lib.hid (S5.out.call hc hg)
 have S7:=Lib.hid (S6.out.putPs hP hl (fun g i e=>Nat.lt_trans hBW (hA g i e)))
 clear hc hg c0 c1 hP hl hA hBW ok h1000
 have n24:W6.cell? ⟨B,24,none⟩=some (.slice none 0 0):=S6.out.cell 24
 have f24:=S6.out.fr 24
 have c0:=S7.out.rk.c0
 have c1:=S7.out.rk.c1
 go_wp2_with fail
 clear n24 f24
 refine(TX.out _ S7.out.rk.cs).mono ?_
 rintro e W8 ⟨rfl,hc,hg⟩
 have S8:=Lib.hid (show ReS w cb s v B x8 {(qvmk cl hu ha hw re q) with keep:=(k:Int),props:=L} {adZ with ps:=A,pc:=cc} W8 from S7.out.call hc hg)
 clear hc hg c0 c1
 have S9:=Lib.hid (S8.out.put 9 (.string (bs ct)) (P':={(qvmk cl hu ha hw re q) with keep:=(k:Int),props:=L,client:=ct}) rfl rfl rfl)
 have n9:W8.cell? ⟨B,9,none⟩=some (.string ⟨#[]⟩):=S8.out.cell 9
 have f9:=S8.out.fr 9
 have k14:(W8.setCell ⟨B,9,none⟩ (.string (bs ct))).cell? ⟨B,14,none⟩=some (.bool hw):=S9.out.cell 14
 go_upto_if 31 with fail
 clear n9 f9
 generalize W8.setCell ⟨B,9,none⟩ (.string (bs ct))=W9 at *
 go_cut [] (fun wx=>∃a2,ReS w cb s v B x11 {(qvmk cl hu ha hw re q) with keep:=(k:Int),props:=L,client:=ct,wProps:=Lw,wTopic:=wt,wPayload:=wd} a2 wx)
 case first=>
  cases hw with
  | false=>
   have z9:x8.optP false v 16=(Lw,x9):=Z9.out
   have z10:x9.optT false=(wt,x10):=Z10.out
   have z11:x10.optB false=(wd,x11):=Z11.out
   obtain⟨rfl,rfl⟩:=Prod.mk.inj z9
   obtain⟨rfl,rfl⟩:=Prod.mk.inj z10
   obtain⟨rfl,rfl⟩:=Prod.mk.inj z11
   have SF:=Lib.hid S9.out
   go_wp2_with fail
   go_meet
   exact⟨{adZ with ps:=A,pc:=cc},SF.out⟩
  | true=>
   have WPx:=fun W h=>WP.out W h
   have WTx:=fun W h=>WT.out W h
   have WDx:=fun W h=>WD.out W h
   rw[show x8.props v 16=(Lw,x9) from Z9.out] at WPx
   rw[show x9.text=(wt,x10) from Z10.out] at WTx
   rw[show x10.bin=(wd,x11) from Z11.out] at WDx
   have WPx:=Lib.hid WPx
   have WTx:=Lib.hid WTx
   have WDx:=Lib.hid WDx
   have c0:=S9.out.rk.c0
   have c1:=S9.out.rk.c1
   go_wp2_with fail
   refine(WPx.out _ S9.out.rk.cs).mono ?_
   rintro e W10 ⟨⟨A2,cc2,rfl,hl,hP,hA⟩,ok,h1000,hc,hg⟩
   have hBW:=lt_of_block S9.out.pk
   have S10:=Lib.hid (S9.out.call hc hg)
   have S11:=Lib.hid (S10.out.putWs hP hl (fun g i e=>Nat.lt_trans hBW (hA g i e)))
   clear hc hg c0 c1 hP hl hA hBW ok h1000 k14
   have n19:W10.cell? ⟨B,19,none⟩=some (.slice none 0 0):=S10.out.cell 19
   have f19:=S10.out.fr 19
   have c0:=S11.out.rk.c0
   have c1:=S11.out.rk.c1
   go_wp2_with fail
   clear n19 f19
   refine(WTx.out _ S11.out.rk.cs).mono ?_
   rintro e W12 ⟨rfl,hc,hg⟩
   have S12:=Lib.hid (show ReS w cb s v B x10 {(qvmk cl hu ha true re q) with keep:=(k:Int),props:=L,client:=ct,wProps:=Lw} {adZ with ps:=A,pc:=cc,w:=A2,wc:=cc2} W12 from S11.out.call hc hg)
   clear hc hg c0 c1
   have S13:=Lib.hid (S12.out.put 15 (.string (bs wt)) (P':={(qvmk cl hu ha true re q) with keep:=(k:Int),props:=L,client:=ct,wProps:=Lw,wTopic:=wt}) rfl rfl rfl)
   have n15:W12.cell? ⟨B,15,none⟩=some (.string ⟨#[]⟩):=S12.out.cell 15
   have f15:=S12.out.fr 15
   have c0:=S13.out.rk.c0
   have c1:=S13.out.rk.c1
   go_wp2_with fail
   clear n15 f15
   refine(WDx.out _ S13.out.rk.cs).mono ?_
   rintro e W14 ⟨rfl,hc,hg⟩
   have S14:=Lib.hid (S13.out.call hc hg)
   clear hc hg c0 c1
   have S15:=Lib.hid (S14.out.put 16 (.string (bs wd)) (P':={(qvmk cl hu ha true re q) with keep:=(k:Int),props:=L,client:=ct,wProps:=Lw,wTopic:=wt,wPayload:=wd}) rfl rfl rfl)
   have n16:W14.cell? ⟨B,16,none⟩=some (.string ⟨#[]⟩):=S14.out.cell 16
   have f16:=S14.out.fr 16
   go_wp2_with fail
   go_meet
   exact⟨{adZ with ps:=A,pc:=cc,w:=A2,wc:=cc2},S15.out⟩
 case rest=>
  obtain⟨a2,hS⟩:=hcut
  have S16:=Lib.hid hS
  clear hS k14
  have k10:wc.cell? ⟨B,10,none⟩=some (.bool hu):=S16.out.cell 10
  go_upto_if 45 with fail
  go_cut [] (fun wx=>ReS w cb s v B x12 {(qvmk cl hu ha hw re q) with keep:=(k:Int),props:=L,client:=ct,wProps:=Lw,wTopic:=wt,wPayload:=wd,user:=us} a2 wx)
  case first=>
   cases hu with
   | false=>
    have z12:x11.optT false=(us,x12):=Z12.out
    obtain⟨rfl,rfl⟩:=Prod.mk.inj z12
    have SF:=Lib.hid S16.out
    go_wp2_with fail
    go_meet
    exact SF.out
   | true=>
    have UTx:=fun W h=>UT.out W h
    rw[show x11.text=(us,x12) from Z12.out] at UTx
    have UTx:=Lib.hid UTx
    have c0:=S16.out.rk.c0
    have c1:=S16.out.rk.c1
    go_wp2_with fail
    refine(UTx.out _ S16.out.rk.cs).mono ?_
    rintro e W12 ⟨rfl,hc,hg⟩
    have S17:=Lib.hid (S16.out.call hc hg)
    clear hc hg c0 c1 k10
    have S18:=Lib.hid (S17.out.put 11 (.string (bs us)) (P':={(qvmk cl true ha hw re q) with keep:=(k:Int),props:=L,client:=ct,wProps:=Lw,wTopic:=wt,wPayload:=wd,user:=us}) rfl rfl rfl)
    have n11:W12.cell? ⟨B,11,none⟩=some (.string ⟨#[]⟩):=S17.out.cell 11
    have f11:=S17.out.fr 11
    go_wp2_with fail
    go_meet
    exact S18.out
  case rest=>
   clear k10 S16
   have S16:=Lib.hid hcut
   clear hcut
   have k12:wc.cell? ⟨B,12,none⟩=some (.bool ha):=S16.out.cell 12
   go_upto_if 50 with fail
   go_cut [] (fun wx=>ReS w cb s v B x13 {(qvmk cl hu ha hw re q) with keep:=(k:Int),props:=L,client:=ct,wProps:=Lw,wTopic:=wt,wPayload:=wd,user:=us,pass:=pa} a2 wx)
   case first=>
    cases ha with
    | false=>
     have z13:x12.optB false=(pa,x13):=Z13.out
     obtain⟨rfl,rfl⟩:=Prod.mk.inj z13
     have SF:=Lib.hid S16.out
     go_wp2_with fail
     go_meet
     exact SF.out
    | true=>
     have PDx:=fun W h=>PD.out W h
     rw[show x12.bin=(pa,x13) from Z13.out] at PDx
     have PDx:=Lib.hid PDx
     have c0:=S16.out.rk.c0
     have c1:=S16.out.rk.c1
     go_wp2_with fail
     refine(PDx.out _ S16.out.rk.cs).mono ?_
     rintro e W12 ⟨rfl,hc,hg⟩
     have S17:=Lib.hid (S16.out.call hc hg)
     clear hc hg c0 c1 k12
     have S18:=Lib.hid (S17.out.put 13 (.string (bs pa)) (P':={(qvmk cl hu true hw re q) with keep:=(k:Int),props:=L,client:=ct,wProps:=Lw,wTopic:=wt,wPayload:=wd,user:=us,pass:=pa}) rfl rfl rfl)
     have n13:W12.cell? ⟨B,13,none⟩=some (.string ⟨#[]⟩):=S17.out.cell 13
     have f13:=S17.out.fr 13
     go_wp2_with fail
     go_meet
     exact S18.out
   case rest=>
    clear k12 S16
    have SX:=Lib.hid hcut
    clear hcut
    have G6:=SX.out.pk
    have hE1:=qwmp {(qvmk cl hu ha hw re q) with keep:=(k:Int),props:=L,client:=ct,wProps:=Lw,wTopic:=wt,wPayload:=wd,user:=us,pass:=pa} a2
    have hE2:=qmz0 {(qvmk cl hu ha hw re q) with keep:=(k:Int),props:=L,client:=ct,wProps:=Lw,wTopic:=wt,wPayload:=wd,user:=us,pass:=pa} a2
    have GR:=Lib.hid SX.out.rk.rs
    have RT:=SX.out.ret (pkC {(qvmk cl hu ha hw re q) with keep:=(k:Int),props:=L,client:=ct,wProps:=Lw,wTopic:=wt,wPayload:=wd,user:=us,pass:=pa} a2)
    obtain⟨E,hE⟩:∃E,pkC {(qvmk cl hu ha hw re q) with keep:=(k:Int),props:=L,client:=ct,wProps:=Lw,wTopic:=wt,wPayload:=wd,user:=us,pass:=pa} a2=E:=⟨_,rfl⟩
    change q563 w cb s _ _ (.returned (.agg (pkC {(qvmk cl hu ha hw re q) with keep:=(k:Int),props:=L,client:=ct,wProps:=Lw,wTopic:=wt,wPayload:=wd,user:=us,pass:=pa} a2))) _ at RT
    change _=some (Obj.cells (pkC {(qvmk cl hu ha hw re q) with keep:=(k:Int),props:=L,client:=ct,wProps:=Lw,wTopic:=wt,wPayload:=wd,user:=us,pass:=pa} a2) _ _) at G6
    rw[hE] at hE1 hE2 G6 RT
    have HE1:=Lib.hid hE1
    have HE2:=Lib.hid hE2
    have G6:=Lib.hid G6
    have RT:=Lib.hid RT
    clear hE1 hE2 hE
    go_wp2_with (first
     | (refine wpList_load_row rfl _ _ rfl B rfl 28 E (0,0) _ G6.out Tryz.underlying28 rfl (by rw[HE1.out];exact q5nr) ?_)
     | (refine wpList_store_row rfl _ _ _ rfl (w.heap.size+1) E rfl rfl 28 _ GR.out (by rw[HE1.out];exact q5nr) (by rw[HZ.out,HE1.out]) HE2.out ?_))
    exact q7wi (cs:=E) rfl rfl rfl Tryz.underlying28 rfl (by rw[HE1.out];exact q5nr) (setRow_heap _ _ _ _ _ _ GR.out) RT.out
end
end Go.Proofs.YtaahhbjnflimnaaGreat
namespace Go.Proofs.YtaahhbjnflimnaaGreat
theorem qoa7{kind:Int}{p:Pr}(h:qr4y kind p=0):PrOk p∧p.text.length≤65535∧p.value.length≤65535:=by
 obtain⟨hm,h4,h5⟩:=qo1o h
 obtain⟨_,h1,h2,_⟩:=qttn h
 obtain⟨r1,r2⟩:=qilb hm
 obtain⟨f0,f7,f1,f2,f3,f4,_⟩:=qznl hm
 have hn:p.n < 4294967296:=by
  by_cases hs:qwgc p.id≤4
  ·have h6:=(h4 hs).2.2.2
   have hs4:qwgc p.id=1∨qwgc p.id=2∨qwgc p.id=3∨qwgc p.id=4:=by omega
   rcases hs4 with e | e | e | e
   ·have:=f1 e;omega
   ·have:=f2 e;omega
   ·have:=f3 e;omega
   ·have:=f4 e;omega
  ·have:=(h5 (by omega)).1;omega
 exact⟨⟨by omega,by omega,hn,by omega,by omega⟩,h1,h2⟩
theorem qdz1(kind:Int)(s:List UInt8):(∀p∈(qflw kind s).1,PrOk p∧p.text.length≤65535∧p.value.length≤65535)∧(qflw kind s).1.length≤1000:=by
 by_cases h:(qflw kind s).2.2=0
 ·have hv:=(qugf (show qflw kind s=((qflw kind s).1,(qflw kind s).2.1,0) by rw[←h])).1
  obtain⟨h1,h2,_⟩:=(qgl5 _ _).1 hv
  exact⟨fun p hp=>qoa7 (h2.1 p hp),h1⟩
 ·rw[qjfk h]
  exact⟨fun p hp=>(nomatch hp),Nat.zero_le _⟩
theorem q5pm(x:Cs)(v kind:Int):(∀p∈(x.props v kind).1,PrOk p∧p.text.length≤65535∧p.value.length≤65535)∧(x.props v kind).1.length≤1000:=by
 unfold Cs.props
 split
 ·exact⟨fun p hp=>(nomatch hp),Nat.zero_le _⟩
 ·exact qdz1 _ _
theorem qz3k(x:Cs):x.text.1.length≤65535:=by
 unfold Cs.text
 split
 ·exact Nat.zero_le _
 ·exact(qslt _).2
theorem qlbc(x:Cs):x.bin.1.length≤65535:=by
 unfold Cs.bin
 split
 ·exact Nat.zero_le _
 ·exact(q3gm _).2
theorem qsam(x:Cs)(b:Bool):(x.optT b).1.length≤65535:=by
 cases b
 ·exact Nat.zero_le _
 ·exact qz3k x
theorem qea9(x:Cs)(b:Bool):(x.optB b).1.length≤65535:=by
 cases b
 ·exact Nat.zero_le _
 ·exact qlbc x
theorem qwpw(x:Cs)(b:Bool)(v kind:Int):(∀p∈(x.optP b v kind).1,PrOk p∧p.text.length≤65535∧p.value.length≤65535)∧(x.optP b v kind).1.length≤1000:=by
 cases b
 ·exact⟨fun p hp=>(nomatch hp),Nat.zero_le _⟩
 ·exact q5pm x v kind
def FitP(p:Pk):Prop:=PkOk p∧q21o p∧(-9223372036854775808≤p.wQos∧p.wQos≤9223372036854775807)∧p.codes=[]∧p.filters=[]
theorem qknl:FitP Pk.zero:=by
 refine⟨⟨by decide,by decide,fun t ht=>?_,fun x hx=>(nomatch hx),fun x hx=>(nomatch hx),fun x hx=>(nomatch hx)⟩,⟨by decide,by decide,by decide,by decide⟩,by decide,rfl,rfl⟩
 have:t=[]:=by simpa [Pk.texts,Pk.zero] using ht
 rw[this];decide
theorem q553(v:Int)(x:Cs):FitP (qnld v x).1:=by
 obtain⟨c,hc⟩:∃c,(x.name.vers v).flags v=c:=⟨_,rfl⟩
 obtain⟨d,hd⟩:∃d,c.2.num 2=d:=⟨_,rfl⟩
 obtain⟨p,hp⟩:∃p,d.2.props v 1=p:=⟨_,rfl⟩
 obtain⟨q,hq⟩:∃q,p.2.text=q:=⟨_,rfl⟩
 obtain⟨wp,hwp⟩:∃x,q.2.optP (c.1 / 4%2==1) v 16=x:=⟨_,rfl⟩
 obtain⟨wt,hwt⟩:∃x,wp.2.optT (c.1 / 4%2==1)=x:=⟨_,rfl⟩
 obtain⟨wd,hwd⟩:∃x,wt.2.optB (c.1 / 4%2==1)=x:=⟨_,rfl⟩
 obtain⟨us,hus⟩:∃x,wd.2.optT (c.1 / 128%2==1)=x:=⟨_,rfl⟩
 obtain⟨ps,hps⟩:∃x,us.2.optB (c.1 / 64%2==1)=x:=⟨_,rfl⟩
 rw[qy6q v x hc hd hp hq hwp hwt hwd hus hps]
 have f1:=q5pm d.2 v 1
 have f2:=qz3k p.2
 have f3:=qwpw q.2 (c.1 / 4%2==1) v 16
 have f4:=qsam wp.2 (c.1 / 4%2==1)
 have f5:=qea9 wt.2 (c.1 / 4%2==1)
 have f6:=qsam wd.2 (c.1 / 128%2==1)
 have f7:=qea9 us.2 (c.1 / 64%2==1)
 rw[hp] at f1
 rw[hq] at f2
 rw[hwp] at f3
 rw[hwt] at f4
 rw[hwd] at f5
 rw[hus] at f6
 rw[hps] at f7
 refine⟨⟨⟨by simp,by simp⟩,⟨by simp[Pk.zero],by simp[Pk.zero]⟩,fun t ht=>?_,fun y hy=>?_,fun y hy=>?_,fun y hy=>(nomatch hy)⟩,⟨by simp[Pk.zero],by simp[Pk.zero],by simp;omega,by simp;omega⟩,⟨by simp;omega,by simp;omega⟩,rfl,rfl⟩
 ·simp only[Pk.texts,List.mem_cons,List.not_mem_nil,or_false] at ht
  rcases ht with rfl | rfl | rfl | rfl | rfl | rfl | rfl
  ·exact Nat.zero_le _
  ·exact Nat.zero_le _
  ·exact Nat.le_trans f2 (by decide)
  ·exact Nat.le_trans f6 (by decide)
  ·exact Nat.le_trans f7 (by decide)
  ·exact Nat.le_trans f4 (by decide)
  ·exact Nat.le_trans f5 (by decide)
 ·obtain⟨a,b,c⟩:=f3.1 y hy
  exact⟨a,by omega,by omega⟩
 ·obtain⟨a,b,c⟩:=f1.1 y hy
  exact⟨a,by omega,by omega⟩
theorem qx14(v:Int)(x:Cs):FitP (qx6n v x).1:=by
 obtain⟨a,ha⟩:∃a,x.num 1=a:=⟨_,rfl⟩
 obtain⟨b,hb⟩:∃b,(if a.1 > 1 then a.2.fail 7 else a.2).num 1=b:=⟨_,rfl⟩
 obtain⟨p,hp⟩:∃p,b.2.props v 2=p:=⟨_,rfl⟩
 have e:qx6n v x=({Pk.zero with kind:=2,session:=a.1==1,code:=b.1,props:=p.1},p.2):=by subst ha hb hp;rfl
 rw[e]
 have f1:=q5pm b.2 v 2
 rw[hp] at f1
 refine⟨⟨⟨by simp,by simp⟩,⟨by simp[Pk.zero],by simp[Pk.zero]⟩,fun t ht=>?_,fun y hy=>(nomatch hy),fun y hy=>?_,fun y hy=>(nomatch hy)⟩,⟨by simp[Pk.zero],by simp[Pk.zero],by simp;omega,by simp[Pk.zero]⟩,⟨by simp[Pk.zero],by simp[Pk.zero]⟩,rfl,rfl⟩
 ·have:t=[]:=by simpa [Pk.texts,Pk.zero] using ht
  rw[this];decide
 ·obtain⟨a,b,c⟩:=f1.1 y hy
  exact⟨a,by omega,by omega⟩
end Go.Proofs.YtaahhbjnflimnaaGreat
namespace Go.Proofs.YtaahhbjnflimnaaGreat
open Go.RowKit
section
variable{w W W':World}{cb:Nat}{s:ByteArray}{x y:Cs}{v:Int}{P:Pk}
theorem q563.out{W0:World}{B:Nat}{e:Ending}(h:q563 W0 cb s y P e W)(hcb:cb < w.heap.size)(hB:w.heap.size≤B)(hB2:B < W0.heap.size)(hg:w.grownBy W0 (some cb))(D:Array Value) :
 q563 w cb s y P e (W.setRow B D):=by
 obtain⟨a,he,p1,p2,p3,p4,p5,p6,hc,hG⟩:=h
 have hr:=q573 W B D
 refine⟨a,he,p1.grown hr (fun g i e=>by have:=p5 g i e;omega),p2,p3.grown hr (fun g i e=>by have:=p6 g i e;omega),p4,fun g i e=>by have:=p5 g i e;omega,fun g i e=>by have:=p6 g i e;omega,?_,qacl (qo6d hg hG) hB _⟩
 exact hc.of_block (setRow_other W B cb D (by omega))
theorem qlcv(k:Int)(hk:k=1∨k=2)(hm:s.size≤9223372036854775807)(h:CsAt w cb s x) :
 Calls Tryz.prog 51 #[rdrV cb v,.int .i64 k] w (q563 w cb s (if k=1 then qnld v x else qx6n v x).2 (if k=1 then qnld v x else qx6n v x).1):=by
 have S0:=Lib.hid (RkS.made (v:=v) h)
 have CO:=fun W (h:CsAt W cb s x)=>q822 (v:=v) hm h
 have AC:=fun W (h:CsAt W cb s x)=>qldz (v:=v) hm h
 have HZ:=Lib.hid qbwp
 have hzv:=qrai
 have hne:¬pkZ=#[]:=by intro h;have:=qbwp;rw[h] at this;cases this
 have CB:=Lib.hid h.lt
 unfold rdrV at *
 rcases hk with rfl | rfl
 ·rw[if_pos rfl]
  generalize qnld v x=z at *
  obtain⟨P,y⟩:=z
  have CO:=Lib.hid CO
  clear AC h
  have ZW:((w.alloc (.cells #[.pointer (some ⟨cb,0,none⟩),.int .i64 v] 71)).alloc (.cells pkZ 28)).heap.size=w.heap.size+2:=by simp
  have ZW:=Lib.hid ZW
  go_enter Tryz.func51,Tryz.ntmps51
  have c0:=S0.out.c0
  have c1:=S0.out.c1
  go_wp2_with fail
  refine(CO.out _ S0.out.cs).mono ?_
  intro e W1 hR
  have hR0:=hR
  obtain⟨a,rfl,hr⟩:=hR
  have hr1:=hr.2.2.2.2.2.2.2
  have GR:=Lib.hid ((hr1.block (w.heap.size+1) (by rw[ZW.out];omega) (fun e=>by have:=Option.some.inj e;have:=CB.out;omega)).trans S0.out.rs)
  have hD1:=qwmp P a
  have hD2:=qmz0 P a
  obtain⟨D,hD⟩:∃D,pkC P a=D:=⟨_,rfl⟩
  rw[hD] at hD1 hD2 hR0 ⊢
  have RT:=Lib.hid (hR0.out (B:=w.heap.size+1) CB.out (by omega) (by rw[ZW.out];omega) S0.out.g D)
  have HD1:=Lib.hid hD1
  have HD2:=Lib.hid hD2
  clear hD1 hD2 hD hR0 hr hr1 c0 c1
  go_wp2_with (first
   | (refine wpList_store_row rfl _ _ _ rfl (w.heap.size+1) D rfl rfl 28 _ GR.out (by rw[HD1.out];exact q5nr) (by rw[HZ.out,HD1.out]) HD2.out ?_))
  exact q7wi (cs:=D) rfl rfl rfl Tryz.underlying28 rfl (by rw[HD1.out];exact q5nr) (setRow_heap _ _ _ _ _ _ GR.out) RT.out
 ·rw[if_neg (by decide)]
  generalize qx6n v x=z at *
  obtain⟨P,y⟩:=z
  have AC:=Lib.hid AC
  clear CO h
  have ZW:((w.alloc (.cells #[.pointer (some ⟨cb,0,none⟩),.int .i64 v] 71)).alloc (.cells pkZ 28)).heap.size=w.heap.size+2:=by simp
  have ZW:=Lib.hid ZW
  go_enter Tryz.func51,Tryz.ntmps51
  have c0:=S0.out.c0
  have c1:=S0.out.c1
  go_wp2_with fail
  refine(AC.out _ S0.out.cs).mono ?_
  intro e W1 hR
  have hR0:=hR
  obtain⟨a,rfl,hr⟩:=hR
  have hr1:=hr.2.2.2.2.2.2.2
  have GR:=Lib.hid ((hr1.block (w.heap.size+1) (by rw[ZW.out];omega) (fun e=>by have:=Option.some.inj e;have:=CB.out;omega)).trans S0.out.rs)
  have hD1:=qwmp P a
  have hD2:=qmz0 P a
  obtain⟨D,hD⟩:∃D,pkC P a=D:=⟨_,rfl⟩
  rw[hD] at hD1 hD2 hR0 ⊢
  have RT:=Lib.hid (hR0.out (B:=w.heap.size+1) CB.out (by omega) (by rw[ZW.out];omega) S0.out.g D)
  have HD1:=Lib.hid hD1
  have HD2:=Lib.hid hD2
  clear hD1 hD2 hD hR0 hr hr1 c0 c1
  go_wp2_with (first
   | (refine wpList_store_row rfl _ _ _ rfl (w.heap.size+1) D rfl rfl 28 _ GR.out (by rw[HD1.out];exact q5nr) (by rw[HZ.out,HD1.out]) HD2.out ?_))
  exact q7wi (cs:=D) rfl rfl rfl Tryz.underlying28 rfl (by rw[HD1.out];exact q5nr) (setRow_heap _ _ _ _ _ _ GR.out) RT.out
structure RrS(w:World)(cb:Nat)(s:ByteArray)(v:Int)(B B2:Nat)(P:Pk)(a:Ad)(y:Cs)(W:World):Prop where
 low:Below w.heap.size w W
 rs:W.heap[w.heap.size]? = some (.cells pkZ 28 (0,0))
 bx:W.heap[B]? = some (.cells #[.pointer (some ⟨cb,0,none⟩),.int .i64 v] 71 (0,0))
 pk:W.heap[B2]? = some (.cells (pkC P a) 28 (0,0))
 cs:CsAt W cb s y
 ps:PL W a.ps P.props
 ws:PL W a.w P.wProps
 c1:w.heap.size < cb
 c2:B≠cb
 c3:B2≠cb
 pf:∀g i,a.ps=some ⟨g,i,none⟩→g≠cb
 wf:∀g i,a.w=some ⟨g,i,none⟩→g≠cb
 pg:∀g i,a.ps=some ⟨g,i,none⟩→g≠w.heap.size
 wg:∀g i,a.w=some ⟨g,i,none⟩→g≠w.heap.size
section
variable{B B2:Nat}{a:Ad}{y':Cs}
theorem RrS.call(h:RrS w cb s v B B2 P a y W)(hc:CsAt W' cb s y')(hg:W.grownBy W' (some cb)):RrS w cb s v B B2 P a y' W':=
 ⟨h.low.grown hg h.low.size (fun k e=>by have:=Option.some.inj e;have:=h.c1;omega),(hg.block _ (lt_of_block h.rs) (fun e=>by have:=Option.some.inj e;have:=h.c1;omega)).trans h.rs,(hg.block _ (lt_of_block h.bx) (fun e=>h.c2 (Option.some.inj e))).trans h.bx,(hg.block _ (lt_of_block h.pk) (fun e=>h.c3 (Option.some.inj e))).trans h.pk,hc,h.ps.grown hg h.pf,h.ws.grown hg h.wf,h.c1,h.c2,h.c3,h.pf,h.wf,h.pg,h.wg⟩
theorem RrS.below(h:RrS w cb s v B B2 P a y W)(hb:Below W.heap.size W W'):RrS w cb s v B B2 P a y W':=h.call (h.cs.below hb) (q9cp hb _)
theorem RrS.drew(h:RrS w cb s v B B2 P a y W):RrS w cb s v B B2 P a y W.drew:=⟨h.low.drew,h.rs,h.bx,h.pk,h.cs,h.ps,h.ws,h.c1,h.c2,h.c3,h.pf,h.wf,h.pg,h.wg⟩
theorem RrS.c0'(h:RrS w cb s v B B2 P a y W):W.cell? ⟨B,0,none⟩=some (.pointer (some ⟨cb,0,none⟩)):=cell_of_row _ _ 0 _ _ _ h.bx
theorem RrS.c1'(h:RrS w cb s v B B2 P a y W):W.cell? ⟨B,1,none⟩=some (.int .i64 v):=cell_of_row _ _ 1 _ _ _ h.bx
end
def q3mm(w:World)(R:Pk×Nat)(e:Ending)(W:World):Prop:=
 ∃a:Ad,e = .returned (.tuple #[.agg (pkC R.1 a),.int .i64 (R.2:Nat)])∧PkAt W R.1 a∧PkCap R.1 a∧FitP R.1∧Below w.heap.size w W∧(R.2≠0→a=adZ)
theorem quqv(v k:Int)(s:ByteArray)(w:World)(hm:s.size≤9223372036854775807) :
 Calls Tryz.prog 13 #[.int .i64 v,.int .i64 k,.string s] w (q3mm w (q56s v k s.data.toList)):=by
 have KN:=q564 v k
 have HZ:=Lib.hid qbwp
 have hzv:=qrai
 have hne:¬pkZ=#[]:=by intro h;have:=qbwp;rw[h] at this;cases this
 by_cases hk:(versC v&&(k==1 || k==2))=false
 ·have e:q56s v k s.data.toList=(Pk.zero,2):=by unfold q56s;rw[if_pos hk]
  rw[e]
  rw[hk] at KN
  have KN:=Lib.hid KN
  have RT:=Lib.hid (show q3mm w (Pk.zero,2) (.returned (.tuple #[.agg pkZ,.int .i64 2])) ((w.alloc (.cells pkZ 28)).setRow w.heap.size pkZ) from⟨adZ,rfl,qa3p _,qe1o,qknl,q8xz (qybm _) (Nat.le_refl _) _,fun _=>rfl⟩)
  clear e hk
  go_enter Tryz.func13,Tryz.ntmps13
  go_wp2_with fail
  refine(KN.out _).mono ?_
  rintro e W ⟨rfl,rfl⟩
  go_wp2_with (first
   | (refine wpList_buildTo rfl 28 _ rfl (some 15) rfl pkZ (by kernel_rfl) ?_)
   | (refine wpList_store_row rfl _ _ _ rfl w.heap.size pkZ rfl rfl 28 _ (heap_alloc_new w _) (by rw[HZ.out];exact q5nr) rfl (show pkZ.all (·.oneCell')=true from qmz0 Pk.zero adZ) ?_))
  refine q8iy (cs:=pkZ) rfl rfl rfl rfl Tryz.underlying28 rfl (by rw[HZ.out];exact q5nr) (setRow_heap _ _ _ _ _ _ (heap_alloc_new w _)) ?_
  exact RT.out
 ·rw[Bool.not_eq_false] at hk
  have hk12:k=1∨k=2:=by simp only[Bool.and_eq_true,Bool.or_eq_true,beq_iff_eq] at hk;exact hk.2
  rw[hk] at KN
  have KN:=Lib.hid KN
  have PA:=fun cb x W (h:CsAt W cb s x)=>qlcv (v:=v) k hk12 hm h
  have FI:FitP (if k=1 then qnld v ⟨s.data.toList,0⟩ else qx6n v ⟨s.data.toList,0⟩).1:=by split;exact q553 v _;exact qx14 v _
  have e:q56s v k s.data.toList=(let x:=if k=1 then qnld v ⟨s.data.toList,0⟩ else qx6n v ⟨s.data.toList,0⟩
   let z:=(if (x.2.r.length:Int)==0 then x.2 else x.2.fail 5).fail (validC v x.1)
   if z.e≠0 then(Pk.zero,z.e) else(x.1,0)):=by
   unfold q56s
   rw[if_neg (by rw[hk];decide)]
   simp only[qz9v]
   have h0:∀l:List UInt8,(((l.length:Int)==0)=false)=(l≠[]):=fun l=>by cases l<;>simp;omega
   simp only[h0]
  rw[e]
  have PA:=fun cb W h=>PA cb ⟨s.data.toList,0⟩ W h
  generalize (if k=1 then qnld v ⟨s.data.toList,0⟩ else qx6n v ⟨s.data.toList,0⟩)=z at *
  obtain⟨P,y⟩:=z
  simp only at FI PA ⊢
  have RQ:=fun(cb:Nat) W (h:CsAt W cb s y)=>qr75 (v:=v) ((y.r.length:Int)==0) 5 h
  obtain⟨b,hb⟩:∃b,((y.r.length:Int)==0)=b:=⟨_,rfl⟩
  rw[hb] at RQ ⊢
  obtain⟨y2,hy2⟩:∃z,(if b=true then y else y.fail 5)=z:=⟨_,rfl⟩
  rw[hy2] at RQ ⊢
  obtain⟨R,hR⟩:∃R,(if (y2.fail (validC v P)).e≠0 then(Pk.zero,(y2.fail (validC v P)).e) else(P,0))=R:=⟨_,rfl⟩
  rw[hR]
  have HR:=Lib.hid hR
  have hyr:y2.r=y.r:=by
   rw[←hy2]
   cases b
   ·rw[if_neg (by decide)];unfold Cs.fail;split<;>rfl
   ·rfl
  have HYR:=Lib.hid hyr
  have VA:=fun(a:Ad) W (h:PkAt W P a) (hc:PkCap P a)=>qspo v P a W h FI.2.1 FI.1 hc
  have HFI:=Lib.hid FI
  have HB:=Lib.hid hb
  have PA:=Lib.hid PA
  have RQ:=Lib.hid RQ
  have VA:=Lib.hid VA
  have ER:=Lib.hid (fun(cb:Nat) W (h:CsAt W cb s y2)=>q3gp h)
  have LF:=Lib.hid (fun(cb:Nat) W (h:CsAt W cb s y)=>qjtm hm h)
  have HM:=Lib.hid hm
  unfold rdrV at *
  clear hk e hb hy2 hR FI hm hyr
  have ZW:(w.alloc (.cells pkZ 28)).heap.size=w.heap.size+1:=by simp
  have ZW:=Lib.hid ZW
  have RS0:=Lib.hid (heap_alloc_new w (.cells pkZ 28))
  have L0:=Lib.hid (qybm (w:=w) (.cells pkZ 28))
  go_enter Tryz.func13,Tryz.ntmps13
  go_wp2_with fail
  refine(KN.out _).mono ?_
  rintro e W ⟨rfl,rfl⟩
  generalize w.alloc (.cells pkZ 28)=W0 at *
  go_wp2_with fail
  refine(q2gu s _).mono ?_
  rintro e W1 ⟨rfl,hc,hb1,hz1⟩
  have C1:=(show CsAt W1 W0.heap.size s ⟨s.data.toList,0⟩ from⟨0,Nat.zero_le _,hc,by simp⟩)
  rw[ZW.out] at C1
  have C1:=Lib.hid C1
  have L1:=Lib.hid (qxh2 L0.out hb1)
  have R1:=Lib.hid ((hb1.block _ (lt_of_block RS0.out)).trans RS0.out)
  have Z1:=Lib.hid (show W1.heap.size=w.heap.size+2 by rw[hz1,ZW.out])
  clear hc hb1 hz1
  have CX:=Lib.hid (C1.out.alloc (.cells #[.pointer (some ⟨w.heap.size+1,0,none⟩),.int .i64 v] 71))
  have BX:=Lib.hid (heap_alloc_new W1 (.cells #[.pointer (some ⟨w.heap.size+1,0,none⟩),.int .i64 v] 71))
  have LX:=Lib.hid (qxh2 L1.out (qybm (.cells #[.pointer (some ⟨w.heap.size+1,0,none⟩),.int .i64 v] 71)))
  have RX:=Lib.hid ((heap_alloc_old W1 (.cells #[.pointer (some ⟨w.heap.size+1,0,none⟩),.int .i64 v] 71) (lt_of_block R1.out)).trans R1.out)
  have ZX:=Lib.hid (World.size_alloc W1 (.cells #[.pointer (some ⟨w.heap.size+1,0,none⟩),.int .i64 v] 71))
  go_wp2_with fail
  refine(PA.out _ _ CX.out).mono ?_
  rintro e W2 ⟨a,rfl,p1,p2,p3,p4,p5,p6,hc,hg⟩
  have L2:=LX.out.grown hg LX.out.size (fun k e=>by have:=Option.some.inj e;omega)
  have R2:=(hg.block _ (lt_of_block RX.out) (fun e=>by have:=Option.some.inj e;omega)).trans RX.out
  have B2:=(hg.block _ (lt_of_block BX.out) (fun e=>by have:=Option.some.inj e;have:=Z1.out;omega)).trans BX.out
  have hD1:=qwmp P a
  have hD2:=qmz0 P a
  have Z2:w.heap.size+3≤W2.heap.size:=by have:=hg.size;have:=ZX.out;have:=Z1.out;omega
  have hbx:=qybm (w:=W2) (.cells pkZ 28)
  have hR3:∀g,g < W2.heap.size→((W2.alloc (.cells pkZ 28)).setRow W2.heap.size (pkC P a)).heap[g]? = W2.heap[g]? := fun g hg=>(setRow_other _ _ _ _ (by omega)).trans (heap_alloc_old _ _ hg)
  have S3:RrS w (w.heap.size+1) s v W1.heap.size W2.heap.size P a y ((W2.alloc (.cells pkZ 28)).setRow W2.heap.size (pkC P a)):=
   ⟨q8xz (L2.trans (hbx.mono L2.size)) (by omega) _,(hR3 _ (by omega)).trans R2,(hR3 _ (by have:=Z1.out;omega)).trans B2,setRow_heap _ _ _ _ _ _ (heap_alloc_new W2 _),hc.of_block (hR3 _ hc.lt),
    p1.kept (by simp[World.setRow]) (fun g i e h=>hR3 g h),p3.kept (by simp[World.setRow]) (fun g i e h=>hR3 g h),by omega,by have:=Z1.out;omega,by omega,fun g i e=>by have:=p5 g i e;have:=ZX.out;have:=Z1.out;omega,fun g i e=>by have:=p6 g i e;have:=ZX.out;have:=Z1.out;omega,
    fun g i e=>by have:=p5 g i e;have:=ZX.out;have:=Z1.out;omega,fun g i e=>by have:=p6 g i e;have:=ZX.out;have:=Z1.out;omega⟩
  have S3:=Lib.hid S3
  have CP:=Lib.hid (PkCap.mk (p:=P) (a:=a) p2 p4 HFI.out.2.2.1)
  obtain⟨D,hD⟩:∃D,pkC P a=D:=⟨_,rfl⟩
  rw[hD] at hD1 hD2 S3 ⊢
  have HD:=Lib.hid hD
  have HD1:=Lib.hid hD1
  have HD2:=Lib.hid hD2
  have PT:∀(y':Cs) W,RrS w (w.heap.size+1) s v W1.heap.size W2.heap.size P a y' W→PkAt W P a:=fun y' W h=>⟨h.ws,by rw[HFI.out.2.2.2.1];exact fun e=>absurd rfl e,by rw[HFI.out.2.2.2.2];exact fun e=>absurd rfl e,h.ps⟩
  have PT:=Lib.hid PT
  clear hc hg p1 p2 p3 p4 p5 p6 L2 R2 B2 hD hD1 hD2 Z2 hbx hR3
  go_upto_region 5 with (refine wpList_store_row rfl _ _ _ rfl W2.heap.size D rfl rfl 28 _ (heap_alloc_new W2 _) (by rw[HD1.out];exact q5nr) (by rw[HZ.out,HD1.out]) HD2.out ?_)
  refine qwvm (S:=fun u W=>RrS w (w.heap.size+1) s v W1.heap.size W2.heap.size P a (if u=true then y2 else y) W) (B:=W1.heap.size) (n:=(y.r.length:Int)) (b:=b) S3.out.drew (fun u W h=>h.c0') (fun u W h=>h.c1') HB.out (fun u W h=>by
   cases u
   ·exact(LF.out _ W h.cs).mono fun e w' ⟨he,n,hn⟩=>⟨he,hn▸h.below (qnpu (Below.refl _ _) n)⟩
   ·have hl:=h.cs
    have:=qjtm (s:=s) (by have:=S3.out.cs;exact HM.out) hl
    rw[if_pos rfl,HYR.out] at this
    exact this.mono fun e w' ⟨he,n,hn⟩=>⟨he,hn▸h.below (qnpu (Below.refl _ _) n)⟩) (fun u W h hu=>by
   subst hu
   exact(RQ.out _ W h.cs).mono fun e w' ⟨he,hc,hg⟩=>⟨he,h.call hc hg⟩) ?_
  intro W5 hS
  have S5:=Lib.hid (show RrS w (w.heap.size+1) s v W1.heap.size W2.heap.size P a y2 W5 from hS)
  clear hS S3
  have c0:=S5.out.c0'
  have c1:=S5.out.c1'
  go_wp2_with fail
  refine(ER.out _ _ S5.out.cs).mono ?_
  rintro e W6 ⟨rfl,rfl⟩
  have P5:=S5.out.pk
  rw[HD.out] at P5
  have P5:=Lib.hid P5
  clear c0 c1
  by_cases he:y2.e=0
  ·have hr:=HR.out
   have hr2:R=if validC v P≠0 then(Pk.zero,validC v P) else(P,0):=by
    rw[←hr]
    have:(y2.fail (validC v P)).e=validC v P:=by unfold Cs.fail;rw[if_neg (by simpa using he)]
    rw[this]
   rw[he]
   have HRb:=Lib.hid hr2
   generalize validC v P=V at *
   clear hr hr2 HR he
   go_wp2_with (refine wpList_load_row rfl _ _ rfl W2.heap.size rfl 28 D (0,0) _ P5.out Tryz.underlying28 rfl (by rw[HD1.out];exact q5nr) ?_)
   have VX:=VA.out a W5 (PT.out _ _ S5.out) CP.out
   unfold pkV at VX
   rw[HD.out] at VX
   refine VX.mono ?_
   rintro e W7 ⟨rfl,hb7⟩
   have S7:=Lib.hid (S5.out.below hb7)
   have P7:=S7.out.pk
   rw[HD.out] at P7
   have P7:=Lib.hid P7
   clear VX hb7
   by_cases hV:V=0
   ·have HRa:=Lib.hid (show R=(P,0) by rw[HRb.out,if_neg (by simpa using hV)])
    subst hV
    clear HRb
    go_wp2_with (first
     | (refine wpList_load_row rfl _ _ rfl W2.heap.size rfl 28 D (0,0) _ P7.out Tryz.underlying28 rfl (by rw[HD1.out];exact q5nr) ?_)
     | (refine wpList_store_row rfl _ _ _ rfl w.heap.size D rfl rfl 28 _ S7.out.rs (by rw[HD1.out];exact q5nr) (by rw[HZ.out,HD1.out]) HD2.out ?_))
    refine q8iy (cs:=D) rfl rfl rfl rfl Tryz.underlying28 rfl (by rw[HD1.out];exact q5nr) (setRow_heap _ _ _ _ _ _ S7.out.rs) ?_
    rw[HRa.out]
    have hr:=q573 W7 w.heap.size D
    have hA:=PT.out _ _ S7.out
    exact⟨a,by rw[HD.out];rfl,⟨hA.w.grown hr S7.out.wg,by rw[HFI.out.2.2.2.1];exact fun e=>absurd rfl e,by rw[HFI.out.2.2.2.2];exact fun e=>absurd rfl e,hA.ps.grown hr S7.out.pg⟩,CP.out,HFI.out,q8xz S7.out.low (Nat.le_refl _) _,fun h=>absurd rfl h⟩
   ·have HRa:=Lib.hid (show R=(Pk.zero,V) by rw[HRb.out,if_pos hV])
    have hv1:((V:Int)==0)=false:=by simp;omega
    have hv2:((V:Int) != 0)=true:=by simp;omega
    clear HRb hV
    go_wp2_with (first
     | (refine wpList_buildTo rfl 28 _ rfl (some 39) rfl pkZ (by kernel_rfl) ?_)
     | (refine wpList_store_row rfl _ _ _ rfl w.heap.size pkZ rfl rfl 28 _ S7.out.rs (by rw[HZ.out];exact q5nr) rfl (show pkZ.all (·.oneCell')=true from qmz0 Pk.zero adZ) ?_))
    refine q8iy (cs:=pkZ) rfl rfl rfl rfl Tryz.underlying28 rfl (by rw[HZ.out];exact q5nr) (setRow_heap _ _ _ _ _ _ S7.out.rs) ?_
    rw[HRa.out]
    exact⟨adZ,rfl,qa3p _,qe1o,qknl,q8xz S7.out.low (Nat.le_refl _) _,fun _=>rfl⟩
  ·have hr:=HR.out
   have hr2:R=(Pk.zero,y2.e):=by
    rw[←hr]
    have:(y2.fail (validC v P)).e=y2.e:=by unfold Cs.fail;rw[if_pos he]
    rw[this,if_pos he]
   have HRa:=Lib.hid hr2
   have hv1:((y2.e:Int)==0)=false:=by simp;omega
   have hv2:((y2.e:Int) != 0)=true:=by simp;omega
   clear hr hr2 HR he
   go_wp2_with (first
    | (refine wpList_buildTo rfl 28 _ rfl (some 39) rfl pkZ (by kernel_rfl) ?_)
    | (refine wpList_store_row rfl _ _ _ rfl w.heap.size pkZ rfl rfl 28 _ S5.out.rs (by rw[HZ.out];exact q5nr) rfl (show pkZ.all (·.oneCell')=true from qmz0 Pk.zero adZ) ?_))
   refine q8iy (cs:=pkZ) rfl rfl rfl rfl Tryz.underlying28 rfl (by rw[HZ.out];exact q5nr) (setRow_heap _ _ _ _ _ _ S5.out.rs) ?_
   rw[HRa.out]
   exact⟨adZ,rfl,qa3p _,qe1o,qknl,q8xz S5.out.low (Nat.le_refl _) _,fun _=>rfl⟩
end
def qveh(x:Cs)(f:Nat):Cs:=(if x.e=0∧x.r≠[] then x.fail 5 else x).fail f
structure DnS(w:World)(cb:Nat)(s:ByteArray)(p:Pk)(a:Ad)(y:Cs)(W:World):Prop where
 gr:w.grownBy W (some cb)
 box:W.heap[w.heap.size]? = some (.cells (pkC p a) 28 (0,0))
 res:W.heap[w.heap.size+1]? = some (.cells pkZ 28 (0,0))
 cs:RsAt W cb s y
section
variable{w W W':World}{cb:Nat}{s:ByteArray}{x y:Cs}{p:Pk}{a:Ad}
theorem RsAt.err(h:RsAt W cb s x):W.cell? ⟨cb,2,none⟩=some (.int .i64 ((x.e:Nat):Int)):=by obtain⟨i,_,hc,_⟩:=h;exact hc.c2
theorem DnS.call(h:DnS w cb s p a x W)(hcb:cb < w.heap.size)(hg:W.grownBy W' (some cb))(hy:RsAt W' cb s y):DnS w cb s p a y W':=
 ⟨qo6d h.gr hg,(hg.block _ (lt_of_block h.box) (by intro e;cases e;omega)).trans h.box,(hg.block _ (lt_of_block h.res) (by intro e;cases e;omega)).trans h.res,hy⟩
theorem DnS.made(h:RsAt w cb s x):DnS w cb s p a x ((w.alloc (.cells (pkC p a) 28)).alloc (.cells pkZ 28)):=
 ⟨qo6d (World.grownBy_alloc _ _ _) (World.grownBy_alloc _ _ _),heap_alloc2_old _ _ _,heap_alloc2_new _ _ _,(h.below (qybm _)).below (qybm _)⟩
theorem DnS.zero(h:DnS w cb s p a x W)(hcb:cb < w.heap.size):DnS w cb s p a x (W.setRow (w.heap.size+1) pkZ):=
 ⟨qacl h.gr (by omega) _,(setRow_other _ _ _ _ (by omega)).trans h.box,setRow_heap _ _ _ _ _ _ h.res,h.cs.of_block (setRow_other _ _ _ _ (by omega))⟩
theorem qeyg(f:Nat)(hm:s.size≤9223372036854775807)(h:RsAt w cb s x) :
 Calls Tryz.prog 61 #[.pointer (some ⟨cb,0,none⟩),.agg (pkC p a),.int .i64 (f:Int)] w fun e w'=>e = .returned (.tuple #[.agg (if (qveh x f).e≠0 then pkZ else pkC p a),.int .i64 (((qveh x f).e:Nat):Int)])∧w.grownBy w' (some cb):=by
 have S0:=Lib.hid (DnS.made (p:=p) (a:=a) h)
 have CB:=Lib.hid h.lt
 have C1:=Lib.hid (qwmp p a)
 have P2:=Lib.hid (qmz0 p a)
 have HZ:=Lib.hid qbwp
 have ZO:pkZ.all (·.oneCell')=true:=qmz0 Pk.zero adZ
 have hzv:=qrai
 have hne:¬pkZ=#[]:=by intro h;have:=qbwp;rw[h] at this;cases this
 have LE:=fun W (h:RsAt W cb s x)=>q5u4 hm h
 have F5:=fun W (h:RsAt W cb s x)=>qw3h 5 h
 obtain⟨y,hy⟩:∃y,(if x.e=0∧x.r≠[] then x.fail 5 else x)=y:=⟨_,rfl⟩
 have FF:=fun W (h:RsAt W cb s y)=>qw3h f h
 unfold qveh
 rw[hy]
 obtain⟨z,hz⟩:∃z,y.fail f=z:=⟨_,rfl⟩
 rw[hz] at FF ⊢
 obtain⟨V,hV⟩:∃V,(if z.e≠0 then pkZ else pkC p a)=V:=⟨_,rfl⟩
 rw[hV]
 have HV:=Lib.hid hV
 clear hV
 have HY:=Lib.hid hy
 have LE:=Lib.hid LE
 have F5:=Lib.hid F5
 have FF:=Lib.hid FF
 have k2:((w.alloc (.cells (pkC p a) 28)).alloc (.cells pkZ 28)).cell? ⟨cb,2,none⟩=some (.int .i64 ((x.e:Nat):Int)):=S0.out.cs.err
 clear h hy hz
 go_enter Tryz.func61,Tryz.ntmps61
 go_upto_region 1 with fail
 generalize (w.alloc (.cells (pkC p a) 28)).alloc (.cells pkZ 28)=W at *
 have S1:=Lib.hid S0.out
 clear S0
 obtain⟨b,hb⟩:∃b,decide (x.e=0∧x.r≠[])=b:=⟨_,rfl⟩
 have HB:=Lib.hid hb
 clear hb
 go_cut [17] (fun s17 wx=>s17 = .bool b∧DnS w cb s p a x wx)
 case first=>
  by_cases he:x.e=0
  ·have hl2:decide (0 < x.r.length)=b:=by
    rw[←HB.out,decide_eq_decide]
    cases x.r<;>simp[he]
   rw[he] at k2
   generalize x.r.length=n at *
   have LE:=Lib.hid LE.out
   have HL2:=Lib.hid hl2
   clear he HY HB hl2
   go_wp2_with fail
   refine(LE.out _ S1.out.cs).mono ?_
   rintro e W2 ⟨rfl,hc,hg⟩
   have S2:=Lib.hid (S1.out.call CB.out hg hc)
   clear hc hg
   go_wp2_with fail
   go_meet
   exact⟨congrArg Value.bool HL2.out,S2.out⟩
  ·have HT:=Lib.hid (show false=b by rw[←HB.out,decide_eq_false (by simp[he])])
   have he2:(((x.e:Nat):Int)==0)=false:=by simp;omega
   clear he HY HB
   go_wp2_with fail
   go_meet
   exact⟨congrArg Value.bool HT.out,S1.out⟩
 case rest=>
  clear S1 k2 LE
  obtain⟨rfl,hS⟩:=hcut
  have S1:=Lib.hid hS
  clear hS
  go_upto_if 17 with fail
  go_cut [] (fun wx=>DnS w cb s p a y wx)
  case first=>
   cases b with
   | false=>
    have HT:=Lib.hid (show x=y by rw[←HY.out,if_neg (of_decide_eq_false HB.out)])
    clear HY HB
    go_wp2_with fail
    go_meet
    rw[←HT.out];exact S1.out
   | true=>
    have HT:=Lib.hid (show x.fail 5=y by rw[←HY.out,if_pos (of_decide_eq_true HB.out)])
    clear HY HB
    go_wp2_with fail
    refine(F5.out _ S1.out.cs).mono ?_
    rintro e W3 ⟨rfl,hc,hg⟩
    have S3:=Lib.hid (S1.out.call CB.out hg hc)
    clear hc hg
    go_wp2_with fail
    go_meet
    rw[←HT.out];exact S3.out
  case rest=>
   have S2:=Lib.hid hcut
   clear hcut S1 F5 HY HB
   go_wp2_with fail
   refine(FF.out _ S2.out.cs).mono ?_
   rintro e W3 ⟨rfl,hc,hg⟩
   have S3:=Lib.hid (S2.out.call CB.out hg hc)
   have k2:W3.cell? ⟨cb,2,none⟩=some (.int .i64 ((z.e:Nat):Int)):=hc.err
   have GB:=Lib.hid S3.out.box
   have GR:=Lib.hid S3.out.res
   clear hc hg FF S2
   by_cases hz:z.e=0
   ·have RT:=Lib.hid (show Ending.returned (.tuple #[.agg (pkC p a),.int .i64 0]) = .returned (.tuple #[.agg V,.int .i64 ((z.e:Nat):Int)]) by rw[←HV.out,if_neg (by simpa using hz),hz];rfl)
    rw[hz] at k2
    have LO:=Lib.hid (qacl S3.out.gr (show w.heap.size≤w.heap.size+1 by omega) (pkC p a))
    clear hz S3
    go_wp2_with (first
     | (refine wpList_load_row rfl _ _ rfl w.heap.size rfl 28 (pkC p a) (0,0) _ GB.out Tryz.underlying28 rfl (by rw[C1.out];exact q5nr) ?_)
     | (refine wpList_store_row rfl _ _ _ rfl (w.heap.size+1) (pkC p a) rfl rfl 28 _ GR.out (by rw[C1.out];exact q5nr) (by rw[HZ.out,C1.out]) P2.out ?_))
    exact q8iy (cs:=pkC p a) rfl rfl rfl rfl Tryz.underlying28 rfl (by rw[C1.out];exact q5nr) (setRow_heap _ _ _ _ _ _ GR.out) ⟨RT.out,LO.out⟩
   ·have RT:=Lib.hid (show Ending.returned (.tuple #[.agg pkZ,.int .i64 ((z.e:Nat):Int)]) = .returned (.tuple #[.agg V,.int .i64 ((z.e:Nat):Int)]) by rw[←HV.out,if_pos hz])
    have he2:(((z.e:Nat):Int)==0)=false:=by simp;omega
    have he3:(((z.e:Nat):Int) != 0)=true:=by simp;omega
    have LO:=Lib.hid (qacl S3.out.gr (show w.heap.size≤w.heap.size+1 by omega) pkZ)
    clear hz
    go_upto_region 5 with fail
    refine qy7c (T:=DnS w cb s p a z) (B:=w.heap.size+1) (cb:=cb) (z:=((z.e:Nat):Int)) ⟨S3.out.gr.trans ⟨rfl,rfl,rfl,Nat.le_refl _,fun _ _ _=>rfl⟩,S3.out.box,S3.out.res,S3.out.cs⟩ (fun W h=>h.cs.err) (fun W h=>h.res) (fun W h=>h.zero CB.out) ?_
    intro W h
    have GR:=Lib.hid h.res
    have LO:=Lib.hid h.gr
    clear h
    go_wp2_with fail
    exact q8iy (cs:=pkZ) rfl rfl rfl rfl Tryz.underlying28 rfl (by rw[HZ.out];exact q5nr) GR.out ⟨RT.out,LO.out⟩
end
end Go.Proofs.YtaahhbjnflimnaaGreat
