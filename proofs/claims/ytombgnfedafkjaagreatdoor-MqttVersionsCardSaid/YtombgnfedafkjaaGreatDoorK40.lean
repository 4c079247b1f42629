/- The contract of connect.reader's connack. Condition: the bytes are no more than an int says. -/
import Derived.Test.YtombgnfedafkjaaGreatDoorK39
set_option maxRecDepth 100000
set_option maxHeartbeats 4000000
namespace Go.Proofs.YtombgnfedafkjaaGreatDoor
open Lib(hid)
open Proofs.Tryz
open Go.RowKit
structure ReS(w:World)(cb:Nat)(s:ByteArray)(v:Int)(B:Nat)(y:Cs)(P:Pk)(a:Ad)(W:World):Prop where
 rk:RkS w cb s v y W
 hB:w.heap.size+2<=B
 pk:W.heap[B]?=some (.cells (pkC P a) 32 (0,0))
 ps:PL W a.ps P.props
 pc:P.props.length<=a.pc
 pf:∀g i,a.ps=some ⟨g,i,none⟩->B<g
 ws:PL W a.w P.wProps
 wc:P.wProps.length<=a.wc
 wf:∀g i,a.w=some ⟨g,i,none⟩->B<g
section
variable{w W W':World}{cb:Nat}{s:ByteArray}{x y y':Cs}{v:Int}{B:Nat}{P P':Pk}{a a':Ad}
theorem ReS.ne(h:ReS w cb s v B y P a W):B≠cb:=by have:=h.rk.lt;have:=h.hB;omega
theorem ReS.call(h:ReS w cb s v B y P a W)(hc:CsAt W' cb s y')(hg:W.grownBy W' (some cb)):ReS w cb s v B y' P a W':=
 ⟨h.rk.call hc hg,h.hB,(hg.block _ (lt_of_block h.pk) (fun e=>h.ne (Option.some.inj e))).trans h.pk,h.ps.grown hg (fun g i e=>by have:=h.pf g i e;have:=h.rk.lt;have:=h.hB;omega),h.pc,h.pf,h.ws.grown hg (fun g i e=>by have:=h.wf g i e;have:=h.rk.lt;have:=h.hB;omega),h.wc,h.wf⟩
theorem ReS.cell(h:ReS w cb s v B y P a W)(j:Nat):W.cell? ⟨B,j,none⟩=(pkC P a)[j]? := cell_of_row _ _ j _ _ _ h.pk
theorem ReS.fr(h:ReS w cb s v B y P a W)(j:Nat):W.frozen? ⟨B,j,none⟩=false:=frozen_of_row _ _ _ _ _ h.pk
theorem ReS.put(h:ReS w cb s v B y P a W)(j:Nat)(u:Value)(he:(pkC P a).setIfInBounds j u=pkC P' a)(hp:P'.props=P.props)(hw:P'.wProps=P.wProps):ReS w cb s v B y P' a (W.setCell ⟨B,j,none⟩ u):=by
 have hg:=q99v W B j u;refine⟨h.rk.other h.hB hg,h.hB,by have:=qlvy h.pk j u;rw[he] at this;exact this,?_,by rw[hp];exact h.pc,h.pf,?_,by rw[hw];exact h.wc,h.wf⟩
 ·rw[hp];exact h.ps.grown hg (fun g i e=>by have:=h.pf g i e;omega)
 ·rw[hw];exact h.ws.grown hg (fun g i e=>by have:=h.wf g i e;omega)
theorem ReS.putPs(h:ReS w cb s v B y P a W){A:Option Addr}{c:Nat}{L:List Pr}(hL:PL W A L)(hc:L.length<=c)(hf:∀g i,A=some ⟨g,i,none⟩->B<g):ReS w cb s v B y {P with props:=L} {a with ps:=A,pc:=c} (W.setCell ⟨B,24,none⟩ (.slice A L.length c)):=by have hg:=q99v W B 24 (.slice A L.length c);exact⟨h.rk.other h.hB hg,h.hB,qlvy h.pk 24 (.slice A L.length c),hL.grown hg (fun g i e=>by have:=hf g i e;omega),hc,hf,h.ws.grown hg (fun g i e=>by have:=h.wf g i e;omega),h.wc,h.wf⟩
theorem ReS.putWs(h:ReS w cb s v B y P a W){A:Option Addr}{c:Nat}{L:List Pr}(hL:PL W A L)(hc:L.length<=c)(hf:∀g i,A=some ⟨g,i,none⟩->B<g):ReS w cb s v B y {P with wProps:=L} {a with w:=A,wc:=c} (W.setCell ⟨B,19,none⟩ (.slice A L.length c)):=by have hg:=q99v W B 19 (.slice A L.length c);exact⟨h.rk.other h.hB hg,h.hB,qlvy h.pk 19 (.slice A L.length c),h.ps.grown hg (fun g i e=>by have:=h.pf g i e;omega),h.pc,h.pf,hL.grown hg (fun g i e=>by have:=hf g i e;omega),hc,hf⟩
theorem ReS.laid(h:RkS w cb s v y W){D:Array Value}(hD:pkC P adZ=D)(hp:P.props=[])(hw:P.wProps=[]):ReS w cb s v W.heap.size y P adZ ((W.alloc (.cells pkZ 32)).setRow W.heap.size D):=by
 have Z:=lt_of_block h.rs;refine⟨(h.below (qybm (.cells pkZ 32))).other Z (q573 _ _ _),Z,by rw[hD];exact setRow_heap _ _ _ D _ _ (heap_alloc_new W _),?_,by rw[hp];exact Nat.zero_le _,fun g i e=>(by cases e),?_,by rw[hw];exact Nat.zero_le _,fun g i e=>(by cases e)⟩
 ·rw[hp];exact PL.nil
 ·rw[hw];exact PL.nil
def q563(w:World)(cb:Nat)(s:ByteArray)(y:Cs)(P:Pk)(e:Ending)(W:World):Prop:=
 ∃a:Ad,e=.returned (.agg (pkC P a))/\PL W a.ps P.props/\P.props.length<=a.pc/\PL W a.w P.wProps/\P.wProps.length<=a.wc/\(∀g i,a.ps=some ⟨g,i,none⟩->w.heap.size<=g)/\(∀g i,a.w=some ⟨g,i,none⟩->w.heap.size<=g)/\CsAt W cb s y/\w.grownBy W (some cb)
theorem ReS.ret(h:ReS w cb s v B y P a W)(D:Array Value):q563 w cb s y P (.returned (.agg (pkC P a))) (W.setRow (w.heap.size+1) D):=by have hg:=q573 W (w.heap.size+1) D;have hb:=h.hB;refine⟨a,rfl,h.ps.grown hg (fun g i e=>by have:=h.pf g i e;omega),h.pc,h.ws.grown hg (fun g i e=>by have:=h.wf g i e;omega),h.wc,fun g i e=>by have:=h.pf g i e;omega,fun g i e=>by have:=h.wf g i e;omega,?_,qacl h.rk.g (by omega) _⟩;exact h.rk.cs.of_block (setRow_other W (w.heap.size+1) cb D (Nat.ne_of_lt (Nat.lt_succ_of_lt h.rk.lt)))
theorem q1g9:∀f:Nat,f<256->(bits .andNot .i64 (f:Int) 1==0)=decide (f<=1):=by decide+kernel
theorem qldz(hm:s.size<=9223372036854775807)(h:CsAt w cb s x) :
 Calls prog 132 #[rdrV cb v] w (q563 w cb s (qx6n v x).2 (qx6n v x).1):=by
 have S0:=hid (RkS.made (v:=v) h);have hf:=qunn x;obtain⟨z,hz⟩:∃z,x.num 1=z:=⟨_,rfl⟩
 obtain⟨f,y1⟩:=z;rw[hz] at hf;obtain⟨y2,hy2⟩:∃z,(if f > 1 then y1.fail 7 else y1)=z:=⟨_,rfl⟩
 obtain⟨z,hz3⟩:∃z,y2.num 1=z:=⟨_,rfl⟩
 obtain⟨c,y3⟩:=z;obtain⟨z,hz4⟩:∃z,y3.props v 2=z:=⟨_,rfl⟩
 obtain⟨L,y4⟩:=z;have e:qx6n v x=({Pk.zero with kind:=2,session:=f==1,code:=(c:Int),props:=L},y4):=by unfold qx6n;simp only[hz,hy2,hz3,hz4]
 rw[e];have O1:=fun W (h:CsAt W cb s x)=>qevs (v:=v) hm h;have O2:=fun W (h:CsAt W cb s y2)=>qevs (v:=v) hm h;have PR:=fun W (h:CsAt W cb s y3)=>q5sz (v:=v) 2 (by decide) (by decide) hm h;have RQ:=fun W (h:CsAt W cb s y1)=>qr75 (v:=v) (decide (f<=1)) 7 h;have ey2:(if decide (f<=1) then y1 else y1.fail 7)=y2:=by
  rw[<-hy2];by_cases h1:f<=1
  ·rw[decide_eq_true h1,if_pos rfl,if_neg (by omega)]
  ·rw[decide_eq_false h1,if_neg (by decide),if_pos (by omega)]
 have hb1:=q1g9 f hf;rw[hz] at O1;rw[hz3] at O2;rw[hz4] at PR;rw[ey2] at RQ;generalize decide (f<=1)=b at *;have hc0:(f:Int)<256:=by have:f<256:=hf;omega
 have hs1:((f:Int)==1)=(f==1):=by
  by_cases h1:f=1
  ·subst h1;rfl
  ·rw[beq_eq_false_iff_ne.2 h1,beq_eq_false_iff_ne.2 (by omega)]
 generalize (f==1)=se at *;obtain⟨D,hD⟩:∃D,pkC {Pk.zero with kind:=2,session:=se} adZ=D:=⟨_,rfl⟩
 have hD1:=qwmp {Pk.zero with kind:=2,session:=se} adZ;have hD2:=qmz0 {Pk.zero with kind:=2,session:=se} adZ;rw[hD] at hD1 hD2;have HD:=hid hD;have HD1:=hid hD1;have HD2:=hid hD2;have HZ:=hid qbwp;have hzv:=qrai;have hne:¬pkZ=#[]:=by intro h;have:=qbwp;rw[h] at this;cases this
 have O1:=hid O1;have O2:=hid O2;have PR:=hid PR;have RQ:=hid RQ;unfold rdrV at *;clear hf hz hy2 hz3 hz4 e ey2 h hD hD1 hD2;go_in;have c0:=S0.out.c0;have c1:=S0.out.c1;go_wp2_with fail;refine(O1.out _ S0.out.cs).mono ?_;rintro e W1 ⟨rfl,hc,hg⟩;have S1:=hid (S0.out.call hc hg);clear hc hg c0 c1;have c0:=S1.out.c0;have c1:=S1.out.c1;go_wp2_with fail;refine(RQ.out _ S1.out.cs).mono ?_;rintro e W2 ⟨rfl,hc,hg⟩;have S2:=hid (S1.out.call hc hg);clear hc hg c0 c1;have SP:=hid (ReS.laid S2.out HD.out rfl rfl);have c0:=SP.out.rk.c0;have c1:=SP.out.rk.c1;go_wp2_with (first
  |(refine wpList_buildTo rfl 32 _ rfl (some 14) rfl D (by rw[<-HD.out];kernel_rfl) ?_)
  |(refine wpList_store_row rfl _ _ _ rfl W2.heap.size D rfl rfl 32 _ (heap_alloc_new W2 _) (by rw[HD1.out];exact q5nr) (by rw[HZ.out,HD1.out]) HD2.out ?_))
 refine(O2.out _ SP.out.rk.cs).mono ?_;rintro e W3 ⟨rfl,hc,hg⟩;have S3:=hid (SP.out.call hc hg);clear hc hg c0 c1;generalize W2.heap.size=B at *;have S4:=hid (S3.out.put 21 (.int .i64 (c:Int)) (P':={Pk.zero with kind:=2,session:=se,code:=(c:Int)}) rfl rfl rfl);have n21:W3.cell? ⟨B,21,none⟩=some (.int .i64 0):=S3.out.cell 21;have f21:=S3.out.fr 21;have c0:=S4.out.rk.c0;have c1:=S4.out.rk.c1;go_wp2_with fail;clear n21 f21;refine(PR.out _ S4.out.rk.cs).mono ?_;rintro e W5 ⟨⟨A,cc,rfl,hl,hP,hA⟩,ok,h1000,hc,hg⟩;have hBW:=lt_of_block S4.out.pk;have S5:=hid (S4.out.call hc hg);have S6:=hid (S5.out.putPs hP hl (fun g i e=>Nat.lt_trans hBW (hA g i e)));clear hc hg c0 c1 hP hl hA hBW ok h1000;have n24:W5.cell? ⟨B,24,none⟩=some (.slice none 0 0):=S5.out.cell 24;have f24:=S5.out.fr 24;have G6:=S6.out.pk;have hE1:=qwmp {Pk.zero with kind:=2,session:=se,code:=(c:Int),props:=L} {adZ with ps:=A,pc:=cc};have hE2:=qmz0 {Pk.zero with kind:=2,session:=se,code:=(c:Int),props:=L} {adZ with ps:=A,pc:=cc};have GR:=hid S6.out.rk.rs;have RT:=S6.out.ret (pkC {Pk.zero with kind:=2,session:=se,code:=(c:Int),props:=L} {adZ with ps:=A,pc:=cc});obtain⟨E,hE⟩:∃E,pkC {Pk.zero with kind:=2,session:=se,code:=(c:Int),props:=L} {adZ with ps:=A,pc:=cc}=E:=⟨_,rfl⟩
 change q563 w cb s y4 _ (.returned (.agg (pkC {Pk.zero with kind:=2,session:=se,code:=(c:Int),props:=L} {adZ with ps:=A,pc:=cc}))) _ at RT;change _=some (Obj.cells (pkC {Pk.zero with kind:=2,session:=se,code:=(c:Int),props:=L} {adZ with ps:=A,pc:=cc}) _ _) at G6;rw[hE] at hE1 hE2 G6 RT;have HE1:=hid hE1;have HE2:=hid hE2;have G6:=hid G6;have RT:=hid RT;clear hE1 hE2 hE;go_wp2_with (first
  |(refine wpList_load_row rfl _ _ rfl B rfl 32 E (0,0) _ G6.out underlying32 rfl (by rw[HE1.out];exact q5nr) ?_)
  |(refine wpList_store_row rfl _ _ _ rfl (w.heap.size+1) E rfl rfl 32 _ GR.out (by rw[HE1.out];exact q5nr) (by rw[HZ.out,HE1.out]) HE2.out ?_))
 exact q7wi (cs:=E) rfl rfl rfl underlying32 rfl (by rw[HE1.out];exact q5nr) (setRow_heap _ _ _ _ _ _ GR.out) RT.out
end
section
variable{w W W':World}{cb:Nat}{s:ByteArray}{x:Cs}{v:Int}
theorem qu7y(x:Cs):(if ((bs (x.take 6).1).toList==[0,4,77,81,84,84]) then(x.take 6).2 else(x.take 6).2.fail 5)=x.name:=by
 rw[qz9v,q0c6];unfold Cs.name;have e6:enc2 q1f4=[0,4,77,81,84,84]:=by decide
 rw[e6];simp only[beq_eq_false_iff_ne]
theorem q11j(x:Cs)(v:Int):(if (((x.num 1).1:Nat):Int)==v then(x.num 1).2 else(x.num 1).2.fail 5)=x.vers v:=by rw[qz9v];unfold Cs.vers;simp only[beq_eq_false_iff_ne]
theorem q822(hm:s.size<=9223372036854775807)(h:CsAt w cb s x) :
 Calls prog 133 #[rdrV cb v] w (q563 w cb s (qnld v x).2 (qnld v x).1):=by
 have S0:=hid (RkS.made (v:=v) h);obtain⟨z,hz5⟩:∃z,(x.name.vers v).flags v=z:=⟨_,rfl⟩
 have hf:z.1<256:=by rw[<-hz5];exact qunn _
 obtain⟨f,x5⟩:=z;obtain⟨z,hz6⟩:∃z,x5.num 2=z:=⟨_,rfl⟩
 have hk:z.1<65536:=by rw[<-hz6];exact q0ph _ 2 (by decide)
 obtain⟨k,x6⟩:=z;obtain⟨z,hz7⟩:∃z,x6.props v 1=z:=⟨_,rfl⟩
 obtain⟨L,x7⟩:=z;obtain⟨z,hz8⟩:∃z,x7.text=z:=⟨_,rfl⟩
 obtain⟨ct,x8⟩:=z;obtain⟨z,hz9⟩:∃z,x8.optP (f / 4%2==1) v 16=z:=⟨_,rfl⟩
 obtain⟨Lw,x9⟩:=z;obtain⟨z,hz10⟩:∃z,x9.optT (f / 4%2==1)=z:=⟨_,rfl⟩
 obtain⟨wt,x10⟩:=z;obtain⟨z,hz11⟩:∃z,x10.optB (f / 4%2==1)=z:=⟨_,rfl⟩
 obtain⟨wd,x11⟩:=z;obtain⟨z,hz12⟩:∃z,x11.optT (f / 128%2==1)=z:=⟨_,rfl⟩
 obtain⟨us,x12⟩:=z;obtain⟨z,hz13⟩:∃z,x12.optB (f / 64%2==1)=z:=⟨_,rfl⟩
 obtain⟨pa,x13⟩:=z;rw[qy6q v x hz5 hz6 hz7 hz8 hz9 hz10 hz11 hz12 hz13];have TK:=fun W (h:CsAt W cb s x)=>qgtr 6 hm h;have R1:=fun W (h:CsAt W cb s (x.take 6).2)=>qr75 (v:=v) ((bs (x.take 6).1).toList==[0,4,77,81,84,84]) 5 h;rw[qu7y] at R1;obtain⟨b1,hb1⟩:∃b,((bs (x.take 6).1).toList==[0,4,77,81,84,84])=b:=⟨_,rfl⟩
 rw[hb1] at R1;generalize x.name=x2 at *;generalize x.take 6=t6 at *;obtain⟨T,x1⟩:=t6;have OC:=fun W (h:CsAt W cb s x2)=>qevs (v:=v) hm h;have R2:=fun W (h:CsAt W cb s (x2.num 1).2)=>qr75 (v:=v) ((((x2.num 1).1:Nat):Int)==v) 5 h;rw[q11j] at R2;obtain⟨b2,hb2⟩:∃b,((((x2.num 1).1:Nat):Int)==v)=b:=⟨_,rfl⟩
 rw[hb2] at R2;generalize x2.vers v=x4 at *;generalize x2.num 1=n1 at *;obtain⟨nv,x3⟩:=n1;have FL:=fun W (h:CsAt W cb s x4)=>qb3g (v:=v) hm h;have NM:=fun W (h:CsAt W cb s x5)=>q8yf 2 (by decide) hm h;have PR:=fun W (h:CsAt W cb s x6)=>q5sz (v:=v) 1 (by decide) (by decide) hm h;have TX:=fun W (h:CsAt W cb s x7)=>qt5a (v:=v) hm h;rw[hz5] at FL;rw[hz6] at NM;rw[hz7] at PR;rw[hz8] at TX;have WP:=fun W (h:CsAt W cb s x8)=>q5sz (v:=v) 16 (by decide) (by decide) hm h;have WT:=fun W (h:CsAt W cb s x9)=>qt5a (v:=v) hm h;have WD:=fun W (h:CsAt W cb s x10)=>q932 (v:=v) hm h;have UT:=fun W (h:CsAt W cb s x11)=>qt5a (v:=v) hm h;have PD:=fun W (h:CsAt W cb s x12)=>q932 (v:=v) hm h;unfold q8ku at FL;simp only at hf hk ⊢ FL NM PR TX;generalize (f / 2%2==1)=cl at *;generalize (f / 128%2==1)=hu at *;generalize (f / 64%2==1)=ha at *;generalize (f / 4%2==1)=hw at *;generalize (f / 32%2==1)=re at *;generalize ((f / 8%4:Nat):Int)=q at *;have hk0:(0:Int)<=k:=by omega
 have hk1:(k:Int)<65536:=by omega
 obtain⟨D,hD⟩:∃D,pkC (qvmk cl hu ha hw re q) adZ=D:=⟨_,rfl⟩
 have hD1:=qwmp (qvmk cl hu ha hw re q) adZ;have hD2:=qmz0 (qvmk cl hu ha hw re q) adZ;rw[hD] at hD1 hD2 FL;have HD:=hid hD;have HD1:=hid hD1;have HD2:=hid hD2;have HZ:=hid qbwp;have hzv:=qrai;have hne:¬pkZ=#[]:=by intro h;have:=qbwp;rw[h] at this;cases this
 have TK:=hid TK;have R1:=hid R1;have OC:=hid OC;have R2:=hid R2;have FL:=hid FL;have NM:=hid NM;have PR:=hid PR;have TX:=hid TX;have WP:=hid WP;have WT:=hid WT;have WD:=hid WD;have UT:=hid UT;have PD:=hid PD;have Z9:=hid hz9;have Z10:=hid hz10;have Z11:=hid hz11;have Z12:=hid hz12;have Z13:=hid hz13;have B1:=hid hb1;have B2:=hid hb2;unfold rdrV at *;clear hf hk h hD hD1 hD2 hz5 hz6 hz7 hz8 hz9 hz10 hz11 hz12 hz13 hb1 hb2;go_in
 go_upto_region 1 with fail
 refine qjsk (S:=fun u W=>match u with
  |(false,false)=>RkS w cb s v x W
  |(true,false)=>RkS w cb s v x1 W
  |(true,true)=>RkS w cb s v x2 W
  |(false,true)=>False) (B:=w.heap.size) (t:=bs T) (b:=b1) S0.out.drew (fun u W h=>by obtain⟨u1,u2⟩:=u;cases u1<;>cases u2<;>first|exact h.c0|exact h.elim) (fun u W h=>by obtain⟨u1,u2⟩:=u;cases u1<;>cases u2<;>first|exact h.c1|exact h.elim) B1.out
  (fun u W h hu=>by
   obtain⟨u1,u2⟩:=u;cases hu;cases u2
   ·exact(TK.out W h.cs).mono fun e w' ⟨he,hc,hg⟩=>⟨he,h.call hc hg⟩
   ·exact h.elim)
  (fun u W h hu1 hu2=>by obtain⟨u1,u2⟩:=u;cases hu1;cases hu2;exact(R1.out W h.cs).mono fun e w' ⟨he,hc,hg⟩=>⟨he,h.call hc hg⟩) ?_
 intro W1 hS;have S1:=hid (show RkS w cb s v x2 W1 from hS);clear hS
 go_upto_region 2 with fail
 refine q2os (S:=fun u W=>match u with
  |(false,false)=>RkS w cb s v x2 W
  |(true,false)=>RkS w cb s v x3 W
  |(true,true)=>RkS w cb s v x4 W
  |(false,true)=>False) (B:=w.heap.size) (n:=(nv:Int)) (b:=b2) S1.out.drew (fun u W h=>by obtain⟨u1,u2⟩:=u;cases u1<;>cases u2<;>first|exact h.c0|exact h.elim) (fun u W h=>by obtain⟨u1,u2⟩:=u;cases u1<;>cases u2<;>first|exact h.c1|exact h.elim) B2.out
  (fun u W h hu=>by
   obtain⟨u1,u2⟩:=u;cases hu;cases u2
   ·exact(OC.out W h.cs).mono fun e w' ⟨he,hc,hg⟩=>⟨he,h.call hc hg⟩
   ·exact h.elim)
  (fun u W h hu1 hu2=>by obtain⟨u1,u2⟩:=u;cases hu1;cases hu2;exact(R2.out W h.cs).mono fun e w' ⟨he,hc,hg⟩=>⟨he,h.call hc hg⟩) ?_
 intro W2 hS;have S2:=hid (show RkS w cb s v x4 W2 from hS);clear hS;have c0:=S2.out.c0;have c1:=S2.out.c1;go_wp2_with fail;refine(FL.out _ S2.out.cs).mono ?_;rintro e W3 ⟨rfl,hc,hg⟩;have S3:=hid (S2.out.call hc hg);clear hc hg c0 c1;have SP:=hid (ReS.laid S3.out HD.out rfl rfl);have c0:=SP.out.rk.c0;have c1:=SP.out.rk.c1;go_wp2_with (first
  |(refine wpList_store_row rfl _ _ _ rfl W3.heap.size D rfl rfl 32 _ (heap_alloc_new W3 _) (by rw[HD1.out];exact q5nr) (by rw[HZ.out,HD1.out]) HD2.out ?_))
 refine(NM.out _ SP.out.rk.cs).mono ?_;rintro e W4 ⟨rfl,hc,hg⟩;have S4:=hid (SP.out.call hc hg);clear hc hg c0 c1;generalize W3.heap.size=B at *;have S5:=hid (S4.out.put 8 (.int .i64 (k:Int)) (P':={(qvmk cl hu ha hw re q) with keep:=(k:Int)}) rfl rfl rfl);have n8:W4.cell? ⟨B,8,none⟩=some (.int .i64 0):=S4.out.cell 8;have f8:=S4.out.fr 8;have c0:=S5.out.rk.c0;have c1:=S5.out.rk.c1;go_wp2_with fail;clear n8 f8;refine(PR.out _ S5.out.rk.cs).mono ?_;rintro e W6 ⟨⟨A,cc,rfl,hl,hP,hA⟩,ok,h1000,hc,hg⟩;have hBW:=lt_of_block S5.out.pk;have S6:=hid (S5.out.call hc hg);have S7:=hid (S6.out.putPs hP hl (fun g i e=>Nat.lt_trans hBW (hA g i e)));clear hc hg c0 c1 hP hl hA hBW ok h1000;have n24:W6.cell? ⟨B,24,none⟩=some (.slice none 0 0):=S6.out.cell 24;have f24:=S6.out.fr 24;have c0:=S7.out.rk.c0;have c1:=S7.out.rk.c1;go_wp2_with fail;clear n24 f24;refine(TX.out _ S7.out.rk.cs).mono ?_;rintro e W8 ⟨rfl,hc,hg⟩;have S8:=hid (show ReS w cb s v B x8 {(qvmk cl hu ha hw re q) with keep:=(k:Int),props:=L} {adZ with ps:=A,pc:=cc} W8 from S7.out.call hc hg);clear hc hg c0 c1;have S9:=hid (S8.out.put 9 (.string (bs ct)) (P':={(qvmk cl hu ha hw re q) with keep:=(k:Int),props:=L,client:=ct}) rfl rfl rfl);have n9:W8.cell? ⟨B,9,none⟩=some (.string ⟨#[]⟩):=S8.out.cell 9;have f9:=S8.out.fr 9;have k14:(W8.setCell ⟨B,9,none⟩ (.string (bs ct))).cell? ⟨B,14,none⟩=some (.bool hw):=S9.out.cell 14
 go_upto_if 31 with fail
 clear n9 f9;generalize W8.setCell ⟨B,9,none⟩ (.string (bs ct))=W9 at *;go_cut [] (fun wx=>∃a2,ReS w cb s v B x11 {(qvmk cl hu ha hw re q) with keep:=(k:Int),props:=L,client:=ct,wProps:=Lw,wTopic:=wt,wPayload:=wd} a2 wx)
 case first=>
  cases hw with
  |false=>
   have z9:x8.optP false v 16=(Lw,x9):=Z9.out;have z10:x9.optT false=(wt,x10):=Z10.out;have z11:x10.optB false=(wd,x11):=Z11.out;obtain⟨rfl,rfl⟩:=Prod.mk.inj z9;obtain⟨rfl,rfl⟩:=Prod.mk.inj z10;obtain⟨rfl,rfl⟩:=Prod.mk.inj z11;have SF:=hid S9.out;go_wp2_with fail
   go_meet
   exact⟨{adZ with ps:=A,pc:=cc},SF.out⟩
  |true=>
   have WPx:=fun W h=>WP.out W h;have WTx:=fun W h=>WT.out W h;have WDx:=fun W h=>WD.out W h;rw[show x8.props v 16=(Lw,x9) from Z9.out] at WPx;rw[show x9.text=(wt,x10) from Z10.out] at WTx;rw[show x10.bin=(wd,x11) from Z11.out] at WDx;have WPx:=hid WPx;have WTx:=hid WTx;have WDx:=hid WDx;have c0:=S9.out.rk.c0;have c1:=S9.out.rk.c1;go_wp2_with fail;refine(WPx.out _ S9.out.rk.cs).mono ?_;rintro e W10 ⟨⟨A2,cc2,rfl,hl,hP,hA⟩,ok,h1000,hc,hg⟩;have hBW:=lt_of_block S9.out.pk;have S10:=hid (S9.out.call hc hg);have S11:=hid (S10.out.putWs hP hl (fun g i e=>Nat.lt_trans hBW (hA g i e)));clear hc hg c0 c1 hP hl hA hBW ok h1000 k14;have n19:W10.cell? ⟨B,19,none⟩=some (.slice none 0 0):=S10.out.cell 19;have f19:=S10.out.fr 19;have c0:=S11.out.rk.c0;have c1:=S11.out.rk.c1;go_wp2_with fail;clear n19 f19;refine(WTx.out _ S11.out.rk.cs).mono ?_;rintro e W12 ⟨rfl,hc,hg⟩;have S12:=hid (show ReS w cb s v B x10 {(qvmk cl hu ha true re q) with keep:=(k:Int),props:=L,client:=ct,wProps:=Lw} {adZ with ps:=A,pc:=cc,w:=A2,wc:=cc2} W12 from S11.out.call hc hg);clear hc hg c0 c1;have S13:=hid (S12.out.put 15 (.string (bs wt)) (P':={(qvmk cl hu ha true re q) with keep:=(k:Int),props:=L,client:=ct,wProps:=Lw,wTopic:=wt}) rfl rfl rfl);have n15:W12.cell? ⟨B,15,none⟩=some (.string ⟨#[]⟩):=S12.out.cell 15;have f15:=S12.out.fr 15;have c0:=S13.out.rk.c0;have c1:=S13.out.rk.c1;go_wp2_with fail;clear n15 f15;refine(WDx.out _ S13.out.rk.cs).mono ?_;rintro e W14 ⟨rfl,hc,hg⟩;have S14:=hid (S13.out.call hc hg);clear hc hg c0 c1;have S15:=hid (S14.out.put 16 (.string (bs wd)) (P':={(qvmk cl hu ha true re q) with keep:=(k:Int),props:=L,client:=ct,wProps:=Lw,wTopic:=wt,wPayload:=wd}) rfl rfl rfl);have n16:W14.cell? ⟨B,16,none⟩=some (.string ⟨#[]⟩):=S14.out.cell 16;have f16:=S14.out.fr 16;go_wp2_with fail
   go_meet
   exact⟨{adZ with ps:=A,pc:=cc,w:=A2,wc:=cc2},S15.out⟩
 case rest=>
  obtain⟨a2,hS⟩:=hcut;have S16:=hid hS;clear hS k14;have k10:wc.cell? ⟨B,10,none⟩=some (.bool hu):=S16.out.cell 10
  go_upto_if 45 with fail
  go_cut [] (fun wx=>ReS w cb s v B x12 {(qvmk cl hu ha hw re q) with keep:=(k:Int),props:=L,client:=ct,wProps:=Lw,wTopic:=wt,wPayload:=wd,user:=us} a2 wx)
  case first=>
   cases hu with
   |false=>
    have z12:x11.optT false=(us,x12):=Z12.out;obtain⟨rfl,rfl⟩:=Prod.mk.inj z12;have SF:=hid S16.out;go_wp2_with fail
    go_meet
    exact SF.out
   |true=>
    have UTx:=fun W h=>UT.out W h;rw[show x11.text=(us,x12) from Z12.out] at UTx;have UTx:=hid UTx;have c0:=S16.out.rk.c0;have c1:=S16.out.rk.c1;go_wp2_with fail;refine(UTx.out _ S16.out.rk.cs).mono ?_;rintro e W12 ⟨rfl,hc,hg⟩;have S17:=hid (S16.out.call hc hg);clear hc hg c0 c1 k10;have S18:=hid (S17.out.put 11 (.string (bs us)) (P':={(qvmk cl true ha hw re q) with keep:=(k:Int),props:=L,client:=ct,wProps:=Lw,wTopic:=wt,wPayload:=wd,user:=us}) rfl rfl rfl);have n11:W12.cell? ⟨B,11,none⟩=some (.string ⟨#[]⟩):=S17.out.cell 11;have f11:=S17.out.fr 11;go_wp2_with fail
    go_meet
    exact S18.out
  case rest=>
   clear k10 S16;have S16:=hid hcut;clear hcut;have k12:wc.cell? ⟨B,12,none⟩=some (.bool ha):=S16.out.cell 12
   go_upto_if 50 with fail
   go_cut [] (fun wx=>ReS w cb s v B x13 {(qvmk cl hu ha hw re q) with keep:=(k:Int),props:=L,client:=ct,wProps:=Lw,wTopic:=wt,wPayload:=wd,user:=us,pass:=pa} a2 wx)
   case first=>
    cases ha with
    |false=>
     have z13:x12.optB false=(pa,x13):=Z13.out;obtain⟨rfl,rfl⟩:=Prod.mk.inj z13;have SF:=hid S16.out;go_wp2_with fail
     go_meet
     exact SF.out
    |true=>
     have PDx:=fun W h=>PD.out W h;rw[show x12.bin=(pa,x13) from Z13.out] at PDx;have PDx:=hid PDx;have c0:=S16.out.rk.c0;have c1:=S16.out.rk.c1;go_wp2_with fail;refine(PDx.out _ S16.out.rk.cs).mono ?_;rintro e W12 ⟨rfl,hc,hg⟩;have S17:=hid (S16.out.call hc hg);clear hc hg c0 c1 k12;have S18:=hid (S17.out.put 13 (.string (bs pa)) (P':={(qvmk cl hu true hw re q) with keep:=(k:Int),props:=L,client:=ct,wProps:=Lw,wTopic:=wt,wPayload:=wd,user:=us,pass:=pa}) rfl rfl rfl);have n13:W12.cell? ⟨B,13,none⟩=some (.string ⟨#[]⟩):=S17.out.cell 13;have f13:=S17.out.fr 13;go_wp2_with fail
     go_meet
     exact S18.out
   case rest=>
    clear k12 S16;have SX:=hid hcut;clear hcut;have G6:=SX.out.pk;have hE1:=qwmp {(qvmk cl hu ha hw re q) with keep:=(k:Int),props:=L,client:=ct,wProps:=Lw,wTopic:=wt,wPayload:=wd,user:=us,pass:=pa} a2;have hE2:=qmz0 {(qvmk cl hu ha hw re q) with keep:=(k:Int),props:=L,client:=ct,wProps:=Lw,wTopic:=wt,wPayload:=wd,user:=us,pass:=pa} a2;have GR:=hid SX.out.rk.rs;have RT:=SX.out.ret (pkC {(qvmk cl hu ha hw re q) with keep:=(k:Int),props:=L,client:=ct,wProps:=Lw,wTopic:=wt,wPayload:=wd,user:=us,pass:=pa} a2);obtain⟨E,hE⟩:∃E,pkC {(qvmk cl hu ha hw re q) with keep:=(k:Int),props:=L,client:=ct,wProps:=Lw,wTopic:=wt,wPayload:=wd,user:=us,pass:=pa} a2=E:=⟨_,rfl⟩
    change q563 w cb s _ _ (.returned (.agg (pkC {(qvmk cl hu ha hw re q) with keep:=(k:Int),props:=L,client:=ct,wProps:=Lw,wTopic:=wt,wPayload:=wd,user:=us,pass:=pa} a2))) _ at RT;change _=some (Obj.cells (pkC {(qvmk cl hu ha hw re q) with keep:=(k:Int),props:=L,client:=ct,wProps:=Lw,wTopic:=wt,wPayload:=wd,user:=us,pass:=pa} a2) _ _) at G6;rw[hE] at hE1 hE2 G6 RT;have HE1:=hid hE1;have HE2:=hid hE2;have G6:=hid G6;have RT:=hid RT;clear hE1 hE2 hE;go_wp2_with (first
     |(refine wpList_load_row rfl _ _ rfl B rfl 32 E (0,0) _ G6.out underlying32 rfl (by rw[HE1.out];exact q5nr) ?_)
     |(refine wpList_store_row rfl _ _ _ rfl (w.heap.size+1) E rfl rfl 32 _ GR.out (by rw[HE1.out];exact q5nr) (by rw[HZ.out,HE1.out]) HE2.out ?_))
    exact q7wi (cs:=E) rfl rfl rfl underlying32 rfl (by rw[HE1.out];exact q5nr) (setRow_heap _ _ _ _ _ _ GR.out) RT.out
end
end Go.Proofs.YtombgnfedafkjaaGreatDoor
namespace Go.Proofs.YtombgnfedafkjaaGreatDoor
open Lib(hid)
open Proofs.Tryz
theorem qz3k(x:Cs):x.text.1.length<=65535:=by
 unfold Cs.text;split
 ·exact Nat.zero_le _
 ·exact(qslt _).2
theorem qlbc(x:Cs):x.bin.1.length<=65535:=by
 unfold Cs.bin;split
 ·exact Nat.zero_le _
 ·exact(q3gm _).2
theorem qsam(x:Cs)(b:Bool):(x.optT b).1.length<=65535:=by
 cases b
 ·exact Nat.zero_le _
 ·exact qz3k x
theorem qea9(x:Cs)(b:Bool):(x.optB b).1.length<=65535:=by
 cases b
 ·exact Nat.zero_le _
 ·exact qlbc x
theorem qwpw(x:Cs)(b:Bool)(v kind:Int):(∀p∈(x.optP b v kind).1,PrOk p/\p.text.length<=65535/\p.value.length<=65535)/\(x.optP b v kind).1.length<=1000:=by
 cases b
 ·exact⟨fun p hp=>(nomatch hp),Nat.zero_le _⟩
 ·exact q5pm x v kind
def FitP(p:Pk):Prop:=PkOk p/\q21o p/\(-9223372036854775808<=p.wQos/\p.wQos<=9223372036854775807)/\p.codes=[]/\p.filters=[]
theorem qknl:FitP Pk.zero:=by
 refine⟨⟨by decide,by decide,fun t ht=>?_,fun x hx=>(nomatch hx),fun x hx=>(nomatch hx),fun x hx=>(nomatch hx)⟩,⟨by decide,by decide,by decide,by decide⟩,by decide,rfl,rfl⟩
 have:t=[]:=by simpa [Pk.texts,Pk.zero] using ht
 rw[this];decide
theorem q553(v:Int)(x:Cs):FitP (qnld v x).1:=by
 obtain⟨c,hc⟩:∃c,(x.name.vers v).flags v=c:=⟨_,rfl⟩
 obtain⟨d,hd⟩:∃d,c.2.num 2=d:=⟨_,rfl⟩
 obtain⟨p,hp⟩:∃p,d.2.props v 1=p:=⟨_,rfl⟩
 obtain⟨q,hq⟩:∃q,p.2.text=q:=⟨_,rfl⟩
 obtain⟨wp,hwp⟩:∃x,q.2.optP (c.1 / 4%2==1) v 16=x:=⟨_,rfl⟩
 obtain⟨wt,hwt⟩:∃x,wp.2.optT (c.1 / 4%2==1)=x:=⟨_,rfl⟩
 obtain⟨wd,hwd⟩:∃x,wt.2.optB (c.1 / 4%2==1)=x:=⟨_,rfl⟩
 obtain⟨us,hus⟩:∃x,wd.2.optT (c.1 / 128%2==1)=x:=⟨_,rfl⟩
 obtain⟨ps,hps⟩:∃x,us.2.optB (c.1 / 64%2==1)=x:=⟨_,rfl⟩
 rw[qy6q v x hc hd hp hq hwp hwt hwd hus hps];have f1:=q5pm d.2 v 1;have f2:=qz3k p.2;have f3:=qwpw q.2 (c.1 / 4%2==1) v 16;have f4:=qsam wp.2 (c.1 / 4%2==1);have f5:=qea9 wt.2 (c.1 / 4%2==1);have f6:=qsam wd.2 (c.1 / 128%2==1);have f7:=qea9 us.2 (c.1 / 64%2==1);rw[hp] at f1;rw[hq] at f2;rw[hwp] at f3;rw[hwt] at f4;rw[hwd] at f5;rw[hus] at f6;rw[hps] at f7;refine⟨⟨⟨by simp,by simp⟩,⟨by simp[Pk.zero],by simp[Pk.zero]⟩,fun t ht=>?_,fun y hy=>?_,fun y hy=>?_,fun y hy=>(nomatch hy)⟩,⟨by simp[Pk.zero],by simp[Pk.zero],by simp;omega,by simp;omega⟩,⟨by simp;omega,by simp;omega⟩,rfl,rfl⟩
 ·simp only[Pk.texts,List.mem_cons,List.not_mem_nil,or_false] at ht;rcases ht with rfl|rfl|rfl|rfl|rfl|rfl|rfl
  ·exact Nat.zero_le _
  ·exact Nat.zero_le _
  ·exact Nat.le_trans f2 (by decide)
  ·exact Nat.le_trans f6 (by decide)
  ·exact Nat.le_trans f7 (by decide)
  ·exact Nat.le_trans f4 (by decide)
  ·exact Nat.le_trans f5 (by decide)
 ·obtain⟨a,b,c⟩:=f3.1 y hy;exact⟨a,by omega,by omega⟩
 ·obtain⟨a,b,c⟩:=f1.1 y hy;exact⟨a,by omega,by omega⟩
theorem qx14(v:Int)(x:Cs):FitP (qx6n v x).1:=by
 obtain⟨a,ha⟩:∃a,x.num 1=a:=⟨_,rfl⟩
 obtain⟨b,hb⟩:∃b,(if a.1 > 1 then a.2.fail 7 else a.2).num 1=b:=⟨_,rfl⟩
 obtain⟨p,hp⟩:∃p,b.2.props v 2=p:=⟨_,rfl⟩
 have e:qx6n v x=({Pk.zero with kind:=2,session:=a.1==1,code:=b.1,props:=p.1},p.2):=by subst ha hb hp;rfl
 rw[e];have f1:=q5pm b.2 v 2;rw[hp] at f1;refine⟨⟨⟨by simp,by simp⟩,⟨by simp[Pk.zero],by simp[Pk.zero]⟩,fun t ht=>?_,fun y hy=>(nomatch hy),fun y hy=>?_,fun y hy=>(nomatch hy)⟩,⟨by simp[Pk.zero],by simp[Pk.zero],by simp;omega,by simp[Pk.zero]⟩,⟨by simp[Pk.zero],by simp[Pk.zero]⟩,rfl,rfl⟩
 ·have:t=[]:=by simpa [Pk.texts,Pk.zero] using ht
  rw[this];decide
 ·obtain⟨a,b,c⟩:=f1.1 y hy;exact⟨a,by omega,by omega⟩
end Go.Proofs.YtombgnfedafkjaaGreatDoor
namespace Go.Proofs.YtombgnfedafkjaaGreatDoor
open Lib(hid)
open Proofs.Tryz
open Go.RowKit
structure KcS(w:World)(cb:Nat)(s:ByteArray)(B:Nat)(y:Cs)(P:Pk)(a:Ad)(W:World):Prop where
 low:Below w.heap.size w W
 rs:W.heap[w.heap.size]?=some (.cells pkZ 32 (0,0))
 lt:w.heap.size<cb
 hB:cb<B
 pk:W.heap[B]?=some (.cells (pkC P a) 32 (0,0))
 cs:CsAt W cb s y
 ps:PL W a.ps P.props
 pc:P.props.length<=a.pc
 pf:∀g i,a.ps=some ⟨g,i,none⟩->B<g
section
variable{w W W':World}{cb:Nat}{s:ByteArray}{x y y':Cs}{B:Nat}{P P':Pk}{a a':Ad}
theorem KcS.call(h:KcS w cb s B y P a W)(hc:CsAt W' cb s y')(hg:W.grownBy W' (some cb)):KcS w cb s B y' P a W':=by
 have lt:=h.lt;have hB:=h.hB;exact⟨h.low.grown hg h.low.size (fun k e=>by have:=Option.some.inj e;omega),(hg.block _ (lt_of_block h.rs) (fun e=>by have:=Option.some.inj e;omega)).trans h.rs,lt,hB,
  (hg.block _ (lt_of_block h.pk) (fun e=>by have:=Option.some.inj e;omega)).trans h.pk,hc,h.ps.grown hg (fun g i e=>by have:=h.pf g i e;omega),h.pc,h.pf⟩
theorem KcS.below(h:KcS w cb s B y P a W)(hb:Below W.heap.size W W'):KcS w cb s B y P a W':=h.call (h.cs.below hb) (q9cp hb _)
theorem KcS.draws(h:KcS w cb s B y P a W)(n:Nat):KcS w cb s B y P a (W.drewN n):=h.below (qnpu (Below.refl _ _) n)
theorem KcS.cell(h:KcS w cb s B y P a W)(j:Nat):W.cell? ⟨B,j,none⟩=(pkC P a)[j]? := cell_of_row _ _ j _ _ _ h.pk
theorem KcS.fr(h:KcS w cb s B y P a W)(j:Nat):W.frozen? ⟨B,j,none⟩=false:=frozen_of_row _ _ _ _ _ h.pk
theorem KcS.set(h:KcS w cb s B y P a W)(j:Nat)(u:Value)(he:(pkC P a).setIfInBounds j u=pkC P' a')(ps:PL W a'.ps P'.props)(pc:P'.props.length<=a'.pc)(pf:∀g i,a'.ps=some ⟨g,i,none⟩->B<g):KcS w cb s B y P' a' (W.setCell ⟨B,j,none⟩ u):=by
 have o:∀k,k≠B->(W.setCell ⟨B,j,none⟩ u).heap[k]?=W.heap[k]? := fun k hk=>heap_setCell_other W ⟨B,j,none⟩ k u hk;have lt:=h.lt;have hB:=h.hB;exact⟨h.low.setCell (by show _<=B;omega) u,(o _ (by omega)).trans h.rs,lt,hB,by have:=qlvy h.pk j u;rw[he] at this;exact this,h.cs.of_block (o _ (by omega)),
  ps.kept (q99v W B j u).size (fun g i e _=>o g (by have:=pf g i e;omega)),pc,pf⟩
theorem KcS.laid(low:Below w.heap.size w W)(rs:W.heap[w.heap.size]?=some (.cells pkZ 32 (0,0)))(lt:w.heap.size<cb)(cs:CsAt W cb s y){D:Array Value}(hD:pkC P adZ=D)(hp:P.props=[]):KcS w cb s W.heap.size y P adZ ((W.alloc (.cells pkZ 32)).setRow W.heap.size D):=by have hb:Below W.heap.size W ((W.alloc (.cells pkZ 32)).setRow W.heap.size D):=q8xz (qybm _) (Nat.le_refl _) D;refine⟨qxh2 low hb,(hb.block _ (lt_of_block rs)).trans rs,lt,cs.lt,by rw[hD];exact setRow_heap _ _ _ D _ _ (heap_alloc_new W _),cs.below hb,?_,by rw[hp];exact Nat.zero_le _,fun g i e=>(by cases e)⟩;rw[hp];exact PL.nil
end
def q300(l:List UInt8):Nat:=match l with|[]=>0|b::_=>b.toNat
def qs8t(kind:Int)(l:List UInt8):List Pr×Nat:=if l.tail=[] then([],0) else((qflw kind l.tail).1,(qflw kind l.tail).2.2)
theorem qiic(kind:Int)(l:List UInt8):q6u6 kind l=((q300 l,(qs8t kind l).1),(qs8t kind l).2):=by
 unfold q6u6 qs8t q300;cases l with
 |nil=>rfl
 |cons b t=>by_cases ht:t=[]<;>simp[ht]
theorem q69d(l:List UInt8):q300 l<256:=by
 unfold q300;cases l with
 |nil=>decide
 |cons b t=>exact b.toNat_lt
theorem qzp7(kind:Int)(l:List UInt8):endK kind l=((if (decide ((q4py (q300 l) (qs8t kind l).1 kind).length<l.length)) then((Cs.mk l.tail 0).fail (qs8t kind l).2).fail 5 else(Cs.mk l.tail 0).fail (qs8t kind l).2)).e:=by
 unfold endK;rw[qiic];simp only;generalize (qs8t kind l).2=f;by_cases h:(q4py (q300 l) (qs8t kind l).1 kind).length<l.length
 ·by_cases hf:f=0
  ·simp[Cs.fail,hf,h]
  ·simp[Cs.fail,hf,h]
 ·by_cases hf:f=0
  ·simp[Cs.fail,hf,h]
  ·simp[Cs.fail,hf,h]
def qv7v(w:World)(R:Pk×Nat)(e:Ending)(W:World):Prop:=
 ∃a:Ad,e=.returned (.tuple #[.agg (pkC R.1 a),.int .i64 (R.2:Nat)])/\PL W a.ps R.1.props/\R.1.props.length<=a.pc/\(∀g i,a.ps=some ⟨g,i,none⟩->w.heap.size<=g)/\Below w.heap.size w W
theorem qtnz(kind:Int)(s:ByteArray)(w:World)(hk0:-9223372036854775808<=kind)(hk1:kind<=9223372036854775807)(hm:s.size<=140737488351232) :
 Calls prog 123 #[.int .i64 kind,.string s] w (qv7v w (pkT kind (q6u6 kind s.data.toList).1.1 (q6u6 kind s.data.toList).1.2,endK kind s.data.toList)):=by
 rw[qzp7,qiic];simp only;have hm9:s.size<=9223372036854775807:=by omega
 have hsz:s.size=s.data.toList.length:=q4ad s;obtain⟨L,hL⟩:∃L,s.data.toList=L:=⟨_,rfl⟩
 rw[hL] at hsz ⊢;have hz:=q69d L;obtain⟨c,hc⟩:∃c,q300 L=c:=⟨_,rfl⟩
 rw[hc] at hz ⊢;obtain⟨⟨l,f⟩,hlf⟩:∃q,qs8t kind L=q:=⟨_,rfl⟩
 rw[hlf];simp only;obtain⟨dd,hdd⟩:∃d,decide ((q4py c l kind).length<L.length)=d:=⟨_,rfl⟩
 rw[hdd];obtain⟨Y2,hY2⟩:∃Y,(Cs.mk L.tail 0).fail f=Y:=⟨_,rfl⟩
 rw[hY2];obtain⟨Y,hY⟩:∃Y,(if dd=true then Y2.fail 5 else Y2)=Y:=⟨_,rfl⟩
 rw[hY];have HDD:=hid hdd;have HY2:=hid hY2;have HY:=hid hY;clear hdd hY2 hY;have LF:=hid (fun(cb:Nat) (z:Cs) W (h:CsAt W cb s z)=>qjtm hm9 h);have NM:=hid (fun(cb:Nat) (z:Cs) W (h:CsAt W cb s z)=>q8yf 1 (by decide) hm9 h);have RS:=hid (fun(cb:Nat) (z:Cs) W (h:CsAt W cb s z)=>qzrp hm9 h);have FL:=hid (fun(cb:Nat) (x:Cs) (g:Nat) W (h:CsAt W cb s x)=>qazj g h);have ER:=hid (fun(cb:Nat) (x:Cs) W (h:CsAt W cb s x)=>q3gp h);have NW:=hid (fun W=>q2gu s W);have hprs:∀p∈l,PrOk p:=by
  unfold qs8t at hlf;split at hlf
  ·cases hlf;exact fun p hp=>(nomatch hp)
  ·cases hlf;exact fun p hp=>((qdz1 _ _).1 p hp).1
 have TL:=hid (fun(A:Option Addr) (n cc:Nat) W (hl:PL W A l) (hn:l.length=n) (hc:n<=cc)=>qvrf c kind A n cc l W hk0 hk1 hl hn hc hprs);obtain⟨D,hD⟩:∃D,pkC (pkT kind 0 []) adZ=D:=⟨_,rfl⟩
 have HD1:=hid (by rw[<-hD];exact qwmp _ _:D.size=25);have HD2:=hid (by rw[<-hD];exact qmz0 _ _:D.all (·.oneCell')=true);have HD:=hid hD;have HZ:=hid qbwp;have hzv:=qrai;have hne:¬pkZ=#[]:=by intro h;have:=qbwp;rw[h] at this;cases this
 have RS0:=hid (heap_alloc_new w (.cells pkZ 32));have ZW:=hid (show(w.alloc (.cells pkZ 32)).heap.size=w.heap.size+1 by simp);have L0:=hid (qybm (w:=w) (.cells pkZ 32));have HL:=hid hL;have HC:=hid hc;have HLF:=hid hlf;have HS:=hid hsz;have HM:=hid hm;have HK:=hid (And.intro hk0 hk1);have HX:=hid hz;clear hD hL hc hlf hsz hm hm9 hk0 hk1 hz hprs;go_in;go_wp2_with fail;generalize w.alloc (.cells pkZ 32)=W0 at *;refine(NW.out _).mono ?_;rintro e W1 ⟨rfl,hcur,hb1,hz1⟩;have C1:=(show CsAt W1 W0.heap.size s ⟨L,0⟩ from⟨0,Nat.zero_le _,hcur,by simpa using HL.out⟩)
 replace C1:=hid C1;have L1:=hid (qxh2 L0.out hb1);have R1:=hid ((hb1.block _ (lt_of_block RS0.out)).trans RS0.out);have S1:=hid (KcS.laid L1.out R1.out (by rw[ZW.out];omega) C1.out HD.out rfl);clear hcur hb1 hz1 C1 L1 R1 RS0 L0 NW;generalize W0.heap.size=cb at *
 go_upto_region 3 with (first
  |(refine wpList_buildTo rfl 32 _ rfl (some _) rfl D (by rw[<-HD.out];kernel_rfl) ?_)
  |(refine wpList_store_row rfl _ _ _ rfl W1.heap.size D rfl rfl 32 _ (heap_alloc_new W1 _) (by rw[HD1.out];exact q5nr) (by rw[HZ.out,HD1.out]) HD2.out ?_))
 generalize W1.heap.size=B at *;generalize (W1.alloc (.cells pkZ 32)).setRow _ D=W2 at *;clear hzv hne;dsimp only[Act.put];obtain⟨g,hg⟩:∃g,decide ((0:Int)<((L.length:Nat):Int))=g:=⟨_,rfl⟩
 have LF1:Calls prog 77 #[.pointer (some ⟨cb,0,none⟩)] W2 fun e w'=>e=.returned (.int .i64 ((L.length:Nat):Int))/\KcS w cb s B ⟨L,0⟩ (pkT kind 0 []) adZ w':=
  (LF.out cb ⟨L,0⟩ W2 S1.out.cs).mono fun e w' ⟨he,n,hn⟩=>⟨he,hn▸S1.out.draws n⟩
 have HG:=hid hg;obtain⟨m,hmm⟩:∃m:Int,((L.length:Nat):Int)=m:=⟨_,rfl⟩
 rw[hmm] at LF1 hg;replace LF1:=hid LF1;clear hmm S1;go_wp2_with fail;refine(LF1.out).mono ?_;rintro e W3 ⟨rfl,hS⟩;have S2:=hid hS;clear hS LF1
 go_upto_if 17 with fail
 clear hg;go_cut [] (fun wx=>KcS w cb s B ⟨L.tail,0⟩ (pkT kind c []) adZ wx)
 case first=>
  have h1:=HG.out;have h2:=HC.out;cases L with
  |nil=>
   have h1:false=g:=by rw[<-h1];rfl
   subst h1;have h2:0=c:=h2;subst h2;go_wp2_with fail
   go_meet
   exact S2.out
  |cons b t=>
   have h1:true=g:=by rw[<-h1];exact(decide_eq_true (by simp only[List.length_cons];omega)).symm
   subst h1;have h2:b.toNat=c:=h2;have N1:=NM.out cb ⟨b::t,0⟩;rw[Cs.num_one,h2] at N1;replace N1:=hid N1;have hc2:(c:Int)<65536:=by have:=HX.out;omega
   have hw:IntKind.i64.wrap (c:Int)=(c:Int):=by rw[IntKind.wrap_i64];omega
   clear h2;go_wp2_with fail;refine(N1.out _ S2.out.cs).mono ?_;rintro e W4 ⟨rfl,hcs,hgr⟩;have S3:=hid (S2.out.call hcs hgr);have n21:W4.cell? ⟨B,21,none⟩=some (.int .i64 0):=S3.out.cell 21;have f21:=S3.out.fr 21;have S4:=hid (S3.out.set 21 (.int .i64 (c:Int)) (P':=pkT kind c []) (a':=adZ) rfl S3.out.ps S3.out.pc S3.out.pf);clear hcs hgr S2;go_wp2_with fail
   go_meet
   exact S4.out
 case rest=>
  have S3:=hid hcut;clear hcut S2 HG
  go_upto_region 5 with fail
  obtain⟨T,hT⟩:∃T,L.tail=T:=⟨_,rfl⟩
  have HLF2:(if T=[] then([],0) else((qflw kind T).1,(qflw kind T).2.2))=(l,f):=by rw[<-hT];exact HLF.out
  have HY2:=HY2.out;rw[hT] at S3 HY2;replace HY2:=hid HY2;replace HLF2:=hid HLF2;have hTl:T.length<=s.size:=by rw[<-hT,List.length_tail,HS.out];omega
  have HTL:=hid hTl;obtain⟨g,hg⟩:∃g,decide ((0:Int)<((T.length:Nat):Int))=g:=⟨_,rfl⟩
  have LF1:Calls prog 77 #[.pointer (some ⟨cb,0,none⟩)] wc fun e w'=>e=.returned (.int .i64 ((T.length:Nat):Int))/\KcS w cb s B ⟨T,0⟩ (pkT kind c []) adZ w':=
   (LF.out cb ⟨T,0⟩ wc S3.out.cs).mono fun e w' ⟨he,n,hn⟩=>⟨he,hn▸S3.out.draws n⟩
  have HG:=hid hg;clear m;obtain⟨m,hmm⟩:∃m:Int,((T.length:Nat):Int)=m:=⟨_,rfl⟩
  rw[hmm] at LF1 hg;replace LF1:=hid LF1;clear hmm S3 HLF hT hTl;go_wp2_with fail;refine(LF1.out).mono ?_;rintro e W4 ⟨rfl,hS⟩;have S4:=hid hS;clear hS LF1
  go_upto_if 24 with fail
  clear hg;go_cut [] (fun wx=>∃a,KcS w cb s B Y2 (pkT kind c l) a wx)
  case first=>
   have h1:=HG.out;have h3:=HLF2.out;cases g with
   |false=>
    have hn:T=[]:=by
     have:=of_decide_eq_false h1
     exact List.length_eq_zero_iff.1 (by omega)
    subst hn;have h3:([],0)=(l,f):=h3;cases h3;have hy:=HY2.out;subst hy;go_wp2_with fail
    go_meet
    exact⟨adZ,S4.out⟩
   |true=>
    have hn:¬T=[]:=by rintro rfl;exact absurd (of_decide_eq_true h1) (by decide)
    rw[if_neg hn] at h3;obtain⟨l',k,f',hq⟩:∃l k f,qflw kind T=(l,k,f):=⟨_,_,_,rfl⟩
    rw[hq] at h3;rw[show l'=l from congrArg Prod.fst h3,show f'=f from congrArg Prod.snd h3] at hq;clear h3;have R1:Calls prog 40 #[.pointer (some ⟨cb,0,none⟩)] W4 fun e w'=>e=.returned (.string (bs T))/\KcS w cb s B ⟨T,0⟩ (pkT kind c []) adZ w':=
     (RS.out cb ⟨T,0⟩ W4 S4.out.cs).mono fun e w' ⟨he,n,hn⟩=>⟨he,hn▸S4.out.draws n⟩
    have RD:=fun W=>q188 kind (bs T) l k f HK.out.1 HK.out.2 (by rw[q5zk];have:=HTL.out;have:=HM.out;omega) hq W;replace R1:=hid R1;replace RD:=hid RD;generalize bs T=X at *;clear h1 hn hq S4 HG;go_wp2_with fail;refine(R1.out).mono ?_;rintro e W5 ⟨rfl,hS⟩;have S5:=hid hS;clear hS R1;go_wp2_with fail;refine(RD.out _).mono ?_;rintro e W6 ⟨hb,A,cc,rfl,hc,hP,-,-,hA⟩;have S6:=hid (S5.out.below hb);have HP:=hid hP;have HCC:=hid hc;have HAA:=hid (fun g i (e:A=some ⟨g,i,none⟩)=>Nat.lt_of_lt_of_le (lt_of_block S5.out.pk) (hA g i e));clear hb hc hP hA S5 RD;go_wp2_with fail;refine(FL.out cb _ f _ S6.out.cs).mono ?_;rintro e W7 ⟨rfl,hcs,hgr⟩;have S7:=hid (S6.out.call hcs hgr);have P7:=hid (HP.out.grown hgr (fun g i e=>by have:=HAA.out g i e;have:=S6.out.hB;omega));have n24:W7.cell? ⟨B,24,none⟩=some (.slice none 0 0):=S7.out.cell 24;have f24:=S7.out.fr 24;have S8:=hid (S7.out.set 24 (.slice A l.length cc) (P':=pkT kind c l) (a':={adZ with ps:=A,pc:=cc}) rfl P7.out HCC.out HAA.out);clear hcs hgr S6;go_wp2_with fail
    go_meet
    rw[<-HY2.out];exact⟨_,S8.out⟩
  case rest=>
   obtain⟨a,hS⟩:=hcut;have S5:=hid hS;clear hS S4 HG HLF2 HY2 NM RS LF
   go_upto_region 9 with fail
   have TLa:Calls prog 121 #[.int .i64 c,.slice a.ps l.length a.pc,.int .i64 kind] wc fun e w'=>e=.returned (.string (bs (q4py c l kind)))/\KcS w cb s B Y2 (pkT kind c l) a w':=
    (TL.out a.ps l.length a.pc wc S5.out.ps rfl S5.out.pc).mono fun e w' ⟨he,hb⟩=>⟨he,S5.out.below hb⟩
   have k21:wc.cell? ⟨B,21,none⟩=some (.int .i64 c):=S5.out.cell 21;have k24:wc.cell? ⟨B,24,none⟩=some (.slice a.ps l.length a.pc):=S5.out.cell 24;have hxs:=q5zk (q4py c l kind);have hdd:=HDD.out;rw[<-hxs,<-HS.out] at hdd;generalize bs (q4py c l kind)=X at *;have hd2:decide ((X.size:Int)<(s.size:Int))=dd:=by rw[<-hdd];congr 1;simp
   have TLH:=hid TLa;clear TLa S5 hxs HDD TL;go_wp2_with fail;refine(TLH.out).mono ?_;rintro e W5 ⟨rfl,hS⟩;have S6:=hid hS;clear hS TLH k21 k24
   go_upto_if 47 with fail
   clear hdd hd2;go_cut [] (fun wx=>KcS w cb s B Y (pkT kind c l) a wx)
   case first=>
    cases dd with
    |true=>
     have FLa:=hid (FL.out cb Y2 5);go_wp2_with fail;refine(FLa.out _ S6.out.cs).mono ?_;rintro e W6 ⟨rfl,hcs,hgr⟩;have S7:=hid (S6.out.call hcs hgr);clear hcs hgr;go_wp2_with fail
     go_meet
     rw[<-HY.out];exact S7.out
    |false=>
     go_wp2_with fail
     go_meet
     rw[<-HY.out];exact S6.out
   case rest=>
    have S7:=hid hcut;clear hcut S6 FL HY;have hx:=qwmp (pkT kind c l) a;have hy:=qmz0 (pkT kind c l) a;have ER2:=hid (fun V (h:KcS w cb s B Y (pkT kind c l) a V)=>ER.out cb Y V h.cs);have RT:=hid (fun V (h:KcS w cb s B Y (pkT kind c l) a V)=>(show qv7v w (pkT kind c l,Y.e) (.returned (.tuple #[.agg (pkC (pkT kind c l) a),.int .i64 (Y.e:Nat)])) (V.setRow w.heap.size (pkC (pkT kind c l) a)) from
     ⟨a,rfl,h.ps.kept (by simp[World.setRow]) (fun g i e _=>setRow_other V w.heap.size g _ (by have:=h.pf g i e;have:=h.hB;have:=h.lt;omega)),h.pc,fun g i e=>by have:=h.pf g i e;have:=h.hB;have:=h.lt;omega,
      q8xz h.low (Nat.le_refl _) _⟩))
    have RS5:=hid (fun V (h:KcS w cb s B Y (pkT kind c l) a V)=>setRow_heap V w.heap.size _ (pkC (pkT kind c l) a) _ _ h.rs);obtain⟨C,hC⟩:∃C,pkC (pkT kind c l) a=C:=⟨_,rfl⟩
    rw[hC] at hx hy RT RS5;have HC1:=hid hx;have HC2:=hid hy;have HCC:=hid hC;clear hx hy hC
    go_upto_region 11 with fail
    refine qeqd (S:=KcS w cb s B Y (pkT kind c l) a) (b:=w.heap.size) (B:=B) (cb:=cb) (f:=(Y.e:Nat)) (C:=C) (S7.out.draws 1) HC1.out HC2.out (by have:=S7.out.hB;have:=S7.out.lt;omega) (fun V h=>by rw[<-HCC.out];exact h.pk) (fun V h=>⟨_,h.rs,qbwp⟩) (fun V h=>ER2.out V h) (fun V h=>ER.out cb Y _ (h.cs.of_block (setRow_other V w.heap.size cb _ (by have:=h.lt;omega)))) ?_;intro V h;have G:=hid (RS5.out V h);have RTV:=hid (RT.out V h);clear h RT RS5;go_wp2_with fail;exact q8iy (cs:=C) rfl rfl rfl rfl underlying32 rfl (by rw[HC1.out];exact q5nr) G.out RTV.out
structure KtS(w:World)(B:Nat)(P:Pk)(a:Ad)(W:World):Prop where
 low:Below w.heap.size w W
 rs:W.heap[w.heap.size]?=some (.cells pkZ 32 (0,0))
 hB:w.heap.size<B
 pk:W.heap[B]?=some (.cells (pkC P a) 32 (0,0))
 at_:PkAt W P a
 pf:∀g i,a.ps=some ⟨g,i,none⟩->w.heap.size<g
theorem KtS.call{w W W':World}{B:Nat}{P:Pk}{a:Ad}(h:KtS w B P a W)(hb:Below W.heap.size W W'):KtS w B P a W':=
 ⟨qxh2 h.low hb,(hb.block _ (lt_of_block h.rs)).trans h.rs,h.hB,(hb.block _ (lt_of_block h.pk)).trans h.pk,h.at_.below hb,h.pf⟩
theorem qh4e{kind:Int}(hk:-9223372036854775808<=kind/\kind<=9223372036854775807)(l:List UInt8):FitA (pkT kind (q6u6 kind l).1.1 (q6u6 kind l).1.2):=by
 refine q0yw hk ?_;rw[qiic];unfold qs8t;split
 ·exact⟨fun p hp=>(nomatch hp),Nat.zero_le _⟩
 ·exact qdz1 _ _
theorem quz6(s:ByteArray):(s.toList==[])=decide (s.data.toList=[]):=by rw[qrze];cases s.data.toList<;>simp
theorem q3lt(v kind:Int)(s:ByteArray)(w:World)(hk0:-9223372036854775808<=kind)(hk1:kind<=9223372036854775807)(hm:s.size<=140737488351232) :
 Calls prog 75 #[.int .i64 v,.int .i64 kind,.string s] w (q2da w (qf4x v kind s.data.toList)):=by
 have HZ:=hid qbwp;have hzv:=qrai;have hne:¬pkZ=#[]:=by intro h;have:=qbwp;rw[h] at this;cases this
 have PZ:Hid (pkZ.all (·.oneCell')=true):=hid (qmz0 Pk.zero adZ);have RZ:=hid (fun(e:Nat) W (hb:Below w.heap.size w W)=>(show q2da w (Pk.zero,e) (.returned (.tuple #[.agg pkZ,.int .i64 (e:Nat)])) (W.setRow w.heap.size pkZ) from⟨adZ,rfl,qa3p _,Nat.zero_le _,qkys,q8xz hb (Nat.le_refl _) _,fun _=>rfl,q16x w⟩));rw[q54j];have TA:=hid (fun W=>qkgb v kind W hk0 hk1);have R0:=heap_alloc_new w (.cells pkZ 32);have L0:=qybm (w:=w) (.cells pkZ 32);have S0:=hid (And.intro L0 R0);have ST:=hid (fun W W' (h:Below w.heap.size w W/\W.heap[w.heap.size]?=some (.cells pkZ 32 (0,0))) (hb:Below W.heap.size W W')=>(⟨qxh2 h.1 hb,(hb.block _ (lt_of_block h.2)).trans h.2⟩:Below w.heap.size w W'/\W'.heap[w.heap.size]?=some (.cells pkZ 32 (0,0))));clear R0 L0;obtain⟨⟨tl,q0⟩,hT⟩:∃t,qyjk v kind=t:=⟨_,rfl⟩
 rw[hT] at TA ⊢;simp only at TA ⊢;clear hT;by_cases hq:q0=0
 ·subst hq;rw[if_neg (by simp)];by_cases hb0:tl=false/\s.data.toList≠[]
  ·rw[if_pos hb0];obtain⟨rfl,hl⟩:=hb0;have h1:(s.toList==[])=false:=by rw[quz6];exact decide_eq_false hl
   have h2:(s.toList != [])=true:=by rw[bne,h1];rfl
   clear hl hm hk0 hk1;go_in;go_wp2_with fail;refine(TA.out _).mono ?_;rintro e W ⟨rfl,hb⟩;have S1:=hid (ST.out _ _ S0.out hb);clear hb S0;go_wp2_with (first
    |(refine wpList_buildTo rfl 32 _ rfl (some _) rfl pkZ (by kernel_rfl) ?_)
    |(refine wpList_store_row rfl _ _ _ rfl w.heap.size pkZ rfl rfl 32 _ S1.out.2 (by rw[HZ.out];exact q5nr) rfl PZ.out ?_))
   refine q8iy (cs:=pkZ) rfl rfl rfl rfl underlying32 rfl (by rw[HZ.out];exact q5nr) (setRow_heap _ _ _ _ _ _ S1.out.2) ?_;exact RZ.out 5 _ S1.out.1
  rw[if_neg hb0];have hg:tl=true\/tl=false/\(s.toList==[])=true/\(s.toList != [])=false:=by
   cases tl with
   |true=>exact .inl rfl
   |false=>
    have hl:s.data.toList=[]:=by
     by_cases h:s.data.toList=[]
     ·exact h
     ·exact absurd ⟨rfl,h⟩ hb0
    have h1:(s.toList==[])=true:=by rw[quz6];exact decide_eq_true hl
    exact .inr ⟨rfl,h1,by rw[bne,h1];rfl⟩
  have RD:=hid (fun W=>qtnz kind s W hk0 hk1 hm);have FI:=hid (qh4e ⟨hk0,hk1⟩ s.data.toList);have VA:=hid (fun a W (h:PkAt W (pkT kind (q6u6 kind s.data.toList).1.1 (q6u6 kind s.data.toList).1.2) a) (hc:(pkT kind (q6u6 kind s.data.toList).1.1 (q6u6 kind s.data.toList).1.2).props.length<=a.pc)=>qcuz v _ a W h FI.out.2 FI.out.1 hc);have NL:=hid (show(pkT kind (q6u6 kind s.data.toList).1.1 (q6u6 kind s.data.toList).1.2).wProps=[]/\(pkT kind (q6u6 kind s.data.toList).1.1 (q6u6 kind s.data.toList).1.2).codes=[]/\(pkT kind (q6u6 kind s.data.toList).1.1 (q6u6 kind s.data.toList).1.2).filters=[] from⟨rfl,rfl,rfl⟩);have PT:=hid (fun W a (h:PL W a.ps (pkT kind (q6u6 kind s.data.toList).1.1 (q6u6 kind s.data.toList).1.2).props)=>(⟨fun e=>absurd rfl e,fun e=>absurd rfl e,fun e=>absurd rfl e,h⟩:PkAt W (pkT kind (q6u6 kind s.data.toList).1.1 (q6u6 kind s.data.toList).1.2) a));generalize pkT kind (q6u6 kind s.data.toList).1.1 (q6u6 kind s.data.toList).1.2=P at *;generalize endK kind s.data.toList=f at *;generalize q1ra v P=q at *;obtain⟨R,hR⟩:∃R,(if (if f≠0 then f else q)≠0 then(Pk.zero,(if f≠0 then f else q)) else(P,0))=R:=⟨_,rfl⟩
  rw[hR];have HR:=hid hR;clear hb0 hR hm hk0 hk1;rcases hg with rfl|⟨rfl,h1,h2⟩
  all_goals
   go_in;go_wp2_with fail;refine(TA.out _).mono ?_;rintro e W ⟨rfl,hb⟩;have S1:=hid (ST.out _ _ S0.out hb);clear hb S0;go_wp2_with fail;refine(RD.out _).mono ?_;rintro e W2 ⟨a,rfl,p1,p2,p3,hb⟩;have S2:=hid (ST.out _ _ S1.out hb);have hbx:Below W2.heap.size W2 ((W2.alloc (.cells pkZ 32)).setRow W2.heap.size (pkC P a)):=q8xz (qybm (w:=W2) (.cells pkZ 32)) (Nat.le_refl _) (pkC P a);have S3:KtS w W2.heap.size P a ((W2.alloc (.cells pkZ 32)).setRow W2.heap.size (pkC P a)):=
    ⟨qxh2 S2.out.1 hbx,(hbx.block _ (lt_of_block S2.out.2)).trans S2.out.2,lt_of_block S2.out.2,setRow_heap _ _ _ _ _ _ (heap_alloc_new W2 _),(PT.out _ a p1).below hbx,fun g i e=>by have:=p3 g i e;have:=lt_of_block S1.out.2;omega⟩
   have S3:=hid S3;have CP:=hid p2;have hD1:=qwmp P a;have hD2:=qmz0 P a;obtain⟨D,hD⟩:∃D,pkC P a=D:=⟨_,rfl⟩
   rw[hD] at hD1 hD2 S3 ⊢;have HD:=hid hD;have HD1:=hid hD1;have HD2:=hid hD2;have PKD:=hid (fun V (h:KtS w W2.heap.size P a V)=>(by rw[<-hD];exact h.pk:V.heap[W2.heap.size]?=some (.cells D 32 (0,0))));have VAa:=VA.out a;have VAa:=fun V (h:KtS w W2.heap.size P a V)=>(VAa V h.at_ CP.out).mono fun e W' hh=>(⟨hh.1,h.call hh.2⟩:_/\KtS w W2.heap.size P a W')
   rw[hD] at VAa;have VAa:=hid VAa;have FINT:=hid (fun V (h:KtS w W2.heap.size P a V)=>(show q2da w (P,0) (.returned (.tuple #[.agg D,.int .i64 ((0:Nat):Int)])) (V.setRow w.heap.size D) from
    ⟨a,by rw[hD],PT.out _ a (h.at_.ps.kept (by simp[World.setRow]) (fun g i e _=>setRow_other V w.heap.size g _ (by have:=h.pf g i e;omega))),CP.out,FI.out,q8xz h.low (Nat.le_refl _) _,fun h=>absurd rfl h,qq13 NL.out.1 NL.out.2.1 NL.out.2.2 fun g i e=>by have:=h.pf g i e;omega⟩))
   clear p1 p2 p3 hb S2 S1 hbx hD1 hD2 hD VA PT RD;by_cases hf0:f=0
   ·subst hf0;by_cases hq:q=0
    ·subst hq;have hr:R=(P,0):=by rw[<-HR.out];simp
     subst hr;go_wp2_with (first
      |(refine wpList_store_row rfl _ _ _ rfl W2.heap.size D rfl rfl 32 _ (heap_alloc_new W2 _) (by rw[HD1.out];exact q5nr) (by rw[HZ.out,HD1.out]) HD2.out ?_)
      |(refine wpList_load_row rfl _ _ rfl W2.heap.size rfl 32 D (0,0) _ (PKD.out _ S3.out) underlying32 rfl (by rw[HD1.out];exact q5nr) ?_))
     refine(VAa.out _ S3.out).mono ?_;rintro e W4 ⟨rfl,hS⟩;have S4:=hid hS;have RS4:=hid hS.rs;clear hS;go_wp2_with (first
      |(refine wpList_store_row rfl _ _ _ rfl w.heap.size D rfl rfl 32 _ RS4.out (by rw[HD1.out];exact q5nr) (by rw[HZ.out,HD1.out]) HD2.out ?_)
      |(refine wpList_load_row rfl _ _ rfl W2.heap.size rfl 32 D (0,0) _ (PKD.out _ S4.out) underlying32 rfl (by rw[HD1.out];exact q5nr) ?_))
     exact q8iy (cs:=D) rfl rfl rfl rfl underlying32 rfl (by rw[HD1.out];exact q5nr) (setRow_heap _ _ _ _ _ _ RS4.out) (FINT.out _ S4.out)
    ·have hr:R=(Pk.zero,q):=by rw[<-HR.out];simp[hq]
     subst hr;have q1:((q:Int)==0)=false:=by simp;omega
     have q2:((q:Int) != 0)=true:=by simp;omega
     clear hq;go_wp2_with (first
      |(refine wpList_store_row rfl _ _ _ rfl W2.heap.size D rfl rfl 32 _ (heap_alloc_new W2 _) (by rw[HD1.out];exact q5nr) (by rw[HZ.out,HD1.out]) HD2.out ?_)
      |(refine wpList_load_row rfl _ _ rfl W2.heap.size rfl 32 D (0,0) _ (PKD.out _ S3.out) underlying32 rfl (by rw[HD1.out];exact q5nr) ?_))
     refine(VAa.out _ S3.out).mono ?_;rintro e W4 ⟨rfl,hS⟩;have RS4:=hid hS.rs;have RT:=hid (RZ.out q W4 hS.low);clear hS;go_wp2_with (first
      |(refine wpList_buildTo rfl 32 _ rfl (some _) rfl pkZ (by kernel_rfl) ?_)
      |(refine wpList_store_row rfl _ _ _ rfl w.heap.size pkZ rfl rfl 32 _ RS4.out (by rw[HZ.out];exact q5nr) rfl PZ.out ?_))
     exact q8iy (cs:=pkZ) rfl rfl rfl rfl underlying32 rfl (by rw[HZ.out];exact q5nr) (setRow_heap _ _ _ _ _ _ RS4.out) RT.out
   ·have hr:R=(Pk.zero,f):=by rw[<-HR.out];simp[hf0]
    subst hr;have q1:((f:Int)==0)=false:=by simp;omega
    have q2:((f:Int) != 0)=true:=by simp;omega
    have RS4:=hid S3.out.rs;have RT:=hid (RZ.out f _ S3.out.low);clear hf0;go_wp2_with (first
     |(refine wpList_store_row rfl _ _ _ rfl W2.heap.size D rfl rfl 32 _ (heap_alloc_new W2 _) (by rw[HD1.out];exact q5nr) (by rw[HZ.out,HD1.out]) HD2.out ?_)
     |(refine wpList_buildTo rfl 32 _ rfl (some _) rfl pkZ (by kernel_rfl) ?_)
     |(refine wpList_store_row rfl _ _ _ rfl w.heap.size pkZ rfl rfl 32 _ RS4.out (by rw[HZ.out];exact q5nr) rfl PZ.out ?_))
    exact q8iy (cs:=pkZ) rfl rfl rfl rfl underlying32 rfl (by rw[HZ.out];exact q5nr) (setRow_heap _ _ _ _ _ _ RS4.out) RT.out
 ·rw[if_pos hq];have q1:((q0:Int)==0)=false:=by simp;omega
  have q2:((q0:Int) != 0)=true:=by simp;omega
  clear hq hm hk0 hk1;go_in;go_wp2_with fail;refine(TA.out _).mono ?_;rintro e W ⟨rfl,hb⟩;have S1:=hid (ST.out _ _ S0.out hb);clear hb S0;go_wp2_with (first
   |(refine wpList_buildTo rfl 32 _ rfl (some _) rfl pkZ (by kernel_rfl) ?_)
   |(refine wpList_store_row rfl _ _ _ rfl w.heap.size pkZ rfl rfl 32 _ S1.out.2 (by rw[HZ.out];exact q5nr) rfl PZ.out ?_))
  refine q8iy (cs:=pkZ) rfl rfl rfl rfl underlying32 rfl (by rw[HZ.out];exact q5nr) (setRow_heap _ _ _ _ _ _ S1.out.2) ?_;exact RZ.out q0 _ S1.out.1
end Go.Proofs.YtombgnfedafkjaaGreatDoor
