/- What Get tells. No condition. -/
import Derived.Laws.CopyOwn
import Derived.Test.YtefmhbioggcfaaaGreatDoorK35
import Derived.Test.YtefmhbioggcfaaaGreatDoorK31
set_option maxHeartbeats 2000000
set_option maxRecDepth 100000
namespace Go.Proofs.YtefmhbioggcfaaaGreatDoor
open Lib(hid)
open Proofs.Tryz
open Go.RowKit
def getP(l:List Pr)(id:Int):Pr×Bool:=match l.find? fun p=>p.id==id with
 |some p=>(p,true)
 |none=>(⟨0,0,[],[]⟩,false)
theorem qihu(id:Int):getP [] id=(⟨0,0,[],[]⟩,false):=rfl
theorem q2to(p:Pr)(l:List Pr)(id:Int):getP (p::l) id=if p.id=id then(p,true) else getP l id:=by
 unfold getP;rw[List.find?_cons];by_cases h:p.id=id
 ·have:(p.id==id)=true:=by simpa using h
  rw[this,if_pos h]
 ·have:(p.id==id)=false:=by simpa using h
  rw[this,if_neg h]
theorem qxal(l:List Pr)(id:Int):(getP l id).2=hasP l id:=by
 induction l with
 |nil=>rfl
 |cons p l ih=>
  rw[q2to];unfold hasP at ih ⊢;rw[List.any_cons];by_cases h:p.id=id
  ·rw[if_pos h];simp[h]
  ·rw[if_neg h,ih];simp[h]
theorem qi36:(prog.info? 82).map (·.size)=some 4:=by kernel_rfl
theorem qbgf{fn:Func}{R:Ending->World->Prop}{a:Act}{W:World}{p u:Tmp}{B:Nat}{cs:Array Value}{v:Value}(h:fn.results=#[.cell p 82,.tmp u])(hp:a.tmps.getD p undef=.pointer (some ⟨B,0,none⟩))(hu:a.tmps.getD u undef=v)(hd:a.defers=[])(hcs:cs.size=4)
 (hg:W.heap[B]?=some (.cells cs 82 (0,0))) (hR:R (.returned (.tuple #[.agg cs,v])) W):bodyPost prog fn R .ret a W:=by
 refine bodyPost_ret (v := .tuple #[.agg cs,v]) ?_ hd hR;rw[results_cell_tmp h,hp,hu]
 have:=run_loadVar_row (P:=prog) W B 82 82 cs (0,0) _ hg underlying82 rfl (by rw[hcs];kernel_rfl)
 simp[asAddr,this,Result.andThen]
theorem qoac(A:Option Addr)(n c:Nat)(l:List Pr)(id:Int)(w:World)(hl:PL w A l)(hn:l.length=n)(hN:n<=70000) :
 Calls prog 240 #[.slice A n c,.int .i64 id] w fun e w'=>e=.returned (.tuple #[qbhk (getP l id).1,.bool (getP l id).2])/\Below w.heap.size w w':=by
 have HL:=hid hl;have HN:=hid hn;have hN2:(n:Int)<=70000:=by omega
 obtain⟨R,hR⟩:∃R,getP l id=R:=⟨_,rfl⟩
 rw[hR];have HR:=hid hR;have B0:=hid (show Below w.heap.size w (w.alloc (.cells #[.int .i64 0,.int .u32 0,.string ⟨#[]⟩,.string ⟨#[]⟩] 82)) from(Below.refl _ _).alloc (Nat.le_refl _) _);have Z0:=hid (heap_alloc_new w (.cells #[.int .i64 0,.int .u32 0,.string ⟨#[]⟩,.string ⟨#[]⟩] 82));clear hl hn hN hR;go_in;go_wp2_with fail
 go_loopg [10] n (fun gk s10 wx=>∃k:Nat,k<=n/\gk=n-k/\s10=.int .i64 (k:Int)/\getP (l.drop k) id=R/\Below w.heap.size w wx/\wx.heap[w.heap.size]?=some (.cells #[.int .i64 0,.int .u32 0,.string ⟨#[]⟩,.string ⟨#[]⟩] 82 (0,0)))
 case atStart=>exact⟨0,by omega,by omega,rfl,HR.out,B0.out,Z0.out⟩
 case round=>
  obtain⟨k,hk,hgk,rfl,hE,hB,hZ⟩:=hrel;by_cases hlt:k<n
  ·have hkl:k<l.length:=by rw[HN.out];exact hlt
   obtain⟨p,hp⟩:∃p,l[k]?=some p:=⟨_,List.getElem?_eq_getElem hkl⟩
   obtain⟨g,i,e',hg',c0,c1,c2,c3⟩:=(HL.out.below hB).at hp;subst e';have g1:(k:Int)<(n:Int):=by omega
   have hdr:l.drop k=p::l.drop (k+1):=by rw[List.drop_eq_getElem_cons hkl];congr 1;rw[List.getElem?_eq_getElem hkl] at hp;exact Option.some.inj hp
   rw[hdr,q2to] at hE;have hzl:=lt_of_block hZ;have HB:=hid (hB.alloc hB.size (.cells #[.int .i64 p.id,.int .u32 p.n,.string (bs p.text),.string (bs p.value)] 82));have hZ2:=(heap_alloc_old wr (.cells #[.int .i64 p.id,.int .u32 p.n,.string (bs p.text),.string (bs p.value)] 82) hzl).trans hZ;have HZ:=hid hZ2;have fz:∀j,(wr.alloc (.cells #[.int .i64 p.id,.int .u32 p.n,.string (bs p.text),.string (bs p.value)] 82)).frozen? ⟨w.heap.size,j,none⟩=false:=fun j=>by simp[World.frozen?,hZ2]
   have cz:∀j,(wr.alloc (.cells #[.int .i64 p.id,.int .u32 p.n,.string (bs p.text),.string (bs p.value)] 82)).cell? ⟨w.heap.size,j,none⟩=(#[.int .i64 0,.int .u32 0,.string ⟨#[]⟩,.string ⟨#[]⟩]:Array Value)[j]? := fun j=>cell_of_row _ _ _ _ _ _ hZ2;by_cases hq:p.id=id
   ·rw[if_pos hq] at hE;have q1:(p.id==id)=true:=by simpa using hq
    subst hE;clear hq hB hZ fz cz hdr hp hkl;go_wp2_with (refine wpList_store_row rfl _ _ _ rfl w.heap.size _ rfl rfl 82 _ hZ2 qi36 rfl (by simp[Value.oneCell']) ?_)
    (try simp only[Exit.inBlock,Exit.then])
    refine qbgf rfl rfl rfl rfl ?_ (setRow_heap _ _ _ _ _ _ HZ.out) ?_
    ·rfl
    ·exact⟨rfl,q6i6 HB.out (Nat.le_refl _) _⟩
   ·rw[if_neg hq] at hE;have HE:=hid hE;have q1:(p.id==id)=false:=by simpa using hq
    clear hE hq hB hZ hZ2 fz cz hdr hp hkl;go_wp2_with fail
    go_roundg (n-(k+1))
    case measure=>omega
    case rel=>exact⟨k+1,by omega,rfl,by go_num,HE.out,HB.out,HZ.out⟩
  ·obtain rfl:k=n:=by omega
   have hd1:l.drop k=[]:=List.drop_of_length_le (by rw[HN.out];omega);rw[hd1,qihu] at hE;have HZ:=hid hZ;have HB:=hid hB;subst hE;clear hB hd1;go_wp2_with (refine wpList_store_row rfl _ _ _ rfl w.heap.size _ rfl rfl 82 _ hZ qi36 rfl (by simp[Value.oneCell']) ?_)
   (try simp only[Exit.inBlock,Exit.then])
   refine qbgf rfl rfl rfl rfl ?_ (setRow_heap _ _ _ _ _ _ HZ.out) ?_
   ·rfl
   ·exact⟨rfl,q6i6 HB.out (Nat.le_refl _) _⟩
theorem qxb1(b:Bool)(f:Nat)(w:World):Calls prog 157 #[.bool b,.int .i64 (f:Int)] w fun e w'=>e=.returned (.int .i64 ((if b then 0 else f:Nat):Int))/\w=w':=by
 cases b
 all_goals go_in;go_wp2;go_ret;exact⟨rfl,rfl⟩
theorem qmwj(v:Int)(p:Pk)(a:Ad)(w:World):Calls prog 159 #[.int .i64 v,.agg (pkC p a)] w fun e w'=>e=.returned (.int .i64 (((qjyu v p.kind p.dup p.retain p.qos).2:Nat):Int))/\Below w.heap.size w w':=by have S0:=hid (BxS.made w p a);have C1:=hid (qwmp p a);have FL:=fun W=>q2el v (k:=p.kind) (q:=p.qos) (d:=p.dup) (r:=p.retain) (c:=pkC p a) W (qwmp p a) rfl rfl rfl rfl;unfold qu2r at FL;have FL:=hid FL;go_in;go_wp2_with (refine wpList_load_row rfl _ _ rfl w.heap.size rfl 38 _ (0,0) _ S0.out.box underlying38 rfl (by rw[C1.out];exact q5nr) ?_);refine(FL.out _).mono ?_;rintro e W ⟨rfl,hb⟩;have LO:=hid (qxh2 S0.out.low hb);clear hb;go_wp2;go_ret;exact⟨rfl,LO.out⟩
theorem qr1z(p:Pk)(a:Ad)(w:World):Calls prog 161 #[.agg (pkC p a)] w fun e w'=>e=.returned (.bool (idU p))/\Below w.heap.size w w':=by
 have S0:=hid (BxS.made w p a);have c3:(w.alloc (.cells (pkC p a) 38)).cell? ⟨w.heap.size,3,none⟩=some (.int .i64 p.qos):=S0.out.cell 3;have c4:(w.alloc (.cells (pkC p a) 38)).cell? ⟨w.heap.size,4,none⟩=some (.int .i64 p.id):=S0.out.cell 4;obtain⟨R,hR⟩:∃R,idU p=R:=⟨_,rfl⟩
 rw[hR];unfold idU at hR;by_cases hq:p.qos=0
 ·rw[if_pos hq] at hR;have e1:(p.qos==0)=true:=by simpa using hq
  clear hq;generalize p.qos=q at *;go_in;go_wp2;go_ret;exact⟨rfl,S0.out.low⟩
 ·rw[if_neg hq] at hR;have e1:(p.qos==0)=false:=by simpa using hq
  clear hq;generalize p.qos=q at *;by_cases h1:0<p.id
  ·have g1:decide ((0:Int)<p.id)=true:=decide_eq_true h1;rw[g1,Bool.true_and] at hR;clear h1;generalize p.id=i at *;go_in;go_wp2;go_ret;exact⟨rfl,S0.out.low⟩
  ·have g1:decide ((0:Int)<p.id)=false:=decide_eq_false h1;rw[g1,Bool.false_and] at hR;clear h1;generalize p.id=i at *;have HR:=hid hR;clear hR;go_in;go_wp2;go_ret;exact⟨congrArg (fun b=>Ending.returned (Value.bool b)) HR.out,S0.out.low⟩
def q0ts(v:Int)(a:Ad):Ad:={adZ with ps:=if v=5 then a.ps else none,pc:=if v=5 then a.pc else 0}
theorem qxcw{w:World}{p:Pk}{a:Ad}(v:Int)(h:PkAt w p a):PkAt w (qbi7 v p) (q0ts v a):=by
 refine⟨fun e=>absurd rfl e,fun e=>absurd rfl e,fun e=>absurd rfl e,?_⟩;unfold qbi7 q0ts;by_cases h5:v=5
 ·simp only[if_pos h5];exact h.ps
 ·simp only[if_neg h5];exact fun e=>absurd rfl e
theorem qh0x{p:Pk}(v:Int)(h:q21o p):q21o (qbi7 v p):=by
 refine⟨Nat.zero_le _,Nat.zero_le _,?_,Nat.zero_le _⟩;unfold qbi7;by_cases h5:v=5
 ·simp only[if_pos h5];exact h.2.2.1
 ·simp only[if_neg h5];exact Nat.zero_le _
theorem q2my(v:Int)(p:Pk)(a:Ad)(w:World):Calls prog 163 #[.int .i64 v,.agg (pkC p a)] w fun e w'=>e=.returned (.agg (pkC (qbi7 v p) (q0ts v a)))/\Below w.heap.size w w':=by
 obtain⟨R,hR⟩:∃R,pkC (qbi7 v p) (q0ts v a)=R:=⟨_,rfl⟩
 rw[hR];have HR:=hid hR;have HR1:R.size=25:=by rw[<-hR];exact qwmp _ _
 have HR2:R.all (·.oneCell')=true:=by rw[<-hR];exact qmz0 _ _
 have HE1:=hid HR1;have HE2:=hid HR2;clear hR HR1 HR2;obtain⟨D,hD⟩:∃D,pkC {qbi7 v p with props:=[]} adZ=D:=⟨_,rfl⟩
 have hD1:D.size=25:=by rw[<-hD];exact qwmp _ _
 have hD2:D.all (·.oneCell')=true:=by rw[<-hD];exact qmz0 _ _
 have HD:=hid hD;have HD1:=hid hD1;have HD2:=hid hD2;have HZ:=hid qbwp;have hzv:=qrai;have hne:¬pkZ=#[]:=by intro h;have:=qbwp;rw[h] at this;cases this
 have Z0:((w.alloc (.cells (pkC p a) 38)).alloc (.cells pkZ 38)).heap.size=w.heap.size+1+1:=by simp
 have GB:=heap_alloc2_old w (.cells (pkC p a) 38) (.cells pkZ 38);have GR:=heap_alloc2_new w (.cells (pkC p a) 38) (.cells pkZ 38);have L0:=qxh2 (qybm (w:=w) (.cells (pkC p a) 38)) (qybm (.cells pkZ 38));have k0:((w.alloc (.cells (pkC p a) 38)).alloc (.cells pkZ 38)).cell? ⟨w.heap.size,0,none⟩=some (.int .i64 p.kind):=cell_of_row _ _ 0 _ _ _ GB;have k1:((w.alloc (.cells (pkC p a) 38)).alloc (.cells pkZ 38)).cell? ⟨w.heap.size,1,none⟩=some (.bool p.dup):=cell_of_row _ _ 1 _ _ _ GB;have k2:((w.alloc (.cells (pkC p a) 38)).alloc (.cells pkZ 38)).cell? ⟨w.heap.size,2,none⟩=some (.bool p.retain):=cell_of_row _ _ 2 _ _ _ GB;have k3:((w.alloc (.cells (pkC p a) 38)).alloc (.cells pkZ 38)).cell? ⟨w.heap.size,3,none⟩=some (.int .i64 p.qos):=cell_of_row _ _ 3 _ _ _ GB;have k4:((w.alloc (.cells (pkC p a) 38)).alloc (.cells pkZ 38)).cell? ⟨w.heap.size,4,none⟩=some (.int .i64 p.id):=cell_of_row _ _ 4 _ _ _ GB;have k5:((w.alloc (.cells (pkC p a) 38)).alloc (.cells pkZ 38)).cell? ⟨w.heap.size,5,none⟩=some (.string (bs p.topic)):=cell_of_row _ _ 5 _ _ _ GB;have k6:((w.alloc (.cells (pkC p a) 38)).alloc (.cells pkZ 38)).cell? ⟨w.heap.size,6,none⟩=some (.string (bs p.payload)):=cell_of_row _ _ 6 _ _ _ GB;go_in
 go_upto_region 1 with fail
 generalize (w.alloc (.cells (pkC p a) 38)).alloc (.cells pkZ 38)=W0 at *;have GN:=heap_alloc_new W0 (.cells pkZ 38);have L1:=q8xz (qxh2 L0 (qybm (.cells pkZ 38))) (show w.heap.size<=W0.heap.size by omega) D;have GB1:=(setRow_other (W0.alloc (.cells pkZ 38)) W0.heap.size w.heap.size D (by omega)).trans ((heap_alloc_old _ (.cells pkZ 38) (by omega)).trans GB);have GR1:=(setRow_other (W0.alloc (.cells pkZ 38)) W0.heap.size (w.heap.size+1) D (by omega)).trans ((heap_alloc_old _ (.cells pkZ 38) (by omega)).trans GR);have GN1:=setRow_heap _ _ _ D _ _ GN;have Z1:=hid Z0;obtain⟨B,hB⟩:∃B,W0.heap.size=B:=⟨_,rfl⟩
 have GN:=hid GN;have L1:=hid L1;have GB1:=hid GB1;have GR1:=hid GR1;have GN1:=hid GN1;clear Z0 GB GR L0 hD hD1 hD2 hB;by_cases h5:v=5
 ·have e5:(v==5)=true:=by simpa using h5
  have hu:D.setIfInBounds 24 (.slice a.ps p.props.length a.pc)=R:=by rw[<-HR.out,<-HD.out];simp[pkC,qbi7,q0ts,h5]
  have LF:=hid (q8xz (qo4g (j:=24) (u := .slice a.ps p.props.length a.pc) L1.out (show w.heap.size<=W0.heap.size by have:=Z1.out;omega)) (show w.heap.size<=w.heap.size+1 by omega) R);have c24:=hid (cell_of_row _ _ 24 _ _ _ GB1.out);have G2:=hid (qv6p GN1.out hu);have GR2:=hid ((heap_setCell_other _ (⟨W0.heap.size,24,none⟩:Addr) (w.heap.size+1) (.slice a.ps p.props.length a.pc) (by show w.heap.size+1≠W0.heap.size;have:=Z1.out;omega)).trans GR1.out);have n24:((W0.alloc (.cells pkZ 38)).setRow W0.heap.size D).cell? ⟨W0.heap.size,24,none⟩=some (.slice none 0 0):=(cell_of_row _ _ 24 _ _ _ GN1.out).trans (by rw[<-HD.out];rfl);have f24:=frozen_of_row _ _ 24 _ _ GN1.out;have b24:((W0.alloc (.cells pkZ 38)).setRow W0.heap.size D).cell? ⟨w.heap.size,24,none⟩=some (.slice a.ps p.props.length a.pc):=cell_of_row _ _ 24 _ _ _ GB1.out;clear h5 hu c24;go_wp2_with (first
   |(refine wpList_buildTo rfl 38 _ rfl (some _) rfl D (by rw[<-HD.out];kernel_rfl) ?_)
   |(refine wpList_load_row rfl _ _ rfl W0.heap.size rfl 38 R (0,0) _ G2.out underlying38 rfl (by rw[HE1.out];exact q5nr) ?_)
   |(refine wpList_store_row rfl _ _ _ rfl W0.heap.size D rfl rfl 38 _ GN.out (by rw[HD1.out];exact q5nr) (by rw[HZ.out,HD1.out]) HD2.out ?_)
   |(refine wpList_store_row rfl _ _ _ rfl (w.heap.size+1) R rfl rfl 38 _ GR2.out (by rw[HE1.out];exact q5nr) (by rw[HZ.out,HE1.out]) HE2.out ?_))
  exact q7wi (cs:=R) rfl rfl rfl underlying38 rfl (by rw[HE1.out];exact q5nr) (setRow_heap _ _ _ _ _ _ GR2.out) ⟨rfl,LF.out⟩
 ·have e5:(v==5)=false:=by simpa using h5
  have hu:D=R:=by rw[<-HR.out,<-HD.out];simp[pkC,qbi7,q0ts,h5,adZ]
  have LF:=hid (q8xz L1.out (show w.heap.size<=w.heap.size+1 by omega) D);subst hu;clear h5;go_wp2_with (first
   |(refine wpList_buildTo rfl 38 _ rfl (some _) rfl D (by rw[<-HD.out];kernel_rfl) ?_)
   |(refine wpList_load_row rfl _ _ rfl W0.heap.size rfl 38 D (0,0) _ GN1.out underlying38 rfl (by rw[HD1.out];exact q5nr) ?_)
   |(refine wpList_store_row rfl _ _ _ rfl W0.heap.size D rfl rfl 38 _ GN.out (by rw[HD1.out];exact q5nr) (by rw[HZ.out,HD1.out]) HD2.out ?_)
   |(refine wpList_store_row rfl _ _ _ rfl (w.heap.size+1) D rfl rfl 38 _ GR1.out (by rw[HD1.out];exact q5nr) (by rw[HZ.out,HD1.out]) HD2.out ?_))
  exact q7wi (cs:=D) rfl rfl rfl underlying38 rfl (by rw[HD1.out];exact q5nr) (setRow_heap _ _ _ _ _ _ GR1.out) ⟨rfl,LF.out⟩
theorem qfg3{l:List Pr}(h:∀x∈l,PrOk x)(id:Int):(getP l id).1.n<4294967296:=by
 induction l with
 |nil=>rw[qihu];decide
 |cons x l ih=>
  rw[q2to];split
  ·exact(h x (by simp)).n
  ·exact ih fun y hy=>h y (by simp[hy])
theorem qwux(p:Pk)(a:Ad)(w:World)(hp:PkAt w p a)(sp:q21o p)(ok:∀x∈p.props,PrOk x):Calls prog 206 #[.agg (pkC p a)] w fun e w'=>e=.returned (.tuple #[.int .i64 (((getP p.props 35).1.n:Nat):Int),.bool (hasP p.props 35)])/\Below w.heap.size w w':=by
 have S0:=hid (BxS.made w p a);have GE:=fun W (h:BxS w p a W)=>qoac a.ps p.props.length a.pc p.props 35 W (hp.below h.low).ps rfl sp.2.2.1;have hn:=qfg3 ok 35;rw[qxal] at GE;generalize hasP p.props 35=B at *;generalize (getP p.props 35).1=g at *;obtain⟨gi,n,gt,gv⟩:=g;have hn:n<4294967296:=hn;have hn0:(n:Int)<4294967296:=by omega
 have c24:(w.alloc (.cells (pkC p a) 38)).cell? ⟨w.heap.size,24,none⟩=some (.slice a.ps p.props.length a.pc):=S0.out.cell 24;have GE:=hid GE;unfold qbhk at GE;clear hp sp ok hn;go_in;go_wp2_with fail;refine(GE.out _ S0.out).mono ?_;rintro e W ⟨rfl,hb⟩;have L1:=qxh2 S0.out.low hb;have LO:=hid L1;clear hb c24;go_wp2
 go_ret2
 exact⟨rfl,LO.out.alloc LO.out.size _⟩
theorem qzfq{p:Pk}(ok:PkOk p):(bs p.topic).size<=9223372036854775807:=by rw[q5zk];exact Nat.le_trans (ok.texts p.topic (by simp[Pk.texts])) (by decide)
theorem qzyp(p:Pk)(a:Ad)(w:World)(hp:PkAt w p a)(sp:q21o p)(ok:PkOk p):Calls prog 165 #[.agg (pkC p a)] w fun e w'=>e=.returned (.bool (qsuf p))/\Below w.heap.size w w':=by
 have S0:=hid (BxS.made w p a);have C1:=hid (qwmp p a);have AL:=fun W (h:BxS w p a W)=>qwux p a W (hp.below h.low) sp (fun x hx=>(ok.pps x hx).1);have NM:=fun W=>qqsh (bs p.topic) W (qzfq ok);rw[qkd1] at NM;have hE:((bs p.topic).toList==[])=p.topic.isEmpty:=by rw[q0c6];cases p.topic<;>rfl
 obtain⟨R,hR⟩:∃R,qsuf p=R:=⟨_,rfl⟩
 rw[hR];unfold qsuf at hR;generalize hasP p.props 35=b at *;generalize q95c p.topic=nm at *;generalize p.topic.isEmpty=em at *;have HR:=hid hR;have AL:=hid AL;have NM:=hid NM;have k5:∀W,BxS w p a W->W.cell? ⟨w.heap.size,5,none⟩=some (.string (bs p.topic)):=fun W h=>h.cell 5;have K5:=hid k5;generalize bs p.topic=T at *;clear hp sp ok hR k5;go_in;go_wp2_with (refine wpList_load_row rfl _ _ rfl w.heap.size rfl 38 _ (0,0) _ S0.out.box underlying38 rfl (by rw[C1.out];exact q5nr) ?_);refine(AL.out _ S0.out).mono ?_;rintro e W ⟨rfl,hb⟩;have S1:=hid (S0.out.call hb);have k5:=K5.out W S1.out;clear hb S0;go_wp2_with fail;refine(NM.out _).mono ?_;rintro e W2 ⟨rfl,hb⟩;have S2:=hid (S1.out.call hb);have k5:=K5.out W2 S2.out;clear hb S1;cases nm with
 |true=>have HT:=hid (show true=R by rw[<-HR.out];rfl);clear HR;go_wp2;go_ret;exact⟨congrArg (fun b=>Ending.returned (Value.bool b)) HT.out,S2.out.low⟩
 |false=>
  cases em with
  |true=>have HT:=hid (show b=R by rw[<-HR.out];rfl);clear HR;go_wp2;go_ret;exact⟨congrArg (fun b=>Ending.returned (Value.bool b)) HT.out,S2.out.low⟩
  |false=>have HT:=hid (show false=R by rw[<-HR.out];rfl);clear HR;go_wp2;go_ret;exact⟨congrArg (fun b=>Ending.returned (Value.bool b)) HT.out,S2.out.low⟩
def qn5i:List Nat->Nat
 |[]=>0
 |e::l=>if e=0 then qn5i l else e
def qrz0(v:Int)(p:Pk):List Nat:=[if p.kind=3 then 0 else 2,(qjyu v p.kind p.dup p.retain p.qos).2,if idU p&&decide (p=qbi7 v p) then 0 else 2,if qsuf p then 0 else 10,qpyu 3 p.props]
theorem qia5(v:Int)(p:Pk):qn5i (qrz0 v p)=q6ed v p:=by
 unfold qrz0 q6ed;simp only[qn5i];generalize (idU p&&decide (p=qbi7 v p))=b3;generalize qsuf p=b4;generalize qpyu 3 p.props=e5;by_cases hk:p.kind=3
 ·rw[hk];generalize (qjyu v 3 p.dup p.retain p.qos).2=e2;by_cases h2:e2=0<;>by_cases h5:e5=0<;>cases b3<;>cases b4<;>simp[h2,h5]
 ·simp[hk]
structure PvS(w:World)(v:Int)(p:Pk)(a:Ad)(W:World):Prop where
 low:Below w.heap.size w W
 vb:W.heap[w.heap.size]?=some (.cells #[.int .i64 v] 3 (0,0))
 pb:W.heap[w.heap.size+1]?=some (.cells (pkC p a) 38 (0,0))
theorem PvS.call{w W W':World}{v:Int}{p:Pk}{a:Ad}(h:PvS w v p a W)(hb:Below W.heap.size W W'):PvS w v p a W':=⟨qxh2 h.low hb,(hb.block _ (lt_of_block h.vb)).trans h.vb,(hb.block _ (lt_of_block h.pb)).trans h.pb⟩
theorem PvS.cell{w W:World}{v:Int}{p:Pk}{a:Ad}(h:PvS w v p a W)(j:Nat):W.cell? ⟨w.heap.size+1,j,none⟩=(pkC p a)[j]? := cell_of_row _ _ j _ _ _ h.pb
def EndU(W:World)(r:Nat)(e:Ending)(W':World):Prop:=e=.returned (.int .i64 (r:Int))/\Below W.heap.size W W'
section
variable{w W:World}{v:Int}{p:Pk}{a:Ad}
theorem qqgo(h:PvS w v p a W):Calls prog 156 #[.pointer (some ⟨w.heap.size+1,0,none⟩)] W (EndU W (if p.kind=3 then 0 else 2)):=by
 have H:=hid h;have k0:W.cell? ⟨w.heap.size+1,0,none⟩=some (.int .i64 p.kind):=h.cell 0;obtain⟨b,hb⟩:∃b,(p.kind==3)=b:=⟨_,rfl⟩
 have RQ:=qxb1 b 2 W;have HB:=hid (show(if b then 0 else 2:Nat)=(if p.kind=3 then 0 else 2) by rw[<-hb];by_cases e:p.kind=3<;>simp[e]);rw[HB.out] at RQ;have RQ:=hid RQ;generalize (if p.kind=3 then 0 else 2:Nat)=r at *;generalize p.kind=k at *;clear h;go_in;go_wp2_with fail;refine(RQ.out).mono ?_;rintro e W' ⟨rfl,rfl⟩;go_wp2;go_ret;exact⟨rfl,Below.refl _ _⟩
theorem qxzk(h:PvS w v p a W):Calls prog 158 #[.pointer (some ⟨w.heap.size,0,none⟩),.pointer (some ⟨w.heap.size+1,0,none⟩)] W (EndU W (qjyu v p.kind p.dup p.retain p.qos).2):=by have H:=hid h;have C1:=hid (qwmp p a);have k0:W.cell? ⟨w.heap.size,0,none⟩=some (.int .i64 v):=cell_of_row _ _ 0 _ _ _ h.vb;have FL:=hid (qmwj v p a W);clear h;go_in;go_wp2_with (refine wpList_load_row rfl _ _ rfl (w.heap.size+1) rfl 38 _ (0,0) _ H.out.pb underlying38 rfl (by rw[C1.out];exact q5nr) ?_);refine(FL.out).mono ?_;rintro e W' ⟨rfl,hb⟩;have H2:=hid hb;clear hb;go_wp2;go_ret;exact⟨rfl,H2.out⟩
theorem qmzi(h:PvS w v p a W)(hp:PkAt w p a)(sp:q21o p):Calls prog 160 #[.pointer (some ⟨w.heap.size+1,0,none⟩),.pointer (some ⟨w.heap.size,0,none⟩)] W (EndU W (if idU p&&decide (p=qbi7 v p) then 0 else 2)):=by
 have H:=hid h;have C1:=hid (qwmp p a);have I1:=fun V (h:PvS w v p a V/\Below W.heap.size W V)=>(qr1z p a V).mono fun e W' hh=>(⟨hh.1,h.1.call hh.2,qxh2 h.2 hh.2⟩:_/\(PvS w v p a W'/\Below W.heap.size W W'))
 have U1:=fun V (h:PvS w v p a V/\Below W.heap.size W V)=>(q2my v p a V).mono fun e W' hh=>(⟨hh.1,h.1.call hh.2,qxh2 h.2 hh.2⟩:_/\(PvS w v p a W'/\Below W.heap.size W W'))
 have M1:=fun V (h:PvS w v p a V/\Below W.heap.size W V)=>(qyk8 p (qbi7 v p) a (q0ts v a) V (hp.below h.1.low) (qxcw v (hp.below h.1.low)) sp (qh0x v sp)).mono fun e W' hh=>(⟨hh.1,h.1.call hh.2,qxh2 h.2 hh.2⟩:_/\(PvS w v p a W'/\Below W.heap.size W W'))
 obtain⟨r,hr⟩:∃r:Nat,(if idU p&&decide (p=qbi7 v p) then 0 else 2)=r:=⟨_,rfl⟩
 rw[hr];have R1:=fun(b:Bool) (hb:(if b then 0 else 2:Nat)=r) V (h:PvS w v p a V/\Below W.heap.size W V)=>(qxb1 b 2 V).mono fun e W' (hh:_/\V=W')=>(⟨by rw[hh.1,hb],hh.2▸h⟩:e=.returned (.int .i64 (r:Int))/\(PvS w v p a W'/\Below W.heap.size W W'))
 have S0:=hid (show PvS w v p a W.drew/\Below W.heap.size W W.drew from⟨h.call (Below.refl _ _).drew,(Below.refl _ _).drew⟩);cases hi:idU p with
 |true=>
  rw[hi,Bool.true_and] at hr;rw[hi] at I1;have R1:=R1 _ hr;go_in
  go_upto_region 1 with fail
  refine qikm (S:=fun W'=>PvS w v p a W'/\Below W.heap.size W W') (b1:=w.heap.size) (b2:=w.heap.size+1) S0.out C1.out (fun W h=>h.1.pb) (fun W h=>cell_of_row _ _ 0 _ _ _ h.1.vb) I1 U1 M1 R1 ?_;intro W' h;have H:=hid h.2;clear h;go_wp2;go_ret;exact⟨rfl,H.out⟩
 |false=>
  rw[hi,Bool.false_and] at hr;rw[hi] at I1;have R1:=R1 _ hr;go_in
  go_upto_region 1 with fail
  refine qjt8 (S:=fun W'=>PvS w v p a W'/\Below W.heap.size W W') (b1:=w.heap.size) (b2:=w.heap.size+1) S0.out C1.out (fun W h=>h.1.pb) I1 R1 ?_;intro W' h;have H:=hid h.2;clear h;go_wp2;go_ret;exact⟨rfl,H.out⟩
theorem qu52(h:PvS w v p a W)(hp:PkAt w p a)(sp:q21o p)(ok:PkOk p):Calls prog 164 #[.pointer (some ⟨w.heap.size+1,0,none⟩)] W (EndU W (if qsuf p then 0 else 10)):=by
 have H:=hid h;have C1:=hid (qwmp p a);have TF:=hid (qzyp p a W (hp.below h.low) sp ok);have RQ:=fun W=>qxb1 (qsuf p) 10 W;obtain⟨r,hr⟩:∃r:Nat,(if qsuf p then 0 else 10)=r:=⟨_,rfl⟩
 rw[hr] at RQ ⊢;generalize qsuf p=b at *;have RQ:=hid RQ;clear h hp sp ok hr;go_in;go_wp2_with (refine wpList_load_row rfl _ _ rfl (w.heap.size+1) rfl 38 _ (0,0) _ H.out.pb underlying38 rfl (by rw[C1.out];exact q5nr) ?_);refine(TF.out).mono ?_;rintro e W' ⟨rfl,hb⟩;have H2:=hid hb;clear hb;go_wp2_with fail;refine(RQ.out _).mono ?_;rintro e W' ⟨rfl,rfl⟩;go_wp2;go_ret;exact⟨rfl,H2.out⟩
theorem q4k7(h:PvS w v p a W)(hp:PkAt w p a)(ok:PkOk p)(hc:p.props.length<=a.pc):Calls prog 166 #[.pointer (some ⟨w.heap.size+1,0,none⟩)] W (EndU W (qpyu 3 p.props)):=by have H:=hid h;have k24:W.cell? ⟨w.heap.size+1,24,none⟩=some (.slice a.ps p.props.length a.pc):=h.cell 24;have VL:=hid (qirc 3 a.ps p.props.length a.pc p.props W (by decide) (by decide) (hp.below h.low).ps rfl hc (fun x hx=>(ok.pps x hx).1));clear h hp ok hc;go_in;go_wp2_with fail;refine(VL.out).mono ?_;rintro e W' ⟨rfl,hb⟩;have H2:=hid hb;clear hb;go_wp2;go_ret;exact⟨rfl,H2.out⟩
end
def valF:Nat->FuncId
 |0=>156
 |1=>158
 |2=>160
 |3=>164
 |_=>166
def valC(b:Nat):Nat->Array Value
 |0=>#[.pointer (some ⟨b+1,0,none⟩)]
 |1=>#[.pointer (some ⟨b,0,none⟩),.pointer (some ⟨b+1,0,none⟩)]
 |2=>#[.pointer (some ⟨b+1,0,none⟩),.pointer (some ⟨b,0,none⟩)]
 |3=>#[.pointer (some ⟨b+1,0,none⟩)]
 |_=>#[.pointer (some ⟨b+1,0,none⟩)]
def valR(b:Nat):Array Value:=#[.func (.func (valF 0)) #[] (valC b 0),.func (.func (valF 1)) #[] (valC b 1),.func (.func (valF 2)) #[] (valC b 2),.func (.func (valF 3)) #[] (valC b 3),.func (.func (valF 4)) #[] (valC b 4)]
theorem qm1s0(b k:Nat)(W:World)(hk:k<5):(callFunc (valF k) (valC b k)).run prog W=.ok (.enter (valF k) (valC b k)) W:=by
 obtain rfl|rfl|rfl|rfl|rfl:k=0\/k=1\/k=2\/k=3\/k=4:=by omega
 all_goals kernel_rfl
theorem qjot(v:Int)(p:Pk)(a:Ad)(w:World)(hp:PkAt w p a)(sp:q21o p)(ok:PkOk p)(hc:p.props.length<=a.pc) :
 Calls prog 117 #[.int .i64 v,.agg (pkC p a)] w fun e w'=>e=.returned (.int .i64 ((q6ed v p:Nat):Int))/\Below w.heap.size w w':=by
 have FI:=fun(W:World) (hS:PvS w v p a W) (hF:W.heap[w.heap.size+2]?=some (.cells (valR w.heap.size) 48 (0,0)))=>qfnm (w.heap.size+2) 5 valF (valC w.heap.size) (fun k W=>PvS w v p a W/\W.heap[w.heap.size+2]?=some (.cells (valR w.heap.size) 48 (0,0))/\qn5i ((qrz0 v p).drop k)=q6ed v p) (fun r W=>PvS w v p a W/\r=q6ed v p) W (by decide)
  (fun k W hk h=>by
   rw[cell_of_row _ _ k _ _ _ h.2.1];obtain rfl|rfl|rfl|rfl|rfl:k=0\/k=1\/k=2\/k=3\/k=4:=by omega
   all_goals rfl)
  (fun k W hk h=>by
   have go:∀(r:Nat) (F:FuncId) (C:Array Value),Calls prog F C W (EndU W r)->(qrz0 v p).drop k=r::(qrz0 v p).drop (k+1)->Calls prog F C W fun e W'=>∃r:Nat,e=.returned (.int .i64 (r:Int))/\(r=0->PvS w v p a W'/\W'.heap[w.heap.size+2]?=some (.cells (valR w.heap.size) 48 (0,0))/\qn5i ((qrz0 v p).drop (k+1))=q6ed v p)/\(r≠0->PvS w v p a W'/\r=q6ed v p):=fun r F C hC hd=>hC.mono fun e W' ⟨he,hb⟩=>by
    have hf:=h.2.2;rw[hd,qn5i] at hf;refine⟨r,he,fun h0=>⟨h.1.call hb,(hb.block _ (lt_of_block h.2.1)).trans h.2.1,?_⟩,fun hne=>⟨h.1.call hb,?_⟩⟩
    ·rw[if_pos h0] at hf;exact hf
    ·rw[if_neg hne] at hf;exact hf
   obtain rfl|rfl|rfl|rfl|rfl:k=0\/k=1\/k=2\/k=3\/k=4:=by omega
   ·exact go _ _ _ (qqgo h.1) rfl
   ·exact go _ _ _ (qxzk h.1) rfl
   ·exact go _ _ _ (qmzi h.1 hp sp) rfl
   ·exact go _ _ _ (qu52 h.1 hp sp ok) rfl
   ·exact go _ _ _ (q4k7 h.1 hp ok hc) rfl)
  (fun k W hk=>qm1s0 _ k W hk) ⟨hS,hF,qia5 v p⟩
 have hmf:∀(fn:Fn) (f c:Array Value) (w:World),(Instr.makeFunc fn f c).run prog w=.ok (.func fn f c) w:=fun _ _ _ _=>rfl;generalize q6ed v p=R at *;have FI:=hid FI;have P0:=hid (show PvS w v p a ((w.alloc (.cells #[.int .i64 v] 3)).alloc (.cells (pkC p a) 38)) from⟨qxh2 (qybm _) (qybm _),heap_alloc2_old _ _ _,heap_alloc2_new _ _ _⟩);clear hp sp ok hc;go_in;go_wp2_with fail;have G2:=heap_alloc_new ((w.alloc (.cells #[.int .i64 v] 3)).alloc (.cells (pkC p a) 38)) (.cells (valR w.heap.size) 48);rw[show((w.alloc (.cells #[.int .i64 v] 3)).alloc (.cells (pkC p a) 38)).heap.size=w.heap.size+2 by simp] at G2;refine(FI.out _ (P0.out.call (qybm _)) G2).mono ?_;rintro e W' ⟨r,rfl,h1,h2⟩;have HE:=hid (show(r=R/\Below w.heap.size w W') by
  by_cases h0:r=0
  ·obtain⟨hS,_,hf⟩:=h1 h0;exact⟨h0.trans hf,hS.low⟩
  ·exact⟨(h2 h0).2,(h2 h0).1.low⟩)
 clear h1 h2 G2;go_wp2;go_ret;obtain⟨hr,hl⟩:=HE.out;subst hr;exact⟨rfl,hl⟩
theorem qlnm{s:Cs}{b:Bool}(h:s.e≠0):(s.optN b).2=s:=by
 unfold Cs.optN;cases b
 ·rfl
 ·simp only[if_true,Cs.num,Cs.take,if_pos h]
theorem qf83{s:Cs}{v k:Int}(h:s.e≠0):(s.props v k).2=s:=by unfold Cs.props;rw[if_pos (.inl h)]
theorem fail_e(s:Cs)(e:Nat):(s.fail e).e=if s.e≠0 then s.e else e:=by unfold Cs.fail;split<;>rfl
def qgle(v f:Int)(l:List UInt8):List Nat:=
 let t:=(Cs.mk l 0).text
 let i:=t.2.optN (f / 2%4 != 0)
 let p:=i.2.props v 3
 [q9d8 v ⟨3,f,0⟩,t.2.e,i.2.e,p.2.e,q6ed v (qefe v f ⟨l,0⟩).1]
theorem qg5r(v f:Int)(l:List UInt8):qgrv v f l=if qn5i (qgle v f l)=0 then((qefe v f ⟨l,0⟩).1,0) else(Pk.zero,qn5i (qgle v f l)):=by
 obtain⟨t,ht⟩:∃t,(Cs.mk l 0).text=t:=⟨_,rfl⟩
 obtain⟨i,hi⟩:∃i,t.2.optN (f / 2%4 != 0)=i:=⟨_,rfl⟩
 obtain⟨p,hp⟩:∃p,i.2.props v 3=p:=⟨_,rfl⟩
 have hx:(qefe v f ⟨l,0⟩).2=p.2:=by subst ht hi hp;rfl
 unfold qgrv qgle;simp only[ht,hi,hp,hx];generalize q6ed v (qefe v f ⟨l,0⟩).1=V;generalize (qefe v f ⟨l,0⟩).1=X;generalize q9d8 v ⟨3,f,0⟩=c;have h1:t.2.e≠0->i.2=t.2:=fun h=>by rw[<-hi];exact qlnm h
 have h2:i.2.e≠0->p.2=i.2:=fun h=>by rw[<-hp];exact qf83 h
 simp only[qn5i,fail_e];by_cases hc:c=0
 ·by_cases e1:t.2.e=0
  ·by_cases e2:i.2.e=0
   ·by_cases e3:p.2.e=0<;>by_cases e4:V=0<;>simp[hc,e1,e2,e3,e4]
   ·have:=h2 e2
    simp[hc,e1,e2,this]
  ·have a:=h1 e1;have b:=h2 (by rw[a];exact e1);simp[hc,e1,a,b]
 ·simp[hc]
def descB(f:Int):Pk:={Pk.zero with kind:=3,dup:=bits .and .i64 f 8 != 0,retain:=bits .and .i64 f 1 != 0,qos:=wrap64 ((bits .and .i64 f 6).tdiv 2)}
theorem q1ox{f:Int}(h:qg3k 3 f=true):descB f=qf69 f:=by
 obtain⟨h0,h1⟩:=qo5i h;obtain⟨n,rfl⟩:∃n:Nat,f=(n:Int):=⟨f.toNat,by omega⟩
 have hn:n<16:=by omega
 clear h h0 h1
 revert n
 decide+kernel
def FitU(p:Pk):Prop:=PkOk p/\q21o p/\p.codes=[]/\p.filters=[]/\p.wProps=[]
theorem q21c(f:Int)(h:-9223372036854775808<=(descB f).qos/\(descB f).qos<=9223372036854775807):FitU (descB f):=by
 refine⟨⟨by show _<=(3:Int)/\(3:Int)<=_;decide,h,fun t ht=>?_,fun x hx=>(nomatch hx),fun x hx=>(nomatch hx),fun x hx=>(nomatch hx)⟩,⟨Nat.zero_le _,Nat.zero_le _,Nat.zero_le _,Nat.zero_le _⟩,rfl,rfl,rfl⟩
 have:t=[]:=by simpa [Pk.texts,descB,Pk.zero] using ht
 rw[this];exact Nat.zero_le _
theorem q8d3{p:Pk}(h:FitU p)(t:List UInt8)(ht:t.length<=65535):FitU {p with topic:=t}:=by
 obtain⟨ok,sp,h1,h2,h3⟩:=h;refine⟨⟨ok.kind,ok.qos,fun x hx=>?_,ok.wps,ok.pps,ok.fis⟩,sp,h1,h2,h3⟩;simp only[Pk.texts,List.mem_cons] at hx;rcases hx with rfl|hx
 ·omega
 ·exact ok.texts x (by simp only[Pk.texts,List.mem_cons];exact .inr hx)
theorem q5gr{p:Pk}(h:FitU p)(t:List UInt8)(ht:t.length<=140737488351232):FitU {p with payload:=t}:=by
 obtain⟨ok,sp,h1,h2,h3⟩:=h;refine⟨⟨ok.kind,ok.qos,fun x hx=>?_,ok.wps,ok.pps,ok.fis⟩,sp,h1,h2,h3⟩;simp only[Pk.texts,List.mem_cons] at hx;rcases hx with rfl|rfl|hx
 ·exact ok.texts _ (by simp[Pk.texts])
 ·exact ht
 ·exact ok.texts x (by simp only[Pk.texts,List.mem_cons];exact .inr (.inr hx))
theorem qh4p{p:Pk}(h:FitU p)(i:Int):FitU {p with id:=i}:=by obtain⟨ok,sp,h1,h2,h3⟩:=h;exact⟨⟨ok.kind,ok.qos,ok.texts,ok.wps,ok.pps,ok.fis⟩,sp,h1,h2,h3⟩
theorem qrdd{p:Pk}(h:FitU p)(l:List Pr)(hl:l.length<=1000)(ok2:∀x∈l,PrOk x/\x.text.length<=65535/\x.value.length<=65535):FitU {p with props:=l}:=by obtain⟨ok,sp,h1,h2,h3⟩:=h;refine⟨⟨ok.kind,ok.qos,ok.texts,ok.wps,fun x hx=>?_,ok.fis⟩,⟨sp.1,sp.2.1,by show l.length<=70000;omega,sp.2.2.2⟩,h1,h2,h3⟩;obtain⟨a,b,c⟩:=ok2 x hx;exact⟨a,by omega,by omega⟩
theorem qw0w(f:Int)(w:World):Calls prog 121 #[.int .i64 f] w fun e w'=>e=.returned (.agg (pkC (descB f) adZ))/\Below w.heap.size w w':=by
 obtain⟨D,hD⟩:∃D,pkC (descB f) adZ=D:=⟨_,rfl⟩
 have hD1:D.size=25:=by rw[<-hD];exact qwmp _ _
 have hD2:D.all (·.oneCell')=true:=by rw[<-hD];exact qmz0 _ _
 rw[hD];have HD:=hid hD;have HD1:=hid hD1;have HD2:=hid hD2;have HZ:=hid qbwp;have hzv:=qrai;have hne:¬pkZ=#[]:=by intro h;have:=qbwp;rw[h] at this;cases this
 have LO:=hid (q8xz (qybm (w:=w) (.cells pkZ 38)) (Nat.le_refl _) D);clear hD hD1 hD2;go_in;go_wp2_with (first
  |(refine wpList_buildTo rfl 38 _ rfl (some _) rfl D (by rw[<-HD.out];kernel_rfl) ?_)
  |(refine wpList_store_row rfl _ _ _ rfl w.heap.size D rfl rfl 38 _ (heap_alloc_new w _) (by rw[HD1.out];exact q5nr) (by rw[HZ.out,HD1.out]) HD2.out ?_))
 exact q7wi (cs:=D) rfl rfl rfl underlying38 rfl (by rw[HD1.out];exact q5nr) (setRow_heap _ _ _ _ _ _ (heap_alloc_new w _)) ⟨rfl,LO.out⟩
theorem qpgy(s:ByteArray)(i:Nat)(hi:i<=s.size):s.extract i s.size=bs (s.data.toList.drop i):=by have h:=q31q s i (s.size-i);rw[Nat.add_sub_cancel' hi] at h;rw[h,List.take_of_length_le (by rw[List.length_drop,<-q4ad];exact Nat.le_refl _)]
def Ret3(w:World)(v:Value)(r:List UInt8)(f:Nat)(e:Ending)(w':World):Prop:=e=.returned (.tuple #[v,.string (bs r),.int .i64 (f:Int)])/\Below w.heap.size w w'
theorem qx6q(s:ByteArray)(w:World)(hm:s.size<=9223372036854775807):Calls prog 125 #[.string s] w (Ret3 w (.string (bs (rdT s.data.toList).1)) (s.data.toList.drop (rdT s.data.toList).2.1) (rdT s.data.toList).2.2):=by
 have RD:=q2z4 s w hm;have hz:(rdT s.data.toList).2.1<=s.size:=by rw[q4ad];exact(qslt _).1
 unfold ok3 at RD;obtain⟨t,ht⟩:∃t,rdT s.data.toList=t:=⟨_,rfl⟩
 rw[ht] at RD hz ⊢;obtain⟨x,z,f⟩:=t;have hz:z<=s.size:=hz;have hd:=qpgy s z hz;have hz2:(z:Int)<=(s.size:Int):=by omega
 obtain⟨R,hR⟩:∃R,bs (s.data.toList.drop z)=R:=⟨_,rfl⟩
 rw[hR] at hd;have HR:=hid hR;replace RD:=hid RD;have HZ:=hid hz;clear hz ht hR;simp only at RD ⊢;go_in;go_wp2_with fail;refine(RD.out).mono ?_;rintro e W ⟨rfl,hb⟩;have L:=hid hb;clear hb;have hz:=HZ.out
 go_upto_region 2 with fail
 go_region
 go_wp2
 go_ret3
 refine⟨?_,L.out.drew⟩;rw[HR.out]
 rfl
theorem q3uf(q:Int)(s:ByteArray)(w:World)(hm:s.size<=9223372036854775807):Calls prog 127 #[.int .i64 q,.string s] w (Ret3 w (.int .i64 (((Cs.mk s.data.toList 0).optN (q != 0)).1:Nat)) ((Cs.mk s.data.toList 0).optN (q != 0)).2.r ((Cs.mk s.data.toList 0).optN (q != 0)).2.e):=by
 by_cases hq:q=0
 ·have e1:(q==0)=true:=by simpa using hq
  have e2:(q != 0)=false:=by simpa using hq
  rw[e2];clear hq;show Calls _ _ _ _ (Ret3 w (.int .i64 (0:Nat)) s.data.toList 0);have LO:=hid (Below.refl w.heap.size w);go_in;go_wp2
  go_ret3
  exact⟨rfl,LO.out⟩
 ·have e1:(q==0)=false:=by simpa using hq
  have e2:(q != 0)=true:=by simpa using hq
  rw[e2];clear hq;show Calls _ _ _ _ (Ret3 w (.int .i64 (((Cs.mk s.data.toList 0).num 2).1:Nat)) ((Cs.mk s.data.toList 0).num 2).2.r ((Cs.mk s.data.toList 0).num 2).2.e);have hn:((Cs.mk s.data.toList 0).num 2).1<65536:=Nat.lt_of_lt_of_le (qn9h (((Cs.mk s.data.toList 0).take 2).1)) (by
   have:((Cs.mk s.data.toList 0).take 2).1.length<=2:=by
    unfold Cs.take;split
    ·exact Nat.zero_le _
    ·split
     ·exact Nat.zero_le _
     ·simp;omega
   exact Nat.pow_le_pow_right (by decide) this)
  have NU:=fun W cb (h:CsAt W cb s ⟨s.data.toList,0⟩)=>q8yf 2 (by decide) hm h;obtain⟨z,hz⟩:∃z,(Cs.mk s.data.toList 0).num 2=z:=⟨_,rfl⟩
  rw[hz] at NU hn ⊢;obtain⟨n,y⟩:=z;simp only at NU hn ⊢;have hn1:(n:Int)<65536:=by omega
  have RS:=fun W cb (h:CsAt W cb s y)=>(show Calls prog 45 #[.pointer (some ⟨cb,0,none⟩)] W fun e W'=>e=.returned (.string (bs y.r))/\∃k,W'=W.drewN k from by
   obtain⟨i,hi,hc,hr⟩:=h
   have:=qdvc hc hi hm
   rw[qpgy s i hi,hr] at this;exact this)
  have ER:=fun W cb (h:CsAt W cb s y)=>q3gp h;replace NU:=hid NU;replace RS:=hid RS;replace ER:=hid ER;clear hm hz hn;go_in;go_wp2_with fail;refine(q2gu s _).mono ?_;rintro e W ⟨rfl,hc,hb,hz⟩;have C0:=hid (show CsAt W w.heap.size s ⟨s.data.toList,0⟩ from⟨0,Nat.zero_le _,hc,by simp⟩);have L0:=hid hb;clear hc hb hz;go_wp2_with fail;refine(NU.out _ _ C0.out).mono ?_;rintro e W2 ⟨rfl,hc,hg⟩;have C1:=hid hc;have L1:=hid (L0.out.grown hg L0.out.size (fun k e=>by have:=Option.some.inj e;omega));clear hc hg;go_wp2_with fail;refine(RS.out _ _ C1.out).mono ?_;rintro e W3 ⟨rfl,k,rfl⟩;have C2:=hid (C1.out.below (qnpu (Below.refl _ _) k));have L2:=hid (qxh2 L1.out (qnpu (Below.refl _ _) k));go_wp2_with fail;refine(ER.out _ _ C2.out).mono ?_;rintro e W4 ⟨rfl,rfl⟩;go_wp2
  go_ret3
  exact⟨rfl,L2.out⟩
theorem qawe(v:Int)(s:ByteArray)(w:World)(hm:s.size<=9223372036854775807):Calls prog 129 #[.int .i64 v,.string s] w fun e w'=>∃A c,Ret3 w (.slice A ((Cs.mk s.data.toList 0).props v 3).1.length c) ((Cs.mk s.data.toList 0).props v 3).2.r ((Cs.mk s.data.toList 0).props v 3).2.e e w'/\((Cs.mk s.data.toList 0).props v 3).1.length<=c/\PL w' A ((Cs.mk s.data.toList 0).props v 3).1/\∀g i,A=some ⟨g,i,none⟩->w.heap.size<=g:=by
 by_cases h5:v=5
 ·have e1:(v==5)=true:=by simpa using h5
  have e2:(v != 5)=false:=by simpa using h5
  have ep:(Cs.mk s.data.toList 0).props v 3=((qflw 3 s.data.toList).1,⟨s.data.toList.drop (qflw 3 s.data.toList).2.1,(qflw 3 s.data.toList).2.2⟩):=by unfold Cs.props;rw[if_neg (by simp[h5])]
  rw[ep];obtain⟨L,k,F,hq⟩:∃L k F,qflw 3 s.data.toList=(L,k,F):=⟨_,_,_,rfl⟩
  have RD:=q188 3 s L k F (by decide) (by decide) hm hq w;have hk2:k<=s.size:=by
   by_cases hF:F=0
   ·subst hF
    have:=(qugf hq).2.1
    rw[q4ad];omega
   ·have:=qjfk (kind:=3) (s:=s.data.toList) (by rw[hq];exact hF)
    rw[hq] at this
    have:k=0:=congrArg (fun z=>z.2.1) this
    omega
  rw[hq];have hd:=qpgy s k hk2;have hz2:(k:Int)<=(s.size:Int):=by omega
  obtain⟨R,hR⟩:∃R,bs (s.data.toList.drop k)=R:=⟨_,rfl⟩
  rw[hR] at hd;have HR:=hid hR;have HK:=hid hk2;replace RD:=hid RD;clear hk2 hq hR ep h5 hm;simp only;go_in;go_wp2_with fail;refine(RD.out).mono ?_;rintro e W ⟨hb,A,c,rfl,hl,hP,_,_,hg⟩;have X:=hid (show L.length<=c/\PL W.drew A L/\(∀g i,A=some ⟨g,i,none⟩->w.heap.size<=g)/\Below w.heap.size w W.drew from⟨hl,hP.below (Below.refl _ _).drew,hg,hb.drew⟩);have hz:=HK.out;clear hb hl hP hg
  go_upto_region 4 with fail
  go_region
  go_wp2
  go_ret3
  refine⟨A,c,⟨?_,X.out.2.2.2⟩,X.out.1,X.out.2.1,X.out.2.2.1⟩;rw[HR.out]
  rfl
 ·have e1:(v==5)=false:=by simpa using h5
  have e2:(v != 5)=true:=by simpa using h5
  have ep:(Cs.mk s.data.toList 0).props v 3=([],⟨s.data.toList,0⟩):=by unfold Cs.props;rw[if_pos (.inr h5)]
  rw[ep];have LO:=hid (Below.refl w.heap.size w);clear ep h5;go_in;go_wp2
  go_ret3
  exact⟨none,0,⟨rfl,LO.out⟩,Nat.zero_le _,(fun e=>absurd rfl e),(fun g i e=>by cases e)⟩
def rdrF:Nat->FuncId
 |0=>123
 |1=>124
 |2=>126
 |3=>128
 |_=>130
def rdrC(n B:Nat):Nat->Array Value
 |0=>#[.pointer (some ⟨n,0,none⟩),.pointer (some ⟨n+1,0,none⟩)]
 |1=>#[.pointer (some ⟨n+2,0,none⟩),.pointer (some ⟨B,0,none⟩)]
 |2=>#[.pointer (some ⟨B,0,none⟩),.pointer (some ⟨n+2,0,none⟩)]
 |3=>#[.pointer (some ⟨n,0,none⟩),.pointer (some ⟨n+2,0,none⟩),.pointer (some ⟨B,0,none⟩)]
 |_=>#[.pointer (some ⟨n+2,0,none⟩),.pointer (some ⟨B,0,none⟩),.pointer (some ⟨n,0,none⟩)]
def rdrR(n B:Nat):Array Value:=#[.func (.func (rdrF 0)) #[] (rdrC n B 0),.func (.func (rdrF 1)) #[] (rdrC n B 1),.func (.func (rdrF 2)) #[] (rdrC n B 2),.func (.func (rdrF 3)) #[] (rdrC n B 3),.func (.func (rdrF 4)) #[] (rdrC n B 4)]
theorem q5xx(n B k:Nat)(W:World)(hk:k<5):(callFunc (rdrF k) (rdrC n B k)).run prog W=.ok (.enter (rdrF k) (rdrC n B k)) W:=by
 obtain rfl|rfl|rfl|rfl|rfl:k=0\/k=1\/k=2\/k=3\/k=4:=by omega
 all_goals kernel_rfl
structure PuS(w:World)(v f:Int)(B:Nat)(P:Pk)(a:Ad)(r:List UInt8)(W:World):Prop where
 low:Below w.heap.size w W
 vb:W.heap[w.heap.size]?=some (.cells #[.int .i64 v] 3 (0,0))
 fb:W.heap[w.heap.size+1]?=some (.cells #[.int .i64 f] 3 (0,0))
 sb:W.heap[w.heap.size+2]?=some (.cells #[.string (bs r)] 9 (0,0))
 rb:W.heap[w.heap.size+3]?=some (.cells pkZ 38 (0,0))
 pb:W.heap[B]?=some (.cells (pkC P a) 38 (0,0))
 fn:W.heap[B+1]?=some (.cells (rdrR w.heap.size B) 48 (0,0))
 ps:PL W a.ps P.props
 pc:P.props.length<=a.pc
 pf:∀g i,a.ps=some ⟨g,i,none⟩->B+1<g
 hB:w.heap.size+3<B
 fit:FitU P
 hr:r.length<=140737488351232
section
variable{w W W':World}{v f:Int}{B:Nat}{P:Pk}{a:Ad}{r:List UInt8}
theorem PuS.at_(h:PuS w v f B P a r W):PkAt W P a:=
 ⟨by rw[h.fit.2.2.2.2];exact fun e=>absurd rfl e,by rw[h.fit.2.2.1];exact CL.nil,by rw[h.fit.2.2.2.1];exact CL.nil,h.ps⟩
theorem PuS.call(h:PuS w v f B P a r W)(hb:Below W.heap.size W W'):PuS w v f B P a r W':=
 ⟨qxh2 h.low hb,(hb.block _ (lt_of_block h.vb)).trans h.vb,(hb.block _ (lt_of_block h.fb)).trans h.fb,(hb.block _ (lt_of_block h.sb)).trans h.sb,(hb.block _ (lt_of_block h.rb)).trans h.rb,(hb.block _ (lt_of_block h.pb)).trans h.pb,(hb.block _ (lt_of_block h.fn)).trans h.fn,
  h.ps.below hb,h.pc,h.pf,h.hB,h.fit,h.hr⟩
theorem PuS.cell(h:PuS w v f B P a r W)(j:Nat):W.cell? ⟨B,j,none⟩=(pkC P a)[j]? := cell_of_row _ _ j _ _ _ h.pb
theorem PuS.fr(h:PuS w v f B P a r W)(j:Nat):W.frozen? ⟨B,j,none⟩=false:=frozen_of_row _ _ _ _ _ h.pb
theorem PuS.s0(h:PuS w v f B P a r W):W.cell? ⟨w.heap.size+2,0,none⟩=some (.string (bs r)):=cell_of_row _ _ 0 _ _ _ h.sb
theorem PuS.sf(h:PuS w v f B P a r W):W.frozen? ⟨w.heap.size+2,0,none⟩=false:=frozen_of_row _ _ _ _ _ h.sb
theorem PuS.put(h:PuS w v f B P a r W)(j:Nat)(u:Value){P':Pk}{a':Ad}(he:(pkC P a).setIfInBounds j u=pkC P' a')(ps:PL W a'.ps P'.props)(pc:P'.props.length<=a'.pc)(pf:∀g i,a'.ps=some ⟨g,i,none⟩->B+1<g)(fit:FitU P'):PuS w v f B P' a' r (W.setCell ⟨B,j,none⟩ u):=by
 have hB:=h.hB;have o:∀k,k≠B->(W.setCell ⟨B,j,none⟩ u).heap[k]?=W.heap[k]? := fun k hk=>heap_setCell_other W ⟨B,j,none⟩ k u hk;exact⟨qo4g h.low (by omega),(o _ (by omega)).trans h.vb,(o _ (by omega)).trans h.fb,(o _ (by omega)).trans h.sb,(o _ (by omega)).trans h.rb,qv6p h.pb he,(o _ (by omega)).trans h.fn,
  ps.kept (q99v W B j u).size (fun g i e _=>o g (by have:=pf g i e;omega)),pc,pf,hB,fit,h.hr⟩
theorem PuS.rest(h:PuS w v f B P a r W)(r':List UInt8)(hr:r'.length<=r.length):PuS w v f B P a r' (W.setCell ⟨w.heap.size+2,0,none⟩ (.string (bs r'))):=by
 have hB:=h.hB;have o:∀k,k≠w.heap.size+2->(W.setCell ⟨w.heap.size+2,0,none⟩ (.string (bs r'))).heap[k]?=W.heap[k]? := fun k hk=>heap_setCell_other W ⟨w.heap.size+2,0,none⟩ k _ hk;exact⟨qo4g h.low (by omega),(o _ (by omega)).trans h.vb,(o _ (by omega)).trans h.fb,qv6p h.sb rfl,(o _ (by omega)).trans h.rb,(o _ (by omega)).trans h.pb,(o _ (by omega)).trans h.fn,
  h.ps.kept (q99v W _ 0 _).size (fun g i e _=>o g (by have:=h.pf g i e;omega)),h.pc,h.pf,hB,h.fit,Nat.le_trans hr h.hr⟩
theorem quf2(h:PuS w v f B P a r W):Calls prog 123 #[.pointer (some ⟨w.heap.size,0,none⟩),.pointer (some ⟨w.heap.size+1,0,none⟩)] W fun e W'=>e=.returned (.int .i64 ((q9d8 v ⟨3,f,0⟩:Nat):Int))/\PuS w v f B P a r W':=by have H:=hid h;have k0:W.cell? ⟨w.heap.size,0,none⟩=some (.int .i64 v):=cell_of_row _ _ 0 _ _ _ h.vb;have k1:W.cell? ⟨w.heap.size+1,0,none⟩=some (.int .i64 f):=cell_of_row _ _ 0 _ _ _ h.fb;have CK:=q5sb v ⟨3,f,0⟩ W;unfold hdV at CK;replace CK:=hid CK;clear h;go_in;go_wp2_with fail;refine(CK.out).mono ?_;rintro e W' ⟨rfl,hb⟩;have H2:=hid (H.out.call hb);clear hb;go_wp2;go_ret;exact⟨rfl,H2.out⟩
theorem qhj5(h:PuS w v f B P a r W):Calls prog 124 #[.pointer (some ⟨w.heap.size+2,0,none⟩),.pointer (some ⟨B,0,none⟩)] W fun e W'=>e=.returned (.int .i64 (((rdT r).2.2:Nat):Int))/\PuS w v f B {P with topic:=(rdT r).1} a (r.drop (rdT r).2.1) W':=by
 have H:=hid h;have k0:=h.s0;have RT:=qx6q (bs r) W (by rw[q5zk];have:=h.hr;omega);rw[qkd1] at RT;unfold Ret3 at RT;have ht:=(qslt r).2;obtain⟨t,htt⟩:∃t,rdT r=t:=⟨_,rfl⟩
 rw[htt] at RT ht ⊢;obtain⟨x,z,g⟩:=t;simp only at RT ht ⊢;replace RT:=hid RT;have FT:=hid (q8d3 h.fit x ht);have hd:(r.drop z).length<=r.length:=by rw[List.length_drop];omega
 have HD:=hid hd;clear h htt ht hd;go_in;go_wp2_with fail;refine(RT.out).mono ?_;rintro e W' ⟨rfl,hb⟩;have H2:=hid (H.out.call hb);clear hb k0;have H3:=hid (H2.out.put 5 (.string (bs x)) (P':={P with topic:=x}) (a':=a) rfl H2.out.ps H2.out.pc H2.out.pf FT.out);have H4:=hid (H3.out.rest (r.drop z) HD.out);have n5:W'.cell? ⟨B,5,none⟩=some (.string (bs P.topic)):=H2.out.cell 5;have f5:=H2.out.fr 5;have ns:=H3.out.s0;have fs:=H3.out.sf;go_wp2;go_ret;exact⟨rfl,H4.out⟩
theorem qx0d(h:PuS w v f B P a r W):Calls prog 126 #[.pointer (some ⟨B,0,none⟩),.pointer (some ⟨w.heap.size+2,0,none⟩)] W fun e W'=>e=.returned (.int .i64 ((((Cs.mk r 0).optN (P.qos != 0)).2.e:Nat):Int))/\PuS w v f B {P with id:=(((Cs.mk r 0).optN (P.qos != 0)).1:Nat)} a ((Cs.mk r 0).optN (P.qos != 0)).2.r W':=by
 have H:=hid h;have k0:=h.s0;have k3:W.cell? ⟨B,3,none⟩=some (.int .i64 P.qos):=h.cell 3;have RI:=q3uf P.qos (bs r) W (by rw[q5zk];have:=h.hr;omega);rw[qkd1] at RI;unfold Ret3 at RI;have hd:((Cs.mk r 0).optN (P.qos != 0)).2.r.length<=r.length:=by
  unfold Cs.optN;split
  ·unfold Cs.num Cs.take;split
   ·exact Nat.le_refl _
   ·split
    ·exact Nat.le_refl _
    ·exact(List.drop_sublist _ _).length_le
  ·exact Nat.le_refl _
 obtain⟨t,htt⟩:∃t,(Cs.mk r 0).optN (P.qos != 0)=t:=⟨_,rfl⟩
 rw[htt] at RI hd ⊢;obtain⟨n,y⟩:=t;simp only at RI hd ⊢;replace RI:=hid RI;have FT:=hid (qh4p h.fit (n:Nat));have HD:=hid hd;clear h htt hd;go_in;go_wp2_with fail;refine(RI.out).mono ?_;rintro e W' ⟨rfl,hb⟩;have H2:=hid (H.out.call hb);clear hb k0 k3;have H3:=hid (H2.out.put 4 (.int .i64 (n:Int)) (P':={P with id:=(n:Nat)}) (a':=a) rfl H2.out.ps H2.out.pc H2.out.pf FT.out);have H4:=hid (H3.out.rest y.r HD.out);have n4:W'.cell? ⟨B,4,none⟩=some (.int .i64 P.id):=H2.out.cell 4;have f4:=H2.out.fr 4;have ns:=H3.out.s0;have fs:=H3.out.sf;go_wp2;go_ret;exact⟨rfl,H4.out⟩
theorem q4w6(h:PuS w v f B P a r W):Calls prog 128 #[.pointer (some ⟨w.heap.size,0,none⟩),.pointer (some ⟨w.heap.size+2,0,none⟩),.pointer (some ⟨B,0,none⟩)] W fun e W'=>e=.returned (.int .i64 ((((Cs.mk r 0).props v 3).2.e:Nat):Int))/\∃a',PuS w v f B {P with props:=((Cs.mk r 0).props v 3).1} a' ((Cs.mk r 0).props v 3).2.r W':=by
 have H:=hid h;have k0:=h.s0;have kv:W.cell? ⟨w.heap.size,0,none⟩=some (.int .i64 v):=cell_of_row _ _ 0 _ _ _ h.vb;have RP:=qawe v (bs r) W (by rw[q5zk];have:=h.hr;omega);rw[qkd1] at RP;unfold Ret3 at RP;have hd:((Cs.mk r 0).props v 3).2.r.length<=r.length:=by
  unfold Cs.props;split
  ·exact Nat.le_refl _
  ·exact(List.drop_sublist _ _).length_le
 have hf:=q5pm (Cs.mk r 0) v 3;obtain⟨t,htt⟩:∃t,(Cs.mk r 0).props v 3=t:=⟨_,rfl⟩
 rw[htt] at RP hd hf ⊢;obtain⟨L,y⟩:=t;simp only at RP hd hf ⊢;replace RP:=hid RP;have FT:=hid (qrdd h.fit L hf.2 hf.1);have HD:=hid hd;have HB:=hid (lt_of_block h.fn);clear h htt hd hf;go_in;go_wp2_with fail;refine(RP.out).mono ?_;rintro e W' ⟨A,c,⟨rfl,hb⟩,hl,hP,hg⟩;have H2:=hid (H.out.call hb);have H3:=hid (H2.out.put 24 (.slice A L.length c) (P':={P with props:=L}) (a':={a with ps:=A,pc:=c}) rfl hP hl (fun g i e=>by have:=hg g i e;have:=HB.out;omega) FT.out);clear hb k0 kv hl hP hg;have H4:=hid (H3.out.rest y.r HD.out);have n4:W'.cell? ⟨B,24,none⟩=some (.slice a.ps P.props.length a.pc):=H2.out.cell 24;have f4:=H2.out.fr 24;have ns:=H3.out.s0;have fs:=H3.out.sf;go_wp2;go_ret;exact⟨rfl,_,H4.out⟩
theorem qiom(h:PuS w v f B P a r W):Calls prog 130 #[.pointer (some ⟨w.heap.size+2,0,none⟩),.pointer (some ⟨B,0,none⟩),.pointer (some ⟨w.heap.size,0,none⟩)] W fun e W'=>e=.returned (.int .i64 ((q6ed v {P with payload:=r}:Nat):Int))/\PuS w v f B {P with payload:=r} a r W':=by have k0:=h.s0;have H3:=hid (h.put 6 (.string (bs r)) (P':={P with payload:=r}) (a':=a) rfl h.ps h.pc h.pf (q5gr h.fit r h.hr));have n6:W.cell? ⟨B,6,none⟩=some (.string (bs P.payload)):=h.cell 6;have f6:=h.fr 6;have VA:=hid (qjot v {P with payload:=r} a _ H3.out.at_ H3.out.fit.2.1 H3.out.fit.1 H3.out.pc);have kv:(W.setCell ⟨B,6,none⟩ (.string (bs r))).cell? ⟨w.heap.size,0,none⟩=some (.int .i64 v):=cell_of_row _ _ 0 _ _ _ H3.out.vb;have C1:=hid (qwmp {P with payload:=r} a);clear h;go_in;go_wp2_with (refine wpList_load_row rfl _ _ rfl B rfl 38 _ (0,0) _ H3.out.pb underlying38 rfl (by rw[C1.out];exact q5nr) ?_);refine(VA.out).mono ?_;rintro e W' ⟨rfl,hb⟩;have H4:=hid (H3.out.call hb);clear hb;go_wp2;go_ret;exact⟨rfl,H4.out⟩
end
def RelR(f:Int)(l:List UInt8)(t:List UInt8×Cs)(i:Nat×Cs)(p:List Pr×Cs)(X P:Pk)(r:List UInt8):Nat->Prop
 |0=>P=descB f/\r=l
 |1=>P=qf69 f/\r=l
 |2=>P={qf69 f with topic:=t.1}/\t.2=⟨r,0⟩
 |3=>P={qf69 f with topic:=t.1,id:=(i.1:Nat)}/\i.2=⟨r,0⟩
 |4=>P={qf69 f with topic:=t.1,id:=(i.1:Nat),props:=p.1}/\r=p.2.r
 |_=>P=X
def qlch(w:World)(R:Pk×Nat)(e:Ending)(W:World):Prop:=
 ∃a:Ad,e=.returned (.tuple #[.agg (pkC R.1 a),.int .i64 (R.2:Nat)])/\PkAt W R.1 a/\R.1.props.length<=a.pc/\FitU R.1/\Below w.heap.size w W/\(R.2≠0->a=adZ)/\FrA w R.1 a
theorem qnuz:FitU Pk.zero:=by
 refine⟨⟨by decide,by decide,fun t ht=>?_,fun x hx=>(nomatch hx),fun x hx=>(nomatch hx),fun x hx=>(nomatch hx)⟩,⟨Nat.zero_le _,Nat.zero_le _,Nat.zero_le _,Nat.zero_le _⟩,rfl,rfl,rfl⟩
 have:t=[]:=by simpa [Pk.texts,Pk.zero] using ht
 rw[this];decide
theorem q0jx(x:Int):-9223372036854775808<=wrap64 x/\wrap64 x<=9223372036854775807:=by unfold wrap64;omega
theorem qnge{s:Cs}{r:List UInt8}(h1:s.r=r)(h2:s.e=0):s=⟨r,0⟩:=by
 obtain⟨x,y⟩:=s;cases h1;cases h2
 rfl
theorem qq7c(w:World)(v f:Int)(B:Nat)(l:List UInt8)(W:World)(a:Ad)(hS:PuS w v f B (descB f) a l W) :
 Calls prog 122 #[.slice (some ⟨B+1,0,none⟩) 5 5] W fun e W'=>∃r:Nat,e=.returned (.int .i64 (r:Int))/\r=qn5i (qgle v f l)/\(r≠0->∃P a s,PuS w v f B P a s W')/\(r=0->∃a s,PuS w v f B (qefe v f ⟨l,0⟩).1 a s W'):=by
 obtain⟨t,ht⟩:∃t,(Cs.mk l 0).text=t:=⟨_,rfl⟩
 obtain⟨i,hi⟩:∃i,t.2.optN (f / 2%4 != 0)=i:=⟨_,rfl⟩
 obtain⟨p,hp⟩:∃p,i.2.props v 3=p:=⟨_,rfl⟩
 have hX:(qefe v f ⟨l,0⟩).1={qf69 f with topic:=t.1,id:=(i.1:Nat),props:=p.1,payload:=p.2.r}:=by subst ht hi hp;rfl
 have hE:qgle v f l=[q9d8 v ⟨3,f,0⟩,t.2.e,i.2.e,p.2.e,q6ed v (qefe v f ⟨l,0⟩).1]:=by subst ht hi hp;rfl
 have ht2:t=((rdT l).1,⟨l.drop (rdT l).2.1,(rdT l).2.2⟩):=by rw[<-ht];rfl
 obtain⟨X,hXX⟩:∃X,(qefe v f ⟨l,0⟩).1=X:=⟨_,rfl⟩
 rw[hXX] at hX hE ⊢;obtain⟨E,hEE⟩:∃E,qn5i (qgle v f l)=E:=⟨_,rfl⟩
 rw[hEE];refine(qfnm (B+1) 5 rdrF (rdrC w.heap.size B) (fun k W=>(∃P a r,PuS w v f B P a r W/\RelR f l t i p X P r k)/\qn5i ((qgle v f l).drop k)=E) (fun r W=>(∃P a s,PuS w v f B P a s W)/\r=E) W (by decide)
  (fun k W hk h=>by
   obtain⟨⟨P,a,r,hP,_⟩,_⟩:=h;rw[cell_of_row _ _ k _ _ _ hP.fn];obtain rfl|rfl|rfl|rfl|rfl:k=0\/k=1\/k=2\/k=3\/k=4:=by omega
   all_goals rfl)
  (fun k W hk h=>by
   obtain⟨⟨P,a,r,hP,hR⟩,hF⟩:=h;rw[hE] at hF;obtain rfl|rfl|rfl|rfl|rfl:k=0\/k=1\/k=2\/k=3\/k=4:=by omega
   ·obtain⟨rfl,rfl⟩:=hR;refine(quf2 hP).mono fun e W' ⟨he,hP'⟩=>⟨_,he,fun h0=>⟨⟨_,_,_,hP',?_⟩,?_⟩,fun hne=>⟨⟨_,_,_,hP'⟩,?_⟩⟩
    ·refine⟨q1ox ?_,rfl⟩;rw[q4p4] at h0;split at h0
     ·cases h0
     ·split at h0
      ·cases h0
      ·rename_i h;simpa using h
    ·rw[hE];simpa [qn5i,h0] using hF
    ·simpa [qn5i,hne] using hF
   ·obtain⟨rfl,rfl⟩:=hR;refine(qhj5 hP).mono fun e W' ⟨he,hP'⟩=>⟨_,he,fun h0=>⟨⟨_,_,_,hP',?_⟩,?_⟩,fun hne=>⟨⟨_,_,_,hP'⟩,?_⟩⟩
    ·refine⟨by rw[ht2],?_⟩;rw[ht2];exact qnge rfl h0
    ·rw[hE]
     have:t.2.e=0:=by rw[ht2];exact h0
     simpa [qn5i,this] using hF
    ·have e1:t.2.e=(rdT r).2.2:=by rw[ht2]
     have:t.2.e≠0:=by rw[e1];exact hne
     rw[<-e1];simpa [qn5i,this] using hF
   ·obtain⟨rfl,hr⟩:=hR;have hi2:(Cs.mk r 0).optN (f / 2%4 != 0)=i:=by rw[<-hr];exact hi
    have P3:=qx0d hP;rw[show({qf69 f with topic:=t.1}:Pk).qos=f / 2%4 from rfl,hi2] at P3;refine P3.mono fun e W' ⟨he,hP'⟩=>⟨_,he,fun h0=>⟨⟨_,_,_,hP',rfl,qnge rfl h0⟩,?_⟩,fun hne=>⟨⟨_,_,_,hP'⟩,?_⟩⟩
    ·rw[hE];simpa [qn5i,h0] using hF
    ·simpa [qn5i,hne] using hF
   ·obtain⟨rfl,hr⟩:=hR;have hp2:(Cs.mk r 0).props v 3=p:=by rw[<-hr];exact hp
    have P4:=q4w6 hP;rw[hp2] at P4;refine P4.mono fun e W' ⟨he,a',hP'⟩=>⟨_,he,fun h0=>⟨⟨_,_,_,hP',rfl,rfl⟩,?_⟩,fun hne=>⟨⟨_,_,_,hP'⟩,?_⟩⟩
    ·rw[hE];simpa [qn5i,h0] using hF
    ·simpa [qn5i,hne] using hF
   ·obtain⟨rfl,rfl⟩:=hR;have P5:=qiom hP;rw[<-hX] at P5;refine P5.mono fun e W' ⟨he,hP'⟩=>⟨_,he,fun h0=>⟨⟨_,_,_,hP',rfl⟩,?_⟩,fun hne=>⟨⟨_,_,_,hP'⟩,?_⟩⟩
    ·rw[hE];simpa [qn5i,h0] using hF
    ·simpa [qn5i,hne] using hF)
  (fun k W hk=>q5xx _ _ k W hk) ⟨⟨_,_,_,hS,rfl,rfl⟩,hEE⟩).mono fun e W' ⟨r,he,h0,h1⟩=>?_
 by_cases hr:r=0
 ·obtain⟨⟨P,a,s,hP,hPX⟩,hf⟩:=h0 hr;rw[hE] at hf;exact⟨r,he,hr.trans hf,fun h=>absurd hr h,fun _=>⟨a,s,by rw[<-show P=X from hPX];exact hP⟩⟩
 ·obtain⟨hP,hf⟩:=h1 hr;exact⟨r,he,hf,fun _=>hP,fun h=>absurd h hr⟩
theorem qfim(v f:Int)(s:ByteArray)(w:World)(hm:s.size<=140737488351232) :
 Calls prog 92 #[.int .i64 v,.int .i64 f,.string s] w (qlch w (qgrv v f s.data.toList)):=by
 have hl:s.data.toList.length<=140737488351232:=by rw[<-q4ad];exact hm
 have hR:=qg5r v f s.data.toList;have FI:=fun W B a (hS:PuS w v f B (descB f) a s.data.toList W)=>qq7c w v f B s.data.toList W a hS;obtain⟨X,hX⟩:∃X,(qefe v f ⟨s.data.toList,0⟩).1=X:=⟨_,rfl⟩
 obtain⟨E,hE⟩:∃E,qn5i (qgle v f s.data.toList)=E:=⟨_,rfl⟩
 rw[hX,hE] at hR;rw[hX,hE] at FI;obtain⟨R,hRR⟩:∃R,qgrv v f s.data.toList=R:=⟨_,rfl⟩
 rw[hRR] at hR ⊢;have HR:=hid hR;have DE:=hid (fun W=>qw0w f W);have FD:=hid (q21c f (q0jx _));replace FI:=hid FI;have HL:=hid hl;have hmf:∀(fn:Fn) (f c:Array Value) (w:World),(Instr.makeFunc fn f c).run prog w=.ok (.func fn f c) w:=fun _ _ _ _=>rfl;have HZ:=hid qbwp;have hzv:=qrai;have hne:¬pkZ=#[]:=by intro h;have:=qbwp;rw[h] at this;cases this
 have ZO:Hid (pkZ.all (·.oneCell')=true):=hid (qmz0 Pk.zero adZ);obtain⟨W0,hW0⟩:∃W0,(((w.alloc (.cells #[.int .i64 v] 3)).alloc (.cells #[.int .i64 f] 3)).alloc (.cells #[.string s] 9)).alloc (.cells pkZ 38)=W0:=⟨_,rfl⟩
 have hz0:W0.heap.size=w.heap.size+4:=by rw[<-hW0];simp
 have hlow:Below w.heap.size w W0:=by rw[<-hW0];exact qxh2 (qxh2 (qxh2 (qybm _) (qybm _)) (qybm _)) (qybm _)
 have hvb:W0.heap[w.heap.size]?=some (.cells #[.int .i64 v] 3 (0,0)):=by rw[<-hW0];exact(heap_alloc_old _ _ (by simp only[World.size_alloc];omega)).trans ((heap_alloc_old _ _ (by simp only[World.size_alloc];omega)).trans (heap_alloc2_old _ _ _))
 have hfb:W0.heap[w.heap.size+1]?=some (.cells #[.int .i64 f] 3 (0,0)):=by rw[<-hW0];exact(heap_alloc_old _ _ (by simp)).trans ((heap_alloc_old _ _ (by simp)).trans (heap_alloc2_new _ _ _))
 have hsb:W0.heap[w.heap.size+2]?=some (.cells #[.string s] 9 (0,0)):=by
  rw[<-hW0];refine(heap_alloc_old _ _ (by simp)).trans ?_
  have:=heap_alloc_new ((w.alloc (.cells #[.int .i64 v] 3)).alloc (.cells #[.int .i64 f] 3)) (.cells #[.string s] 9)
  rwa [show((w.alloc (.cells #[.int .i64 v] 3)).alloc (.cells #[.int .i64 f] 3)).heap.size=w.heap.size+2 by simp] at this
 have hrb:W0.heap[w.heap.size+3]?=some (.cells pkZ 38 (0,0)):=by
  rw[<-hW0]
  have:=heap_alloc_new (((w.alloc (.cells #[.int .i64 v] 3)).alloc (.cells #[.int .i64 f] 3)).alloc (.cells #[.string s] 9)) (.cells pkZ 38)
  rwa [show(((w.alloc (.cells #[.int .i64 v] 3)).alloc (.cells #[.int .i64 f] 3)).alloc (.cells #[.string s] 9)).heap.size=w.heap.size+3 by simp] at this
 have W0F:=hid (And.intro hz0 (And.intro hlow (And.intro hvb (And.intro hfb (And.intro hsb hrb)))));have k1:W0.cell? ⟨w.heap.size+1,0,none⟩=some (.int .i64 f):=cell_of_row _ _ 0 _ _ _ hfb;clear hm hl hX hE hR hRR hz0 hlow hvb hfb hsb hrb;go_in
 go_upto_region 1 with fail
 clear hW0;go_wp2_with fail;refine(DE.out _).mono ?_;rintro e W1 ⟨rfl,hb⟩;have hz1:W0.heap.size<=W1.heap.size:=hb.size;obtain⟨hz0,hlow,hvb,hfb,hsb,hrb⟩:=W0F.out;have k:∀j o,W0.heap[j]?=some o->((W1.alloc (.cells pkZ 38)).setRow W1.heap.size (pkC (descB f) adZ)).heap[j]?=some o:=fun j o h=>by have hj:=lt_of_block h;exact(setRow_other _ _ _ _ (by omega)).trans ((heap_alloc_old _ _ (by omega)).trans ((hb.block j hj).trans h))
 have G0:=heap_alloc_new W1 (.cells pkZ 38);have LO:=qxh2 hlow (qxh2 hb (q8xz (qybm (.cells pkZ 38)) (Nat.le_refl _) (pkC (descB f) adZ)));have G1:=setRow_heap _ _ _ (pkC (descB f) adZ) _ _ G0;have hz2:((W1.alloc (.cells pkZ 38)).setRow W1.heap.size (pkC (descB f) adZ)).heap.size=W1.heap.size+1:=by simp[World.setRow]
 have hk:=And.intro (k _ _ hvb) (And.intro (k _ _ hfb) (And.intro (k _ _ hsb) (k _ _ hrb)));have HK:=hid hk;have HD1:=hid (qwmp (descB f) adZ);have HD2:=hid (qmz0 (descB f) adZ);have BF:=hid (show w.heap.size+3<W1.heap.size by omega);have LO:=hid LO;have G1:=hid G1;have G0:=hid G0;have HZ2:=hid hz2;clear k hk hz0 hlow hvb hfb hsb hrb hb hz1 hz2 k1 W0F
 go_upto_region 2 with (refine wpList_store_row rfl _ _ _ rfl W1.heap.size (pkC (descB f) adZ) rfl rfl 38 _ G0.out (by rw[HD1.out];exact q5nr) (by rw[HZ.out,HD1.out]) HD2.out ?_)
 clear G0;obtain⟨W2,hW2⟩:∃W2,(W1.alloc (.cells pkZ 38)).setRow W1.heap.size (pkC (descB f) adZ)=W2:=⟨_,rfl⟩
 rw[hW2] at HK G1 LO HZ2 ⊢;obtain⟨B,hB⟩:∃B,W1.heap.size=B:=⟨_,rfl⟩
 rw[hB] at G1 BF HZ2 ⊢;have LO:=hid (show Below w.heap.size w W2 from LO.out);have S2:=fun(h:(W2.alloc (.cells (rdrR w.heap.size B) 48)).heap[B+1]?=some (.cells (rdrR w.heap.size B) 48 (0,0)))=>FI.out (W2.alloc (.cells (rdrR w.heap.size B) 48)) B adZ
  (
   have b:=qybm (w:=W2) (.cells (rdrR w.heap.size B) 48)
   ⟨qxh2 LO.out b,(b.block _ (lt_of_block HK.out.1)).trans HK.out.1,(b.block _ (lt_of_block HK.out.2.1)).trans HK.out.2.1,(b.block _ (lt_of_block HK.out.2.2.1)).trans HK.out.2.2.1,(b.block _ (lt_of_block HK.out.2.2.2)).trans HK.out.2.2.2,(b.block _ (lt_of_block G1.out)).trans G1.out,h,
    fun e=>absurd rfl e,Nat.zero_le _,(fun g i e=>by cases e),BF.out,FD.out,HL.out⟩)
 have S2:=S2 (by have:=heap_alloc_new W2 (.cells (rdrR w.heap.size B) 48);rwa [HZ2.out] at this);have S2:=hid S2;have hzz:=HZ2.out;clear hW2 hB HK G1 LO BF FI FD DE HL HZ2;go_wp2_with fail;refine(S2.out).mono ?_;rintro e W4 ⟨r,rfl,hrE,h1,h0⟩;clear S2 hzz hmf;by_cases hr:r=0
 ·obtain⟨a,s',hS⟩:=h0 hr;have hE0:E=0:=hrE.symm.trans hr;have e1:=qwmp X a;have e2:=qmz0 X a;have RT:qlch w R (.returned (.tuple #[.agg (pkC X a),.int .i64 0])) (W4.setRow (w.heap.size+3) (pkC X a)):=by
   rw[HR.out,if_pos hE0];have hB:=hS.hB;have hk:PkAt (W4.setRow (w.heap.size+3) (pkC X a)) X a:=by
    have hat:=hS.at_;refine⟨?_,?_,?_,hS.ps.kept (by simp[World.setRow]) (fun g i e _=>setRow_other W4 (w.heap.size+3) g _ (by have:=hS.pf g i e;omega))⟩
    ·rw[hS.fit.2.2.2.2];exact fun e=>absurd rfl e
    ·rw[hS.fit.2.2.1];exact CL.nil
    ·rw[hS.fit.2.2.2.1];exact CL.nil
   exact⟨a,rfl,hk,hS.pc,hS.fit,q8xz hS.low (by omega) _,fun h=>absurd rfl h,qq13 hS.fit.2.2.2.2 hS.fit.2.2.1 hS.fit.2.2.2.1 fun g i e=>by have:=hS.pf g i e;omega⟩
  have G1:=hS.pb;have G2:=hid hS.rb;obtain⟨D,hD⟩:∃D,pkC X a=D:=⟨_,rfl⟩
  rw[hD] at e1 e2 RT G1;have E1:=hid e1;have E2:=hid e2;have RT:=hid RT;have G1:=hid G1;subst hr;clear hS hD e1 e2 h0 h1 hrE hE0 HR;go_wp2_with (first
   |(refine wpList_load_row rfl _ _ rfl B rfl 38 D (0,0) _ G1.out underlying38 rfl (by rw[E1.out];exact q5nr) ?_)
   |(refine wpList_store_row rfl _ _ _ rfl (w.heap.size+3) D rfl rfl 38 _ G2.out (by rw[E1.out];exact q5nr) (by rw[HZ.out,E1.out]) E2.out ?_))
  exact q8iy (cs:=D) rfl rfl rfl rfl underlying38 rfl (by rw[E1.out];exact q5nr) (setRow_heap _ _ _ _ _ _ G2.out) RT.out
 ·obtain⟨P,a,s',hS⟩:=h1 hr;have hE0:E≠0:=fun e=>hr (hrE.trans e);have RT:=hid (show qlch w R (.returned (.tuple #[.agg pkZ,.int .i64 (r:Int)])) (W4.setRow (w.heap.size+3) pkZ) by rw[HR.out,if_neg hE0,hrE];exact⟨adZ,rfl,qa3p _,Nat.zero_le _,qnuz,q8xz hS.low (by omega) _,fun _=>rfl,q16x w⟩)
  have G2:=hid hS.rb;have r1:((r:Int)==0)=false:=by simp;omega
  have r2:((r:Int) != 0)=true:=by simp;omega
  clear hS h0 h1 hrE hE0 hr HR;go_wp2_with (first
   |(refine wpList_buildTo rfl 38 _ rfl (some _) rfl pkZ (by kernel_rfl) ?_)
   |(refine wpList_store_row rfl _ _ _ rfl (w.heap.size+3) pkZ rfl rfl 38 _ G2.out (by rw[HZ.out];exact q5nr) rfl ZO.out ?_))
  exact q8iy (cs:=pkZ) rfl rfl rfl rfl underlying38 rfl (by rw[HZ.out];exact q5nr) (setRow_heap _ _ _ _ _ _ G2.out) RT.out
theorem qhe7{p:Pk}(h:idU p=true):p.qos=0\/(p.qos≠0/\0<p.id/\p.id<=65535):=by
 unfold idU at h;by_cases hq:p.qos=0
 ·exact .inl hq
 ·rw[if_neg hq,Bool.and_eq_true,decide_eq_true_eq,decide_eq_true_eq] at h;exact .inr ⟨hq,h.1,h.2⟩
def idL(p:Pk):List UInt8:=if p.qos=0 then [] else be p.id.toNat 2
theorem qj5f(p:Pk)(a:Ad)(w:World)(hi:idU p=true):Calls prog 119 #[.agg (pkC p a)] w fun e w'=>e=.returned (.string (bs (idL p)))/\Below w.heap.size w w':=by
 have S0:=hid (BxS.made w p a);have c3:(w.alloc (.cells (pkC p a) 38)).cell? ⟨w.heap.size,3,none⟩=some (.int .i64 p.qos):=S0.out.cell 3;have c4:(w.alloc (.cells (pkC p a) 38)).cell? ⟨w.heap.size,4,none⟩=some (.int .i64 p.id):=S0.out.cell 4;unfold idL;rcases qhe7 hi with hq|⟨hq,h0,h1⟩
 ·rw[if_pos hq];have e1:(p.qos==0)=true:=by simpa using hq
  clear hq hi;generalize p.qos=q at *;go_in;go_wp2;go_ret;exact⟨rfl,S0.out.low⟩
 ·rw[if_neg hq];have e1:(p.qos==0)=false:=by simpa using hq
  obtain⟨n,hn⟩:∃n:Nat,p.id=n:=⟨p.id.toNat,by omega⟩
  rw[hn] at c4 h0 h1 ⊢;have PU:=hid (fun W=>qe3g n 2 W (by omega));have h2:(n:Int)<65536:=by omega
  rw[Int.toNat_natCast];clear hq hi hn;generalize p.qos=q at *;go_in;go_wp2_with fail;refine(PU.out _).mono ?_;rintro e W ⟨rfl,hb⟩;have L:=hid (S0.out.call hb);clear hb;go_wp2;go_ret;exact⟨rfl,L.out.low⟩
theorem qk8q(v:Int)(p:Pk)(a:Ad)(w:World)(hp:PkAt w p a)(ok:PkOk p)(hc:p.props.length<=a.pc):Calls prog 120 #[.int .i64 v,.agg (pkC p a)] w fun e w'=>e=.returned (.string (bs (tailC v 3 p.props)))/\Below w.heap.size w w':=by
 have S0:=hid (BxS.made w p a);have c24:(w.alloc (.cells (pkC p a) 38)).cell? ⟨w.heap.size,24,none⟩=some (.slice a.ps p.props.length a.pc):=S0.out.cell 24;have BY:=hid (qs01 3 a.ps p.props.length a.pc p.props (w.alloc (.cells (pkC p a) 38)) (by decide) (by decide) (hp.below S0.out.low).ps rfl hc (fun x hx=>(ok.pps x hx).1));unfold tailC;by_cases h5:v=5
 ·rw[if_pos h5];have e1:(v==5)=true:=by simpa using h5
  have e2:(v != 5)=false:=by simpa using h5
  clear h5 hp ok hc;go_in;go_wp2_with fail;refine(BY.out).mono ?_;rintro e W ⟨rfl,hb⟩;have L:=hid (qxh2 S0.out.low hb);clear hb;go_wp2;go_ret;exact⟨rfl,L.out⟩
 ·rw[if_neg h5];have e1:(v==5)=false:=by simpa using h5
  have e2:(v != 5)=true:=by simpa using h5
  clear h5 hp ok hc BY;go_in;go_wp2;go_ret;exact⟨rfl,S0.out.low⟩
theorem qtj6(v:Int)(p:Pk):rawU v p=enc2 p.topic++idL p++tailC v 3 p.props++p.payload:=by simp[rawU,idL]
theorem q9iu(p:Pk):(idL p).length<=2:=by
 unfold idL;split
 ·exact Nat.zero_le _
 ·rw[q0rl];exact Nat.le_refl _
theorem qxje{v:Int}{p:Pk}(ok:PkOk p)(h:q6ed v p=0):(enc2 p.topic).length<=65537/\(tailC v 3 p.props).length<=300000000/\p.payload.length<=140737488351232:=by
 obtain⟨_,_,_,_,_,ht,hp,_⟩:=qhc8 h;have hl:=((qbv6 _).1 (qahj ht)).1;refine⟨by rw[qnp6];omega,?_,ok.texts _ (by simp[Pk.texts])⟩;refine qp2i ?_;unfold rightC;split
 ·exact hp
 ·rfl
theorem qoa5n(v:Int)(p:Pk)(a:Ad)(w:World)(hp:PkAt w p a)(sp:q21o p)(ok:PkOk p)(hc:p.props.length<=a.pc) :
 Calls prog 91 #[.int .i64 v,.agg (pkC p a)] w fun e w'=>e=.returned (.tuple #[.string (bs (qtsh v p).1),.int .i64 ((qtsh v p).2:Nat)])/\Below w.heap.size w w':=by
 have S0:=hid (BxS.made w p a);have C1:=hid (qwmp p a);have VA:=fun W (h:BxS w p a W)=>qjot v p a W (hp.below h.low) sp ok hc;unfold qtsh;by_cases hv:q6ed v p=0
 ·rw[if_neg (by simpa using hv),qtj6];rw[hv] at VA;obtain⟨l1,l2,l3⟩:=qxje ok hv;have hi:=(qhc8 hv).2.2.2.1;have ht:=(qhc8 hv).2.2.2.2.2.1;have l4:=q9iu p;have TX:=fun W=>q9xc (bs p.topic) W (by rw[qkd1];exact qahj ht);rw[qkd1] at TX;have ID:=fun W (h:BxS w p a W)=>(qj5f p a W hi).mono fun e W' hh=>(⟨hh.1,h.call hh.2⟩:_/\BxS w p a W')
  have PR:=fun W (h:BxS w p a W)=>(qk8q v p a W (hp.below h.low) ok hc).mono fun e W' hh=>(⟨hh.1,h.call hh.2⟩:_/\BxS w p a W')
  have K5:=hid (fun W (h:BxS w p a W)=>(h.cell 5:W.cell? ⟨w.heap.size,5,none⟩=some (.string (bs p.topic))));have e1:bs (enc2 p.topic)++bs (idL p)=bs (enc2 p.topic++idL p):=qyv7 _ _;have e2:bs (enc2 p.topic++idL p)++bs (tailC v 3 p.props)=bs (enc2 p.topic++idL p++tailC v 3 p.props):=qyv7 _ _;have e3:bs (enc2 p.topic++idL p++tailC v 3 p.props)++bs p.payload=bs (enc2 p.topic++idL p++tailC v 3 p.props++p.payload):=qyv7 _ _;have s1:(bs (enc2 p.topic++idL p)).size<=9223372036854775807:=by rw[q5zk];simp only[List.length_append];omega
  have s2:(bs (enc2 p.topic++idL p++tailC v 3 p.props)).size<=9223372036854775807:=by rw[q5zk];simp only[List.length_append];omega
  have s3:(bs (enc2 p.topic++idL p++tailC v 3 p.props++p.payload)).size<=9223372036854775807:=by rw[q5zk];simp only[List.length_append];omega
  have AD:=hid (And.intro (And.intro e1 s1) (And.intro (And.intro e2 s2) (And.intro e3 s3)));replace VA:=hid VA;replace TX:=hid TX;replace ID:=hid ID;replace PR:=hid PR;clear hp sp ok hc hv l1 l2 l3 l4 hi ht e1 e2 e3 s1 s2 s3;go_in;go_wp2_with (refine wpList_load_row rfl _ _ rfl w.heap.size rfl 38 _ (0,0) _ S0.out.box underlying38 rfl (by rw[C1.out];exact q5nr) ?_);refine(VA.out _ S0.out).mono ?_;rintro e W ⟨rfl,hb⟩;have S1:=hid (S0.out.call hb);have k5:W.cell? ⟨w.heap.size,5,none⟩=some (.string (bs p.topic)):=K5.out W S1.out;clear hb S0;go_wp2_with fail;refine(TX.out _).mono ?_;rintro e W2 ⟨rfl,hb⟩;have S2:=hid (S1.out.call hb);clear hb S1 k5
  go_upto_region 5 with fail
  refine q869 (S:=BxS w p a) (b:=w.heap.size) (v:=v) (C:=pkC p a) S2.out.draw C1.out (fun W h=>h.box) (fun W h=>h.cell 6) ID.out PR.out AD.out.1.1 AD.out.1.2 AD.out.2.1.1 AD.out.2.1.2 AD.out.2.2.1 AD.out.2.2.2 ?_;intro W h;have LO:=hid h.low;clear h;go_wp2
  go_ret2
  exact⟨rfl,LO.out⟩
 ·rw[if_pos hv];generalize q6ed v p=R at *;have hr1:((R:Int)==0)=false:=by simp;omega
  have hr2:((R:Int) != 0)=true:=by simp;omega
  replace VA:=hid VA;clear hv hp sp ok hc;go_in;go_wp2_with (refine wpList_load_row rfl _ _ rfl w.heap.size rfl 38 _ (0,0) _ S0.out.box underlying38 rfl (by rw[C1.out];exact q5nr) ?_);refine(VA.out _ S0.out).mono ?_;rintro e W ⟨rfl,hb⟩;have LO:=hid (qxh2 S0.out.low hb);clear hb;go_wp2
  go_ret2
  exact⟨rfl,LO.out⟩
end Go.Proofs.YtefmhbioggcfaaaGreatDoor
