/- The region of prop's pair: two texts are read in their order, two variables are made, whenever. Condition: none. -/
import Derived.Deep.RegionHeld3
import Derived.Test.YtbklidpadffpgaaGreatK41
import Derived.Test.YtbklidpadffpgaaGreatK43
set_option maxRecDepth 100000
namespace Go.Proofs.YtbklidpadffpgaaGreat
open Go.RowKit
def ops2:Option Code→Array Oper
 | some (.seq _ (.seq (.region _ ops _) _))=>ops
 | _=>#[]
def q949(c r:Nat)(cv x3 x4 x5 x6 x7 x8:Value):Act:=⟨#[cv,.pointer (some ⟨c,0,none⟩),.pointer (some ⟨r,0,none⟩),x3,x4,x5,x6,x7,x8,undef,undef,undef,undef,undef],[]⟩
def q0ow:Array Value:=#[.int .i64 0,.int .u32 0,.string ⟨#[]⟩,.string ⟨#[]⟩]
def Zr(W0 W:World)(x:Value)(k:Nat):Prop:=x = .pointer (some ⟨k,0,none⟩)∧W0.heap.size≤k∧k < W.heap.size∧W.heap[k]? = some (.cells q0ow 25 (0,0))
def PaS(W0:World)(cb:Nat)(s:ByteArray)(i:Nat)(e:Int)(b4 b5:Bool)(x3 x4:Value)(W:World):Prop:=
 W0.grownBy W (some cb)∧Cur W cb s i e∧(b4=true→∃k,Zr W0 W x3 k)∧(b5=true→∃k,Zr W0 W x4 k)∧(b4=true→b5=true→x3≠x4)
section
variable{W0 W W':World}{cb i i':Nat}{s:ByteArray}{e e':Int}{b4 b5:Bool}{x3 x4 x:Value}{k:Nat}
theorem Zr.alloc(h:Zr W0 W x k)(o:Obj):Zr W0 (W.alloc o) x k:=⟨h.1,h.2.1,by rw[World.size_alloc];have:=h.2.2.1;omega,(heap_alloc_old _ _ h.2.2.1).trans h.2.2.2⟩
theorem Zr.made(hs:W0.heap.size≤W.heap.size):Zr W0 (W.alloc (.cells q0ow 25 (0,0))) (.pointer (some ⟨W.heap.size,0,none⟩)) W.heap.size:=⟨rfl,hs,by rw[World.size_alloc];omega,heap_alloc_new _ _⟩
theorem Zr.call(hcb:cb < W0.heap.size)(h:Zr W0 W x k)(hg:W.grownBy W' (some cb)):Zr W0 W' x k:=
 ⟨h.1,h.2.1,Nat.lt_of_lt_of_le h.2.2.1 hg.size,(hg.block k h.2.2.1 (fun y=>by have:=Option.some.inj y;have:=h.2.1;omega)).trans h.2.2.2⟩
theorem Zr.ne(h:Zr W0 W x k):x ≠ .pointer (some ⟨W.heap.size,0,none⟩):=fun y=>by
 have h1:=h.1.symm.trans y
 injection h1 with h2;injection h2 with h3;injection h3 with h4
 have:=h.2.2.1;omega
theorem PaS.a4(h:PaS W0 cb s i e b4 b5 x3 x4 W):PaS W0 cb s i e true b5 (.pointer (some ⟨W.heap.size,0,none⟩)) x4 (W.alloc (.cells q0ow 25 (0,0))):=by
 obtain⟨h1,h2,_,h4,_⟩:=h
 refine⟨qo6d h1 (World.grownBy_alloc _ _ _),h2.of_block (heap_alloc_old _ _ h2.lt),fun _=>⟨_,Zr.made h1.size⟩,fun hb=>?_,fun _ hb=>?_⟩
 ·obtain⟨k,hk⟩:=h4 hb
  exact⟨k,hk.alloc _⟩
 ·obtain⟨k,hk⟩:=h4 hb
  exact hk.ne.symm
theorem PaS.a5(h:PaS W0 cb s i e b4 b5 x3 x4 W):PaS W0 cb s i e b4 true x3 (.pointer (some ⟨W.heap.size,0,none⟩)) (W.alloc (.cells q0ow 25 (0,0))):=by
 obtain⟨h1,h2,h3,_,_⟩:=h
 refine⟨qo6d h1 (World.grownBy_alloc _ _ _),h2.of_block (heap_alloc_old _ _ h2.lt),fun hb=>?_,fun _=>⟨_,Zr.made h1.size⟩,fun hb _=>?_⟩
 ·obtain⟨k,hk⟩:=h3 hb
  exact⟨k,hk.alloc _⟩
 ·obtain⟨k,hk⟩:=h3 hb
  exact hk.ne
theorem PaS.call(hcb:cb < W0.heap.size)(h:PaS W0 cb s i e b4 b5 x3 x4 W)(hc:Cur W' cb s i' e')(hg:W.grownBy W' (some cb)):PaS W0 cb s i' e' b4 b5 x3 x4 W':=by
 obtain⟨h1,h2,h3,h4,h5⟩:=h
 exact⟨qo6d h1 hg,hc,fun hb=>(h3 hb).imp fun k hk=>hk.call hcb hg,fun hb=>(h4 hb).imp fun k hk=>hk.call hcb hg,h5⟩
end
section
variable{Q:Exit→Act→World→Prop}{K:Act→World→Prop}{W:World}{c r:Nat}{cv x3 x4 x5 x6 x7 x8:Value}{p:String}{af:Array Edge}
theorem qj5t{v:Value}(h:Calls Tryz.prog 145 #[x5] W fun e w'=>e = .returned v∧K (q949 c r cv x3 x4 x5 v x7 x8) w') :
 Oper.wp Tryz.prog {dst:=some 6,op := .call {callee := .value (.func 145),args:=#[.tmp 5],argTypes:=#[161]},type:=25,pos:=p,after:=af,guard:=none} (q949 c r cv x3 x4 x5 x6 x7 x8) W K Q:=by
 unfold q949 at *
 go_simp
 refine h.mono ?_
 rintro e w' ⟨rfl,hk⟩
 exact hk
theorem qbky{v:Value}(h:Calls Tryz.prog 145 #[x7] W fun e w'=>e = .returned v∧K (q949 c r cv x3 x4 x5 x6 x7 v) w') :
 Oper.wp Tryz.prog {dst:=some 8,op := .call {callee := .value (.func 145),args:=#[.tmp 7],argTypes:=#[161]},type:=25,pos:=p,after:=af,guard:=none} (q949 c r cv x3 x4 x5 x6 x7 x8) W K Q:=by
 unfold q949 at *
 go_simp
 refine h.mono ?_
 rintro e w' ⟨rfl,hk⟩
 exact hk
theorem qn2w(h:K (q949 c r cv (.pointer (some ⟨W.heap.size,0,none⟩)) x4 x5 x6 x7 x8) (W.alloc (.cells q0ow 25 (0,0)))) :
 Oper.wp Tryz.prog {dst:=some 3,op := .alloc 25,type:=0,pos:=p,after:=af,guard:=none} (q949 c r cv x3 x4 x5 x6 x7 x8) W K Q:=by
 unfold q949 at *
 go_simp
 exact h
theorem qh6q(h:K (q949 c r cv x3 (.pointer (some ⟨W.heap.size,0,none⟩)) x5 x6 x7 x8) (W.alloc (.cells q0ow 25 (0,0)))) :
 Oper.wp Tryz.prog {dst:=some 4,op := .alloc 25,type:=0,pos:=p,after:=af,guard:=none} (q949 c r cv x3 x4 x5 x6 x7 x8) W K Q:=by
 unfold q949 at *
 go_simp
 exact h
end
section
variable{Q:Exit→Act→World→Prop}{W0 W:World}{cb c r i i1 i2:Nat}{s:ByteArray}{e e1 e2:Int}{px:Value}{t1 t2:ByteArray}
def CvS(c:Nat)(px:Value)(W:World):Prop:=W.cell? ⟨c,0,none⟩=some px
theorem cvS{b4 b5:Bool}{x3 x4:Value}(hc:c≠cb)(hb:W0.heap[c]? = some (.cells #[px] 161 (0,0)))(hl:c < W0.heap.size)(h:PaS W0 cb s i e b4 b5 x3 x4 W):CvS c px W:=
 cell_of_row _ _ _ _ _ _ ((h.1.block c hl (fun y=>hc (Option.some.inj y))).trans hb)
def tx(t:ByteArray):Array Value:=#[.int .i64 0,.int .u32 0,.string t,.string ⟨#[]⟩]
theorem q526(t:ByteArray):(tx t).all (·.oneCell')=true:=by simp[tx,Value.oneCell']
def qybf(W0:World)(cb:Nat)(s:ByteArray)(i:Nat)(e:Int)(t1 t2:ByteArray)(k3 k4:Nat)(W:World):Prop:=
 W0.grownBy W (some cb)∧Cur W cb s i e∧W.heap[k3]? = some (.cells (tx t1) 25 (0,0))∧W.heap[k4]? = some (.cells (tx t2) 25 (0,0))
theorem q8xz6{W0 W:World}{o:Option Nat}(h:W0.grownBy W o){k:Nat}(hk:W0.heap.size≤k)(cs:Array Value):W0.grownBy (W.setRow k cs) o:=
 ⟨h.os,h.tape,h.output,by have:=h.size;simpa [World.setRow] using this,fun j hj hne=>(setRow_other _ _ _ _ (by omega)).trans (h.block j hj hne)⟩
theorem qtjr{d:Option Tmp}{p:String}{af:Array Edge}{x3 x4 x5 x6 x7 x8:Value}{w:World}(hS:CvS c px w) :
 (execOp (q949 c r (.agg #[px]) x3 x4 x5 x6 x7 x8).eval {dst:=d,op := .load 161 (.tmp 1),type:=161,pos:=p,after:=af,guard:=none}).run Tryz.prog w = .ok (.value (.agg #[px])) w:=by
 unfold CvS at hS
 unfold q949
 go_simp
theorem q4pc(hq:∀ch a d v w,Q (.panic ch) (Act.put a (some d) v) w→Q (.panic ch) a w)(hcb:cb < W0.heap.size)(hc:c≠cb)(hl:c < W0.heap.size)(hb:W0.heap[c]? = some (.cells #[px] 161 (0,0)))(hcur:Cur W0 cb s i e)
 (T1:∀W,Cur W cb s i e→Calls Tryz.prog 145 #[.agg #[px]] W fun en w'=>en = .returned (.agg (tx t1))∧Cur w' cb s i1 e1∧W.grownBy w' (some cb))
 (T2:∀W,Cur W cb s i1 e1→Calls Tryz.prog 145 #[.agg #[px]] W fun en w'=>en = .returned (.agg (tx t2))∧Cur w' cb s i2 e2∧W.grownBy w' (some cb))
 (hf:∀k3 k4 W,qybf W0 cb s i2 e2 t1 t2 k3 k4 W→Q .normal (q949 c r (.agg #[px]) (.pointer (some ⟨k3,0,none⟩)) (.pointer (some ⟨k4,0,none⟩)) (.agg #[px]) (.agg (tx t1)) (.agg #[px]) (.agg (tx t2))) W) :
 (Code.region 1 (ops2 Tryz.f147.body) true).wp Tryz.prog Q (q949 c r (.agg #[px]) undef undef undef undef undef undef) W0:=by
 have hS:=fun {W:World} {i:Nat} {e:Int} {b4 b5:Bool} {x3 x4:Value} (h:PaS W0 cb s i e b4 b5 x3 x4 W)=>cvS hc hb hl h
 have g211:∀x3 x4 W,PaS W0 cb s i2 e2 true true x3 x4 W→wpAnyH Tryz.prog .any (ops2 Tryz.f147.body) Q (CvS c px) 2 #[true,true,true,true,true,true,false,false] (q949 c r (.agg #[px]) x3 x4 (.agg #[px]) (.agg (tx t1)) (.agg #[px]) (.agg (tx t2))) W:=by
  rintro x3 x4 W ⟨h1,h2,h3,h4,h5⟩
  obtain⟨k3,rfl,a1,a2,a3⟩:=h3 rfl
  obtain⟨k4,rfl,b1,b2,b3⟩:=h4 rfl
  have hne:k3≠k4:=fun y=>h5 rfl rfl (by rw[y])
  have q3:c≠k3:=by omega
  have q4:c≠k4:=by omega
  have z1:(W.setRow k3 (tx t1)).heap[k4]? = some (.cells q0ow 25 (0,0)):=(setRow_other _ _ _ _ (Ne.symm hne)).trans b3
  have s0:=hS (b4:=false) (b5:=false) (x3:=undef) (x4:=undef) ⟨h1,h2,fun h=>(by cases h),fun h=>(by cases h),fun h=>(by cases h)⟩
  have s1:CvS c px (W.setRow k3 (tx t1)):=(cell_setRow_other _ _ _ _ q3).trans s0
  have s2:CvS c px ((W.setRow k3 (tx t1)).setRow k4 (tx t2)):=(cell_setRow_other _ _ _ _ q4).trans s1
  have hE:qybf W0 cb s i2 e2 t1 t2 k3 k4 ((W.setRow k3 (tx t1)).setRow k4 (tx t2)):=
   ⟨q8xz6 (q8xz6 h1 a1 _) b1 _,h2.of_block ((setRow_other _ _ _ _ (by omega)).trans (setRow_other _ _ _ _ (by omega))),(setRow_other _ _ _ _ hne).trans (setRow_heap _ _ _ _ _ _ a3),setRow_heap _ _ _ _ _ _ z1⟩
  refine wpAnyH_ready (rs:=[6]) (by kernel_rfl) (by simp) ?_
  refine AllReadyH.cons rfl (fun K hK=>?_) AllReadyH.nil
  rw[if_pos (by rfl)]
  refine wp_store_row 25 _ _ rfl k3 (tx t1) rfl rfl _ _ a3 (by kernel_rfl) rfl (q526 t1) (hK.out _ _ s1 fun _=>?_)
  refine wpAnyH_ready (rs:=[7]) (by kernel_rfl) (by simp) ?_
  refine AllReadyH.cons rfl (fun K hK=>?_) AllReadyH.nil
  rw[if_pos (by rfl)]
  refine wp_store_row 25 _ _ rfl k4 (tx t2) rfl rfl _ _ z1 (by kernel_rfl) rfl (q526 t2) (hK.out _ _ s2 fun _=>?_)
  exact wpAnyH_done (by kernel_rfl) (hf k3 k4 _ hE) _
 have g210:∀x3 x4 W,PaS W0 cb s i2 e2 true false x3 x4 W→wpAnyH Tryz.prog .any (ops2 Tryz.f147.body) Q (CvS c px) 3 #[true,true,true,true,true,false,false,false] (q949 c r (.agg #[px]) x3 x4 (.agg #[px]) (.agg (tx t1)) (.agg #[px]) (.agg (tx t2))) W:=by
  intro x3 x4 W h
  refine wpAnyH_ready (rs:=[5]) (by kernel_rfl) (by simp) ?_
  refine AllReadyH.cons rfl (fun K hK=>?_) ?_
  ·rw[if_pos (by rfl)]
   exact qh6q (hK.out _ _ (hS h.a5) fun _=>g211 _ _ _ h.a5)
  exact AllReadyH.nil
 have g201:∀x3 x4 W,PaS W0 cb s i2 e2 false true x3 x4 W→wpAnyH Tryz.prog .any (ops2 Tryz.f147.body) Q (CvS c px) 3 #[true,true,true,true,false,true,false,false] (q949 c r (.agg #[px]) x3 x4 (.agg #[px]) (.agg (tx t1)) (.agg #[px]) (.agg (tx t2))) W:=by
  intro x3 x4 W h
  refine wpAnyH_ready (rs:=[4]) (by kernel_rfl) (by simp) ?_
  refine AllReadyH.cons rfl (fun K hK=>?_) ?_
  ·rw[if_pos (by rfl)]
   exact qn2w (hK.out _ _ (hS h.a4) fun _=>g211 _ _ _ h.a4)
  exact AllReadyH.nil
 have g200:∀x3 x4 W,PaS W0 cb s i2 e2 false false x3 x4 W→wpAnyH Tryz.prog .any (ops2 Tryz.f147.body) Q (CvS c px) 4 #[true,true,true,true,false,false,false,false] (q949 c r (.agg #[px]) x3 x4 (.agg #[px]) (.agg (tx t1)) (.agg #[px]) (.agg (tx t2))) W:=by
  intro x3 x4 W h
  refine wpAnyH_ready (rs:=[4,5]) (by kernel_rfl) (by simp) ?_
  refine AllReadyH.cons rfl (fun K hK=>?_) ?_
  ·rw[if_pos (by rfl)]
   exact qn2w (hK.out _ _ (hS h.a4) fun _=>g210 _ _ _ h.a4)
  refine AllReadyH.cons rfl (fun K hK=>?_) ?_
  ·rw[if_pos (by rfl)]
   exact qh6q (hK.out _ _ (hS h.a5) fun _=>g201 _ _ _ h.a5)
  exact AllReadyH.nil
 have g111:∀x3 x4 W,PaS W0 cb s i1 e1 true true x3 x4 W→wpAnyH Tryz.prog .any (ops2 Tryz.f147.body) Q (CvS c px) 3 #[true,true,true,false,true,true,false,false] (q949 c r (.agg #[px]) x3 x4 (.agg #[px]) (.agg (tx t1)) (.agg #[px]) undef) W:=by
  intro x3 x4 W h
  refine wpAnyH_ready (rs:=[3]) (by kernel_rfl) (by simp) ?_
  refine AllReadyH.cons rfl (fun K hK=>?_) ?_
  ·rw[if_pos (by rfl)]
   exact qbky ((T2 W h.2.1).mono fun en w' q=>⟨q.1,hK.out _ _ (hS (h.call hcb q.2.1 q.2.2)) fun _=>g211 _ _ _ (h.call hcb q.2.1 q.2.2)⟩)
  exact AllReadyH.nil
 have g110:∀x3 x4 W,PaS W0 cb s i1 e1 true false x3 x4 W→wpAnyH Tryz.prog .any (ops2 Tryz.f147.body) Q (CvS c px) 4 #[true,true,true,false,true,false,false,false] (q949 c r (.agg #[px]) x3 x4 (.agg #[px]) (.agg (tx t1)) (.agg #[px]) undef) W:=by
  intro x3 x4 W h
  refine wpAnyH_ready (rs:=[3,5]) (by kernel_rfl) (by simp) ?_
  refine AllReadyH.cons rfl (fun K hK=>?_) ?_
  ·rw[if_pos (by rfl)]
   exact qbky ((T2 W h.2.1).mono fun en w' q=>⟨q.1,hK.out _ _ (hS (h.call hcb q.2.1 q.2.2)) fun _=>g210 _ _ _ (h.call hcb q.2.1 q.2.2)⟩)
  refine AllReadyH.cons rfl (fun K hK=>?_) ?_
  ·rw[if_pos (by rfl)]
   exact qh6q (hK.out _ _ (hS h.a5) fun _=>g111 _ _ _ h.a5)
  exact AllReadyH.nil
 have g101:∀x3 x4 W,PaS W0 cb s i1 e1 false true x3 x4 W→wpAnyH Tryz.prog .any (ops2 Tryz.f147.body) Q (CvS c px) 4 #[true,true,true,false,false,true,false,false] (q949 c r (.agg #[px]) x3 x4 (.agg #[px]) (.agg (tx t1)) (.agg #[px]) undef) W:=by
  intro x3 x4 W h
  refine wpAnyH_ready (rs:=[3,4]) (by kernel_rfl) (by simp) ?_
  refine AllReadyH.cons rfl (fun K hK=>?_) ?_
  ·rw[if_pos (by rfl)]
   exact qbky ((T2 W h.2.1).mono fun en w' q=>⟨q.1,hK.out _ _ (hS (h.call hcb q.2.1 q.2.2)) fun _=>g201 _ _ _ (h.call hcb q.2.1 q.2.2)⟩)
  refine AllReadyH.cons rfl (fun K hK=>?_) ?_
  ·rw[if_pos (by rfl)]
   exact qn2w (hK.out _ _ (hS h.a4) fun _=>g111 _ _ _ h.a4)
  exact AllReadyH.nil
 have g100:∀x3 x4 W,PaS W0 cb s i1 e1 false false x3 x4 W→wpAnyH Tryz.prog .any (ops2 Tryz.f147.body) Q (CvS c px) 5 #[true,true,true,false,false,false,false,false] (q949 c r (.agg #[px]) x3 x4 (.agg #[px]) (.agg (tx t1)) (.agg #[px]) undef) W:=by
  intro x3 x4 W h
  refine wpAnyH_ready (rs:=[3,4,5]) (by kernel_rfl) (by simp) ?_
  refine AllReadyH.cons rfl (fun K hK=>?_) ?_
  ·rw[if_pos (by rfl)]
   exact qbky ((T2 W h.2.1).mono fun en w' q=>⟨q.1,hK.out _ _ (hS (h.call hcb q.2.1 q.2.2)) fun _=>g200 _ _ _ (h.call hcb q.2.1 q.2.2)⟩)
  refine AllReadyH.cons rfl (fun K hK=>?_) ?_
  ·rw[if_pos (by rfl)]
   exact qn2w (hK.out _ _ (hS h.a4) fun _=>g110 _ _ _ h.a4)
  refine AllReadyH.cons rfl (fun K hK=>?_) ?_
  ·rw[if_pos (by rfl)]
   exact qh6q (hK.out _ _ (hS h.a5) fun _=>g101 _ _ _ h.a5)
  exact AllReadyH.nil
 have g011:∀x3 x4 W,PaS W0 cb s i e true true x3 x4 W→wpAnyH Tryz.prog .any (ops2 Tryz.f147.body) Q (CvS c px) 4 #[true,false,true,false,true,true,false,false] (q949 c r (.agg #[px]) x3 x4 (.agg #[px]) undef (.agg #[px]) undef) W:=by
  intro x3 x4 W h
  refine wpAnyH_ready (rs:=[1]) (by kernel_rfl) (by simp) ?_
  refine AllReadyH.cons rfl (fun K hK=>?_) ?_
  ·rw[if_pos (by rfl)]
   exact qj5t ((T1 W h.2.1).mono fun en w' q=>⟨q.1,hK.out _ _ (hS (h.call hcb q.2.1 q.2.2)) fun _=>g111 _ _ _ (h.call hcb q.2.1 q.2.2)⟩)
  exact AllReadyH.nil
 have g010:∀x3 x4 W,PaS W0 cb s i e true false x3 x4 W→wpAnyH Tryz.prog .any (ops2 Tryz.f147.body) Q (CvS c px) 5 #[true,false,true,false,true,false,false,false] (q949 c r (.agg #[px]) x3 x4 (.agg #[px]) undef (.agg #[px]) undef) W:=by
  intro x3 x4 W h
  refine wpAnyH_ready (rs:=[1,5]) (by kernel_rfl) (by simp) ?_
  refine AllReadyH.cons rfl (fun K hK=>?_) ?_
  ·rw[if_pos (by rfl)]
   exact qj5t ((T1 W h.2.1).mono fun en w' q=>⟨q.1,hK.out _ _ (hS (h.call hcb q.2.1 q.2.2)) fun _=>g110 _ _ _ (h.call hcb q.2.1 q.2.2)⟩)
  refine AllReadyH.cons rfl (fun K hK=>?_) ?_
  ·rw[if_pos (by rfl)]
   exact qh6q (hK.out _ _ (hS h.a5) fun _=>g011 _ _ _ h.a5)
  exact AllReadyH.nil
 have g001:∀x3 x4 W,PaS W0 cb s i e false true x3 x4 W→wpAnyH Tryz.prog .any (ops2 Tryz.f147.body) Q (CvS c px) 5 #[true,false,true,false,false,true,false,false] (q949 c r (.agg #[px]) x3 x4 (.agg #[px]) undef (.agg #[px]) undef) W:=by
  intro x3 x4 W h
  refine wpAnyH_ready (rs:=[1,4]) (by kernel_rfl) (by simp) ?_
  refine AllReadyH.cons rfl (fun K hK=>?_) ?_
  ·rw[if_pos (by rfl)]
   exact qj5t ((T1 W h.2.1).mono fun en w' q=>⟨q.1,hK.out _ _ (hS (h.call hcb q.2.1 q.2.2)) fun _=>g101 _ _ _ (h.call hcb q.2.1 q.2.2)⟩)
  refine AllReadyH.cons rfl (fun K hK=>?_) ?_
  ·rw[if_pos (by rfl)]
   exact qn2w (hK.out _ _ (hS h.a4) fun _=>g011 _ _ _ h.a4)
  exact AllReadyH.nil
 have g000:∀x3 x4 W,PaS W0 cb s i e false false x3 x4 W→wpAnyH Tryz.prog .any (ops2 Tryz.f147.body) Q (CvS c px) 6 #[true,false,true,false,false,false,false,false] (q949 c r (.agg #[px]) x3 x4 (.agg #[px]) undef (.agg #[px]) undef) W:=by
  intro x3 x4 W h
  refine wpAnyH_ready (rs:=[1,4,5]) (by kernel_rfl) (by simp) ?_
  refine AllReadyH.cons rfl (fun K hK=>?_) ?_
  ·rw[if_pos (by rfl)]
   exact qj5t ((T1 W h.2.1).mono fun en w' q=>⟨q.1,hK.out _ _ (hS (h.call hcb q.2.1 q.2.2)) fun _=>g100 _ _ _ (h.call hcb q.2.1 q.2.2)⟩)
  refine AllReadyH.cons rfl (fun K hK=>?_) ?_
  ·rw[if_pos (by rfl)]
   exact qn2w (hK.out _ _ (hS h.a4) fun _=>g010 _ _ _ h.a4)
  refine AllReadyH.cons rfl (fun K hK=>?_) ?_
  ·rw[if_pos (by rfl)]
   exact qh6q (hK.out _ _ (hS h.a5) fun _=>g001 _ _ _ h.a5)
  exact AllReadyH.nil
 have P0:PaS W0 cb s i e false false undef undef W0.drew:=⟨⟨rfl,rfl,rfl,Nat.le_refl _,fun _ _ _=>rfl⟩,hcur.draws 1,fun h=>(by cases h),fun h=>(by cases h),fun h=>(by cases h)⟩
 refine wp_region_held_drew (S:=CvS c px) (by kernel_rfl) (hS P0) (fun hHeld=>?_)
 refine wpAnyH_take (i:=0) (v:=(.agg #[px])) rfl (by kernel_rfl) (by kernel_rfl) (by kernel_rfl) (fun _ _ _ h=>hq _ _ _ _ _ h) (Or.inl ⟨by rfl,?_⟩) hHeld ?_
 ·intro w hSw
  exact qtjr hSw
 refine wpAnyH_take (i:=2) (v:=(.agg #[px])) rfl (by kernel_rfl) (by kernel_rfl) (by kernel_rfl) (fun _ _ _ h=>hq _ _ _ _ _ h) (Or.inl ⟨by rfl,?_⟩) hHeld ?_
 ·intro w hSw
  exact qtjr hSw
 exact g000 undef undef _ P0
end
theorem qro7{w:World}{cb i i1 i2:Nat}{s:ByteArray}{e e1 e2:Int}(t1 t2:ByteArray)(hc:Cur w cb s i e)
 (T1:∀W,Cur W cb s i e→Calls Tryz.prog 145 #[curV cb] W fun en w'=>en = .returned (.agg (tx t1))∧Cur w' cb s i1 e1∧W.grownBy w' (some cb))
 (T2:∀W,Cur W cb s i1 e1→Calls Tryz.prog 145 #[curV cb] W fun en w'=>en = .returned (.agg (tx t2))∧Cur w' cb s i2 e2∧W.grownBy w' (some cb)) :
 Calls Tryz.prog 147 #[curV cb] w fun en w'=>en = .returned (.agg #[.int .i64 0,.int .u32 0,.string t1,.string t2])∧Cur w' cb s i2 e2∧w.grownBy w' (some cb):=by
 have hcw:=(hc.alloc (.cells #[.pointer (some ⟨cb,0,none⟩)] 161)).alloc (.cells #[.int .i64 0,.int .u32 0,.string ⟨#[]⟩,.string ⟨#[]⟩] 25)
 have hR:=RdW.made (w:=w) hc.lt
 have R0:=Lib.hid hR
 have HCW:=Lib.hid hcw
 have HC:=Lib.hid hc.lt
 have H1:=Lib.hid T1
 have H2:=Lib.hid T2
 clear hcw hR hc T1 T2
 unfold curV at *
 go_enter Tryz.func147,Tryz.ntmps147
 go_wp2_with fail
 refine q4pc (cb:=cb) (c:=w.heap.size) (r:=w.heap.size+1) (px := .pointer (some ⟨cb,0,none⟩)) (t1:=t1) (t2:=t2) (fun _ _ _ _ _ h=>h) (by simp only[World.size_alloc];have:=HC.out;omega) (fun y=>by have:=HC.out;omega) (by simp only[World.size_alloc];omega) R0.out.2.1 HCW.out H1.out H2.out ?_
 intro k3 k4 W hE
 obtain⟨hg,hc',a3,a4⟩:=hE
 have R1:=Lib.hid (R0.out.step hg)
 have C1:=Lib.hid hc'
 have f0:=R1.out.fr 0
 have f1:=R1.out.fr 1
 have f2:=R1.out.fr 2
 have f3:=R1.out.fr 3
 have r0:=R1.out.r 0
 have r1:=R1.out.r 1
 have r2:=R1.out.r 2
 have r3:=R1.out.r 3
 have u3:W.cell? ⟨k3,2,none⟩=some (.string t1):=cell_of_row _ _ _ _ _ _ a3
 have u4:W.cell? ⟨k4,2,none⟩=some (.string t2):=cell_of_row _ _ _ _ _ _ a4
 clear hg hc' a3 a4 R0 HCW HC H1 H2
 unfold q949
 go_wp2_with fail
 obtain⟨z1,z2,z3⟩:=R1.out.fin C1.out (.int .i64 0) (.int .u32 0) (.string t1) (.string t2)
 exact qlwy rfl rfl rfl rfl z1 ⟨rfl,z2,z3⟩
theorem qzpi{α:Type}(p k:Nat)(x y:α):(if p≠0 then(x,0,p) else(y,k,0)).2.2=p:=by
 by_cases h:p=0
 ·rw[if_neg (by simp[h]),h]
 ·rw[if_pos h]
theorem q42r(l:List UInt8):q91e false l=((rdT l).1,(rdT l).2.1,if (rdT l).2.2=3 then 5 else(rdT l).2.2):=by
 unfold q91e
 rcases q0f1 l with ⟨h0,h1,h2,h3⟩ | ⟨h0,h1,h2⟩ | ⟨h0,h1,h2,h3⟩
 ·rw[if_neg (by simp[h3]),if_pos (by simp[h2]),h1,h3];rfl
 ·rw[if_pos h2,h1];rfl
 ·rw[if_neg (by simp[h2]),if_neg (by simp[h3]),h1];rfl
theorem q52a(l:List UInt8):q91e true l=((rdB l).1,(rdB l).2.1,if (rdB l).2.2=3 then 5 else(rdB l).2.2):=by
 unfold q91e
 rcases qsrz l with ⟨h0,h⟩ | h
 ·rw[if_neg (by simp[h0]),if_pos (by simp),h0];rfl
 ·rw[h];rfl
theorem q7cf{w W:World}{cb i n i' e' c:Nat}{s:ByteArray}{id:Int}(hi:i≤s.size)(h:(s.size - i < c∧n=0∧i'=i∧e'=3)∨(i+c≤s.size∧n=num ((s.data.toList.drop i).take c)∧i'=i+c∧e'=0))(h4:c≤4)
 (hn:qij7 id (s.data.toList.drop i)=numP id c (s.data.toList.drop i)) (hc:Cur W cb s i' (e':Nat)) (hg:w.grownBy W (some cb)):RdS cb s i id w (.returned (qbhk ⟨0,n,[],[]⟩)) W:=by
 have hl:(s.data.toList.drop i).length=s.size - i:=by rw[List.length_drop,←q4ad]
 refine⟨⟨0,n,[],[]⟩,i',e',rfl,hc,hg,?_,?_,?_⟩
 ·rcases h with ⟨_,_,h,_⟩ | ⟨h,_,h',_⟩<;>omega
 ·rw[hn];unfold numP
  rcases h with ⟨h1,_,_,h2⟩ | ⟨h1,_,_,h2⟩
  ·rw[if_pos (by omega),h2];rfl
  ·rw[if_neg (by omega),h2];rfl
 ·intro he
  rcases h with ⟨h1,_,_,h2⟩ | ⟨h1,h2,h3,_⟩
  ·omega
  ·have hlt:num ((s.data.toList.drop i).take c) < 4294967296:=by
    have h1:=qn9h ((s.data.toList.drop i).take c)
    have h2:256^((s.data.toList.drop i).take c).length≤256^4:=Nat.pow_le_pow_right (by decide) (by rw[List.length_take];omega)
    have h3:256^4=4294967296:=by decide
    omega
   rw[hn];unfold numP
   rw[if_neg (by omega)]
   subst h2 h3
   exact⟨rfl,by simp,hlt,by simp,by simp⟩
section
variable{w:World}{cb i:Nat}{s:ByteArray}
theorem ql5c(hc:Cur w cb s i 0)(hi:i≤s.size)(hm:s.size≤9223372036854775807)(id:Int)(hs:qwgc id=1) :
 Calls Tryz.prog 141 #[curV cb] w (RdS cb s i id w):=by
 have hcw:=(hc.alloc (.cells #[.pointer (some ⟨cb,0,none⟩)] 161)).alloc (.cells #[.int .i64 0,.int .u32 0,.string ⟨#[]⟩,.string ⟨#[]⟩] 25)
 have R0:=Lib.hid (RdW.made (w:=w) hc.lt)
 have H:=Lib.hid (qak3 1 hcw hi hm (by decide) (by decide))
 have HI:=Lib.hid hi
 have HS:=Lib.hid hs
 clear hcw hc hi hm hs
 unfold curV at *
 go_enter Tryz.func141,Tryz.ntmps141
 go_wp2_with fail
 refine(H.out).mono ?_
 rintro e w2 ⟨n,i',e',rfl,hc2,hg2,hcase⟩
 have R1:=Lib.hid (R0.out.step hg2)
 have C1:=Lib.hid hc2
 have HC:=Lib.hid hcase
 have f0:=R1.out.fr 0
 have f1:=R1.out.fr 1
 have f2:=R1.out.fr 2
 have f3:=R1.out.fr 3
 have r0:=R1.out.r 0
 have r1:=R1.out.r 1
 have r2:=R1.out.r 2
 have r3:=R1.out.r 3
 clear hc2 hg2 hcase R0 H
 unfold qbhk
 go_wp2_with fail
 obtain⟨z1,z2,z3⟩:=R1.out.fin C1.out (.int .i64 0) (.int .u32 n) (.string (bs [])) (.string (bs []))
 exact qlwy rfl rfl rfl rfl z1 (q7cf HI.out HC.out (by decide) (by unfold qij7;rw[HS.out];rfl) z2 z3)
theorem q2t7(hc:Cur w cb s i 0)(hi:i≤s.size)(hm:s.size≤9223372036854775807)(id:Int)(hs:qwgc id=2) :
 Calls Tryz.prog 142 #[curV cb] w (RdS cb s i id w):=by
 have hcw:=(hc.alloc (.cells #[.pointer (some ⟨cb,0,none⟩)] 161)).alloc (.cells #[.int .i64 0,.int .u32 0,.string ⟨#[]⟩,.string ⟨#[]⟩] 25)
 have R0:=Lib.hid (RdW.made (w:=w) hc.lt)
 have H:=Lib.hid (qak3 2 hcw hi hm (by decide) (by decide))
 have HI:=Lib.hid hi
 have HS:=Lib.hid hs
 clear hcw hc hi hm hs
 unfold curV at *
 go_enter Tryz.func142,Tryz.ntmps142
 go_wp2_with fail
 refine(H.out).mono ?_
 rintro e w2 ⟨n,i',e',rfl,hc2,hg2,hcase⟩
 have R1:=Lib.hid (R0.out.step hg2)
 have C1:=Lib.hid hc2
 have HC:=Lib.hid hcase
 have f0:=R1.out.fr 0
 have f1:=R1.out.fr 1
 have f2:=R1.out.fr 2
 have f3:=R1.out.fr 3
 have r0:=R1.out.r 0
 have r1:=R1.out.r 1
 have r2:=R1.out.r 2
 have r3:=R1.out.r 3
 clear hc2 hg2 hcase R0 H
 unfold qbhk
 go_wp2_with fail
 obtain⟨z1,z2,z3⟩:=R1.out.fin C1.out (.int .i64 0) (.int .u32 n) (.string (bs [])) (.string (bs []))
 exact qlwy rfl rfl rfl rfl z1 (q7cf HI.out HC.out (by decide) (by unfold qij7;rw[HS.out];rfl) z2 z3)
theorem quok(hc:Cur w cb s i 0)(hi:i≤s.size)(hm:s.size≤9223372036854775807)(id:Int)(hs:qwgc id=3) :
 Calls Tryz.prog 143 #[curV cb] w (RdS cb s i id w):=by
 have hcw:=(hc.alloc (.cells #[.pointer (some ⟨cb,0,none⟩)] 161)).alloc (.cells #[.int .i64 0,.int .u32 0,.string ⟨#[]⟩,.string ⟨#[]⟩] 25)
 have R0:=Lib.hid (RdW.made (w:=w) hc.lt)
 have H:=Lib.hid (qak3 4 hcw hi hm (by decide) (by decide))
 have HI:=Lib.hid hi
 have HS:=Lib.hid hs
 clear hcw hc hi hm hs
 unfold curV at *
 go_enter Tryz.func143,Tryz.ntmps143
 go_wp2_with fail
 refine(H.out).mono ?_
 rintro e w2 ⟨n,i',e',rfl,hc2,hg2,hcase⟩
 have R1:=Lib.hid (R0.out.step hg2)
 have C1:=Lib.hid hc2
 have HC:=Lib.hid hcase
 have f0:=R1.out.fr 0
 have f1:=R1.out.fr 1
 have f2:=R1.out.fr 2
 have f3:=R1.out.fr 3
 have r0:=R1.out.r 0
 have r1:=R1.out.r 1
 have r2:=R1.out.r 2
 have r3:=R1.out.r 3
 clear hc2 hg2 hcase R0 H
 unfold qbhk
 go_wp2_with fail
 obtain⟨z1,z2,z3⟩:=R1.out.fin C1.out (.int .i64 0) (.int .u32 n) (.string (bs [])) (.string (bs []))
 exact qlwy rfl rfl rfl rfl z1 (q7cf HI.out HC.out (by decide) (by unfold qij7;rw[HS.out];rfl) z2 z3)
theorem qf9b(hc:Cur w cb s i 0)(hi:i≤s.size)(hm:s.size≤9223372036854775807)(id:Int)(hs:qwgc id=4) :
 Calls Tryz.prog 144 #[curV cb] w (RdS cb s i id w):=by
 have hl:(s.data.toList.drop i).length=s.size - i:=by rw[List.length_drop,←q4ad]
 have hn:qij7 id (s.data.toList.drop i)=if rdE (s.data.toList.drop i)≠0 then(⟨id,0,[],[]⟩,0,5) else(⟨id,rdV (s.data.toList.drop i),[],[]⟩,rdN (s.data.toList.drop i),0):=by unfold qij7;rw[hs];rfl
 obtain⟨q1,q2,q3⟩:=qips (s.data.toList.drop i)
 refine(qdow hc hi hm).mono fun e W ⟨h1,h2,h3⟩=>⟨_,_,_,h1,h2,h3,by omega,?_,fun he=>?_⟩
 ·rw[hn]
  rcases q3 with h | ⟨_,_,h | h⟩<;>rw[h]<;>rfl
 ·rw[hn,he]
  refine⟨rfl,?_,by show rdV _ < _;omega,by simp,by simp⟩
  rw[if_neg (by simp),Nat.add_sub_cancel_left]
theorem qd43(hc:Cur w cb s i 0)(hi:i≤s.size)(hm:s.size≤9223372036854775807)(id:Int)(hs:qwgc id=5) :
 Calls Tryz.prog 145 #[curV cb] w (RdS cb s i id w):=by
 have hl:(s.data.toList.drop i).length=s.size - i:=by rw[List.length_drop,←q4ad]
 have hn:qij7 id (s.data.toList.drop i)=if (q91e false (s.data.toList.drop i)).2.2≠0 then(⟨id,0,[],[]⟩,0,(q91e false (s.data.toList.drop i)).2.2) else(⟨id,0,(q91e false (s.data.toList.drop i)).1,[]⟩,(q91e false (s.data.toList.drop i)).2.1,0):=by unfold qij7;rw[hs];rfl
 rw[q42r] at hn
 obtain⟨q1,q2⟩:=qslt (s.data.toList.drop i)
 refine(qi04 hc hi hm).mono fun e W ⟨h1,h2,h3⟩=>⟨_,_,_,h1,h2,h3,by omega,?_,fun he=>?_⟩
 ·rw[hn]
  exact qzpi _ _ _ _
 ·rw[hn,he]
  refine⟨rfl,?_,by simp,by simpa using q2,by simp⟩
  rw[if_neg (by simp),Nat.add_sub_cancel_left]
theorem qvq0(hc:Cur w cb s i 0)(hi:i≤s.size)(hm:s.size≤9223372036854775807)(id:Int)(hs:qwgc id=6) :
 Calls Tryz.prog 146 #[curV cb] w (RdS cb s i id w):=by
 have hl:(s.data.toList.drop i).length=s.size - i:=by rw[List.length_drop,←q4ad]
 have hn:qij7 id (s.data.toList.drop i)=if (q91e true (s.data.toList.drop i)).2.2≠0 then(⟨id,0,[],[]⟩,0,(q91e true (s.data.toList.drop i)).2.2) else(⟨id,0,(q91e true (s.data.toList.drop i)).1,[]⟩,(q91e true (s.data.toList.drop i)).2.1,0):=by unfold qij7;rw[hs];rfl
 rw[q52a] at hn
 obtain⟨q1,q2⟩:=q3gm (s.data.toList.drop i)
 refine(q6x7 hc hi hm).mono fun e W ⟨h1,h2,h3⟩=>⟨_,_,_,h1,h2,h3,by omega,?_,fun he=>?_⟩
 ·rw[hn]
  exact qzpi _ _ _ _
 ·rw[hn,he]
  refine⟨rfl,?_,by simp,by simpa using q2,by simp⟩
  rw[if_neg (by simp),Nat.add_sub_cancel_left]
theorem qeri(hc:Cur w cb s i 0)(hi:i≤s.size)(hm:s.size≤9223372036854775807)(id:Int)(hs:qwgc id=7) :
 Calls Tryz.prog 147 #[curV cb] w (RdS cb s i id w):=by
 have hl:(s.data.toList.drop i).length=s.size - i:=by rw[List.length_drop,←q4ad]
 have hn:qij7 id (s.data.toList.drop i)=(if (q91e false (s.data.toList.drop i)).2.2≠0 then(⟨id,0,[],[]⟩,0,(q91e false (s.data.toList.drop i)).2.2)
  else if (q91e false ((s.data.toList.drop i).drop (q91e false (s.data.toList.drop i)).2.1)).2.2≠0 then(⟨id,0,[],[]⟩,0,(q91e false ((s.data.toList.drop i).drop (q91e false (s.data.toList.drop i)).2.1)).2.2)
  else(⟨id,0,(q91e false (s.data.toList.drop i)).1,(q91e false ((s.data.toList.drop i).drop (q91e false (s.data.toList.drop i)).2.1)).1⟩,(q91e false (s.data.toList.drop i)).2.1+(q91e false ((s.data.toList.drop i).drop (q91e false (s.data.toList.drop i)).2.1)).2.1,0)):=by unfold qij7;rw[hs];rfl
 rw[q42r,q42r] at hn
 obtain⟨q1,q2⟩:=qslt (s.data.toList.drop i)
 have hk:i+(rdT (s.data.toList.drop i)).2.1≤s.size:=by omega
 have T1:∀W,Cur W cb s i 0→_:=fun W h=>qi04 (w:=W) h hi hm
 by_cases hz:(rdT (s.data.toList.drop i)).2.2=0
 ·rw[hz] at T1
  have T2:∀W,Cur W cb s (i+(rdT (s.data.toList.drop i)).2.1) 0→_:=fun W h=>qi04 (w:=W) h hk hm
  obtain⟨u1,u2⟩:=qslt (s.data.toList.drop (i+(rdT (s.data.toList.drop i)).2.1))
  have hl2:(s.data.toList.drop (i+(rdT (s.data.toList.drop i)).2.1)).length=s.size - (i+(rdT (s.data.toList.drop i)).2.1):=by rw[List.length_drop,←q4ad]
  simp only[hz,List.drop_drop] at hn
  refine(qro7 (bs (rdT (s.data.toList.drop i)).1) (bs (rdT (s.data.toList.drop (i+(rdT (s.data.toList.drop i)).2.1))).1) hc T1 T2).mono fun e W ⟨h1,h2,h3⟩=>⟨⟨0,0,_,_⟩,_,_,h1,h2,h3,by omega,?_,fun he=>?_⟩
  ·rw[hn]
   rw[if_neg (by simp)]
   exact qzpi _ _ _ _
  ·rw[hn,he]
   rw[if_neg (by simp),if_neg (by simp)]
   exact⟨Nat.add_assoc _ _ _,by rw[show i+(rdT (s.data.toList.drop i)).2.1+(rdT (s.data.toList.drop (i+(rdT (s.data.toList.drop i)).2.1))).2.1 - i=(rdT (s.data.toList.drop i)).2.1+(rdT (s.data.toList.drop (i+(rdT (s.data.toList.drop i)).2.1))).2.1 by omega],by simp,by simpa using q2,by simpa using u2⟩
 ·have T2:∀W,Cur W cb s (i+(rdT (s.data.toList.drop i)).2.1) ((rdT (s.data.toList.drop i)).2.2:Nat)→_:=fun W h=>q5dm (w:=W) h (by simp;exact hz) hk hm
  refine(qro7 (bs (rdT (s.data.toList.drop i)).1) (bs (rdT (s.data.toList.drop (i+(rdT (s.data.toList.drop i)).2.1))).1) hc T1 T2).mono fun e W ⟨h1,h2,h3⟩=>⟨⟨0,0,_,_⟩,_,_,h1,h2,h3,by omega,?_,fun he=>absurd he hz⟩
  rw[hn]
  rw[if_pos (by
   simp only[ne_eq]
   split
   ·decide
   ·exact hz)]
end
end Go.Proofs.YtbklidpadffpgaaGreat
