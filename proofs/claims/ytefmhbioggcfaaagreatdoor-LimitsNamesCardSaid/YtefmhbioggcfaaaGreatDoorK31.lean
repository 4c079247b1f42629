/- The contract of prop's cursor: the next property. Condition: the bytes are no more than an int says. -/
import Derived.Test.YtefmhbioggcfaaaGreatDoorK30
import Derived.Test.YtefmhbioggcfaaaGreatDoorK05
set_option maxRecDepth 100000
set_option maxHeartbeats 4000000
namespace Go.Proofs.YtefmhbioggcfaaaGreatDoor
open Proofs.Tryz
open Go.RowKit
structure Grow2(w W:World)(c b:Nat):Prop where
 os:W.os=w.os
 tape:W.tape=w.tape
 output:W.output=w.output
 size:w.heap.size<=W.heap.size
 block:∀k,k<w.heap.size->k≠c->k≠b->W.heap[k]?=w.heap[k]?
section
variable{w W W':World}{c b:Nat}
theorem Grow2.grown{o:Option Nat}(h:Grow2 w W c b)(hg:W.grownBy W' o)(ho:∀k,o=some k->k=c\/k=b\/w.heap.size<=k):Grow2 w W' c b:=
 ⟨hg.os.trans h.os,hg.tape.trans h.tape,hg.output.trans h.output,Nat.le_trans h.size hg.size,fun k hk hc hb=>(hg.block k (Nat.lt_of_lt_of_le hk h.size) (fun e=>by rcases ho k e.symm with h|h|h<;>omega)).trans (h.block k hk hc hb)⟩
end
structure NxS(w:World)(cb b mb rb:Nat)(kind:Int)(pre:List Pr)(s:ByteArray)(i:Nat)(e:Int)(W:World):Prop where
 g:Grow2 w W cb b
 cur:Cur W cb s i e
 tal:TalL W b mb kind pre
 rd:qp0k W rb
 box:W.heap[w.heap.size]?=some (.cells #[.pointer (some ⟨cb,0,none⟩)] 259 (0,0))
 res:W.heap[w.heap.size+1]?=some (.cells #[.int .i64 0,.int .u32 0,.string ⟨#[]⟩,.string ⟨#[]⟩] 82 (0,0))
 sz:w.heap.size+2<=W.heap.size
 lc:cb<w.heap.size
 lb:b<w.heap.size
 lm:mb<w.heap.size
 lr:rb<w.heap.size
 cnb:cb≠b
 cnm:cb≠mb
 cnr:cb≠rb
 bnm:b≠mb
 bnr:b≠rb
section
variable{w W W':World}{cb b mb rb i i':Nat}{kind e e':Int}{pre pre':List Pr}{s:ByteArray}
theorem TalL.of_block(h:TalL W b mb kind pre)(hb:W'.heap[b]?=W.heap[b]?)(hm:W'.heap[mb]?=W.heap[mb]?):TalL W' b mb kind pre:=by obtain⟨x,h1,h2⟩:=h;exact⟨x,h1.of_block hb hm,h2⟩
theorem qp0k.of_block(h:qp0k W rb)(hb:W'.heap[rb]?=W.heap[rb]?):qp0k W' rb:=qmfc.of_block h hb
theorem NxS.made(hc:Cur w cb s i e)(ht:TalL w b mb kind pre)(hr:qp0k w rb)(h1:cb≠b)(h2:cb≠mb)(h3:cb≠rb)(h4:b≠mb)(h5:b≠rb) :
 NxS w cb b mb rb kind pre s i e ((w.alloc (.cells #[.pointer (some ⟨cb,0,none⟩)] 259)).alloc (.cells #[.int .i64 0,.int .u32 0,.string ⟨#[]⟩,.string ⟨#[]⟩] 82)):=by
 have hg:w.grownBy ((w.alloc (.cells #[.pointer (some ⟨cb,0,none⟩)] 259)).alloc (.cells #[.int .i64 0,.int .u32 0,.string ⟨#[]⟩,.string ⟨#[]⟩] 82)) none:=qo6d (World.grownBy_alloc _ _ _) (World.grownBy_alloc _ _ _);have hk:∀k,k<w.heap.size->((w.alloc (.cells #[.pointer (some ⟨cb,0,none⟩)] 259)).alloc (.cells #[.int .i64 0,.int .u32 0,.string ⟨#[]⟩,.string ⟨#[]⟩] 82)).heap[k]?=w.heap[k]? := fun k hk=>hg.block k hk (fun e=>by cases e);refine⟨⟨hg.os,hg.tape,hg.output,hg.size,fun k h _ _=>hk k h⟩,(hc.alloc _).alloc _,(ht.alloc _).alloc _,hr.of_block (hk _ (qmfc.lt hr)),(heap_alloc_old _ _ (by simp)).trans (heap_alloc_new w _),?_,by simp,hc.lt,ht.lt.1,ht.lt.2,qmfc.lt hr,h1,h2,h3,h4,h5⟩
 have:=heap_alloc_new (w.alloc (.cells #[.pointer (some ⟨cb,0,none⟩)] 259)) (.cells #[.int .i64 0,.int .u32 0,.string ⟨#[]⟩,.string ⟨#[]⟩] 82)
 rwa [World.size_alloc] at this
theorem NxS.keep(h:NxS w cb b mb rb kind pre s i e W)(hg:W.grownBy W' none):NxS w cb b mb rb kind pre s i e W':=by obtain⟨h1,h2,h3,h4,h5,h6,h7,h8,h9,ha,hb,hc,hd,he,hf,hh⟩:=h;have hk:∀k,k<W.heap.size->W'.heap[k]?=W.heap[k]? := fun k hk=>hg.block k hk (fun e=>by cases e);exact⟨h1.grown hg (fun k e=>by cases e),h2.of_block (hk _ (by omega)),h3.of_block (hk _ (by omega)) (hk _ (by omega)),h4.of_block (hk _ (by omega)),(hk _ (by omega)).trans h5,(hk _ (by omega)).trans h6,Nat.le_trans h7 hg.size,h8,h9,ha,hb,hc,hd,he,hf,hh⟩
theorem NxS.below(h:NxS w cb b mb rb kind pre s i e W)(hb:Below W.heap.size W W'):NxS w cb b mb rb kind pre s i e W':=h.keep (q9cp hb _)
theorem NxS.alloc(h:NxS w cb b mb rb kind pre s i e W)(o:Obj):NxS w cb b mb rb kind pre s i e (W.alloc o):=h.keep (World.grownBy_alloc _ _ _)
theorem NxS.draws(h:NxS w cb b mb rb kind pre s i e W)(n:Nat):NxS w cb b mb rb kind pre s i e (W.drewN n):=h.keep (qif8 (World.grownBy.refl _ _) n)
theorem NxS.moved(h:NxS w cb b mb rb kind pre s i e W)(hg:W.grownBy W' (some cb))(hcur:Cur W' cb s i' e'):NxS w cb b mb rb kind pre s i' e' W':=by obtain⟨h1,h2,h3,h4,h5,h6,h7,h8,h9,ha,hb,hc,hd,he,hf,hh⟩:=h;have hk:∀k,k<W.heap.size->k≠cb->W'.heap[k]?=W.heap[k]? := fun k hk hne=>hg.block k hk (fun e=>hne (Option.some.inj e));exact⟨h1.grown hg (fun k e => .inl (Option.some.inj e).symm),hcur,h3.of_block (hk _ (by omega) (Ne.symm hc)) (hk _ (by omega) (Ne.symm hd)),h4.of_block (hk _ (by omega) (Ne.symm he)),(hk _ (by omega) (by omega)).trans h5,(hk _ (by omega) (by omega)).trans h6,Nat.le_trans h7 hg.size,h8,h9,ha,hb,hc,hd,he,hf,hh⟩
theorem NxS.c0(h:NxS w cb b mb rb kind pre s i e W):W.cell? ⟨w.heap.size,0,none⟩=some (.pointer (some ⟨cb,0,none⟩)):=cell_of_row _ _ _ _ _ _ h.box
theorem NxS.t0(h:NxS w cb b mb rb kind pre s i e W):W.cell? ⟨b,0,none⟩=some (.int .i64 kind):=by obtain⟨x,h1,_⟩:=h.tal;exact h1.c0
theorem NxS.t1(h:NxS w cb b mb rb kind pre s i e W):W.cell? ⟨b,1,none⟩=some (.map (some mb)):=by obtain⟨x,h1,_⟩:=h.tal;exact h1.c1
theorem NxS.rules(h:NxS w cb b mb rb kind pre s i e W):q88l W mb:=by obtain⟨x,h1,_⟩:=h.tal;exact h1.2
theorem NxS.fr(h:NxS w cb b mb rb kind pre s i e W)(j:Nat):W.frozen? ⟨w.heap.size+1,j,none⟩=false:=by have h1:=h.res;simp[World.frozen?,h1]
theorem NxS.r(h:NxS w cb b mb rb kind pre s i e W)(j:Nat):W.cell? ⟨w.heap.size+1,j,none⟩=(#[.int .i64 0,.int .u32 0,.string ⟨#[]⟩,.string ⟨#[]⟩]:Array Value)[j]? := cell_of_row _ _ _ _ _ _ h.res
end
theorem Grow2.set4{w W:World}{c b B:Nat}(h:Grow2 w W c b)(hB:w.heap.size<=B)(x0 x1 x2 x3:Value):Grow2 w (set4 W B x0 x1 x2 x3) c b:=
 ⟨h.os,h.tape,h.output,by have:=h.size;unfold Go.Proofs.YtefmhbioggcfaaaGreatDoor.set4;simpa [World.setCell] using this,fun k hk hc hb=>(qai2 W B x0 x1 x2 x3 k (by omega)).trans (h.block k hk hc hb)⟩
theorem NxS.fin{w W W':World}{cb b mb rb i:Nat}{kind e:Int}{pre pre':List Pr}{s:ByteArray}{cs:Array Value}(h:NxS w cb b mb rb kind pre s i e W)(hg:W.drew.grownBy W' (some b)) :
 Grow2 w (W'.setRow (w.heap.size+1) cs) cb b/\Cur (W'.setRow (w.heap.size+1) cs) cb s i e/\qp0k (W'.setRow (w.heap.size+1) cs) rb/\(TalL W' b mb kind pre'->TalL (W'.setRow (w.heap.size+1) cs) b mb kind pre'):=by
 obtain⟨h1,h2,h3,h4,h5,h6,h7,h8,h9,ha,hb,hc,hd,he,hf,hh⟩:=h;have hk:∀k,k<W.heap.size->k≠b->W'.heap[k]?=W.heap[k]? := fun k hk hne=>hg.block k hk (fun e=>hne (Option.some.inj e));have hs:∀k,k<w.heap.size->(W'.setRow (w.heap.size+1) cs).heap[k]?=W'.heap[k]? := fun k hk=>setRow_other _ _ _ _ (by omega);refine⟨?_,h2.of_block ((hs _ h8).trans (hk _ (by omega) hc)),h4.of_block ((hs _ hb).trans (hk _ (by omega) (Ne.symm hh))),fun ht=>ht.of_block (hs _ h9) (hs _ ha)⟩;have g1:Grow2 w W.drew cb b:=h1.grown (o:=none) (qif8 (World.grownBy.refl W none) 1) (fun k e=>by cases e);have g2:Grow2 w W' cb b:=g1.grown hg (fun k e => .inr (.inl (Option.some.inj e).symm));exact⟨g2.os,g2.tape,g2.output,by have:=g2.size;simpa [World.setRow] using this,fun k hk hc hb=>(hs k hk).trans (g2.block k hk hc hb)⟩
theorem qut4{fn:Func}{R:Ending->World->Prop}{a:Act}{W:World}{p u:Tmp}{B:Nat}{cs:Array Value}{v:Value}(h:fn.results=#[.cell p 82,.tmp u])(hp:a.tmps.getD p undef=.pointer (some ⟨B,0,none⟩))(hu:a.tmps.getD u undef=v)(hd:a.defers=[])(hcs:cs.size=4)
 (hg:W.heap[B]?=some (.cells cs 82 (0,0))) (hR:R (.returned (.tuple #[.agg cs,v])) W):bodyPost prog fn R .ret a W:=by
 refine bodyPost_ret (v := .tuple #[.agg cs,v]) ?_ hd hR;rw[results_cell_tmp h,hp,hu]
 have:=run_loadVar_row (P:=prog) W B 82 82 cs (0,0) _ hg underlying82 rfl (by rw[hcs];kernel_rfl)
 simp[asAddr,this,Result.andThen]
def rdF(s:Nat):Nat:=if s=1 then 260 else if s=2 then 261 else if s=3 then 262 else if s=4 then 263 else if s=5 then 264 else if s=6 then 265 else 266
theorem qc6x(s:Nat)(h1:1<=s)(h7:s<=7):q1n3 .nilFunc q585 (s:Int)=.func (.func (rdF s)) #[] #[]:=by
 have hh:s=1\/s=2\/s=3\/s=4\/s=5\/s=6\/s=7:=by omega
 rcases hh with rfl|rfl|rfl|rfl|rfl|rfl|rfl<;>rfl
theorem qce9{w:World}{cb i:Nat}{s:ByteArray}(hc:Cur w cb s i 0)(hi:i<=s.size)(hm:s.size<=9223372036854775807)(id:Int)(h1:1<=qwgc id)(h7:qwgc id<=7) :
 Calls prog (rdF (qwgc id)) #[curV cb] w (RdS cb s i id w):=by
 have hh:qwgc id=1\/qwgc id=2\/qwgc id=3\/qwgc id=4\/qwgc id=5\/qwgc id=6\/qwgc id=7:=by omega
 rcases hh with h|h|h|h|h|h|h
 ·rw[h];exact ql5c hc hi hm id h
 ·rw[h];exact q2t7 hc hi hm id h
 ·rw[h];exact quok hc hi hm id h
 ·rw[h];exact qf9b hc hi hm id h
 ·rw[h];exact qd43 hc hi hm id h
 ·rw[h];exact qvq0 hc hi hm id h
 ·rw[h];exact qeri hc hi hm id h
def qr3m:Option Code->Array Oper
 |some (.seq _ (.seq _ (.seq _ (.seq _ (.seq _ (.seq _ (.seq _ (.seq _ (.block _ (.seq _ (.cond _ (.seq (.region _ ops _) _) _)))))))))))=>ops
 |_=>#[]
def NlS(k:Nat)(a0 a1 a2 a3:Value)(W:World):Prop:=W.cell? ⟨k,0,none⟩=some a0/\W.cell? ⟨k,1,none⟩=some a1/\W.cell? ⟨k,2,none⟩=some a2/\W.cell? ⟨k,3,none⟩=some a3
section
variable{a:Act}{w:World}{d:Option Tmp}{p:String}{af:Array Edge}{x y:Tmp}{k:Nat}{a0 a1 a2 a3:Value}
theorem qqaw{t:TypeId}(h:w.heap[k]?=some (.cells #[a0,a1,a2,a3] t (0,0))):NlS k a0 a1 a2 a3 w:=⟨cell_of_row _ _ _ _ _ _ h,cell_of_row _ _ _ _ _ _ h,cell_of_row _ _ _ _ _ _ h,cell_of_row _ _ _ _ _ _ h⟩
theorem qwjj(hx:a.eval (.tmp x)=.pointer (some ⟨k,0,none⟩))(hS:NlS k a0 a1 a2 a3 w) :
 (execOp a.eval {dst:=d,op := .load 82 (.tmp x),type:=82,pos:=p,after:=af,guard:=none}).run prog w=.ok (.value (.agg #[a0,a1,a2,a3])) w:=by
 obtain⟨h0,h1,h2,h3⟩:=hS;generalize a.eval=f at *;go_simp
theorem qnmja{Q:Exit->Act->World->Prop}{K:Act->World->Prop}{r:TypeId}{ts:Array TypeId}{u v rv:Value}{R:World->Prop}(hx:a.eval (.tmp x)=u)(hy:a.eval (.tmp y)=v)
 (h:Calls prog 212 #[u,v] w fun e w'=>e=.returned rv/\R w') (hK:∀w',R w'->K (a.put d rv) w') :
 Oper.wp prog {dst:=d,op := .call {callee := .value (.func 212),args:=#[.tmp x,.tmp y],argTypes:=ts},type:=r,pos:=p,after:=af,guard:=none} a w K Q:=by
 unfold Oper.wp execOp;have hf:a.eval (.func 212)=.func (.func 212) #[] #[]:=rfl;simp only[resolve,invoke,Sem.run_bind,List.map_toArray,List.map_cons,List.map_nil,hx,hy,hf];have h2:Calls prog 212 #[u,v] w (fun|.returned v,w''=>K (a.put d v) w''|.panicked chain,w''=>Q (.panic chain) a w''|.outgrown,_=>LetsOut Q):=h.mono (by rintro e w' ⟨rfl,hk⟩;exact hK _ hk);go_simp;exact h2
end
theorem qe7f{Q:Exit->Act->World->Prop}{X:World->Prop}{W:World}{E:Int}{rid b k q:Nat}{old:Array Value}{a0 a1 a2 a3 x0 x2 x3 x4 x5 x7 x8 x9 x11 x12 x13 x14 x15 x16 x17 x18 x19 x20 x21 x22 x23 x24 x25 x26 x27 x28 x29 x30 x31 x32 x33 x34 x35 x36 x37 x38 x39 x40 x41 x42 x43 x44 x45 x50 x51 x52:Value}
 (hq:∀ch a d v w,Q (.panic ch) (Act.put a (some d) v) w->Q (.panic ch) a w) (hk:W.heap[k]?=some (.cells #[a0,a1,a2,a3] 82 (0,0))) (hr:W.heap[q]?=some (.cells old 82 (0,0))) (ho:old.size=4) (h1:(#[a0,a1,a2,a3]:Array Value).all (·.oneCell')=true)
 (hkb:k≠b) (hqb:q≠b) (hkq:k≠q)
 (A:Calls prog 212 #[.pointer (some ⟨b,0,none⟩),.agg #[a0,a1,a2,a3]] W.drew fun e w'=>e=.returned (.int .i64 E)/\(W.drew.grownBy w' (some b)/\X w'))
 (fin:∀w',W.drew.grownBy w' (some b)->X w'->Q .normal ⟨#[x0,(.pointer (some ⟨b,0,none⟩)),x2,x3,x4,x5,(.pointer (some ⟨q,0,none⟩)),(.int .i64 E),x8,x9,(.pointer (some ⟨k,0,none⟩)),x11,x12,x13,x14,x15,x16,x17,x18,x19,x20,x21,x22,x23,x24,x25,x26,x27,x28,x29,x30,x31,x32,x33,x34,x35,x36,x37,x38,x39,x40,x41,x42,x43,x44,x45,(.agg #[a0,a1,a2,a3]),(.pointer (some ⟨b,0,none⟩)),(.agg #[a0,a1,a2,a3]),(.int .i64 E),x50,x51,x52],[]⟩ (w'.setRow q #[a0,a1,a2,a3])) :
 (Code.region rid (qr3m Tryz.f243.body) true).wp prog Q ⟨#[x0,(.pointer (some ⟨b,0,none⟩)),x2,x3,x4,x5,(.pointer (some ⟨q,0,none⟩)),x7,x8,x9,(.pointer (some ⟨k,0,none⟩)),x11,x12,x13,x14,x15,x16,x17,x18,x19,x20,x21,x22,x23,x24,x25,x26,x27,x28,x29,x30,x31,x32,x33,x34,x35,x36,x37,x38,x39,x40,x41,x42,x43,x44,x45,undef,undef,undef,undef,x50,x51,x52],[]⟩ W:=by
 have hs0:NlS k a0 a1 a2 a3 W.drew:=qqaw (w:=W) hk;have hS1:∀w',W.drew.grownBy w' (some b)->w'.heap[k]?=some (.cells #[a0,a1,a2,a3] 82 (0,0)):=fun w' h=>(h.block k (lt_of_block (w:=W) hk) (fun e=>hkb (Option.some.inj e))).trans hk;have hS2:∀w',W.drew.grownBy w' (some b)->w'.heap[q]?=some (.cells old 82 (0,0)):=fun w' h=>(h.block q (lt_of_block (w:=W) hr) (fun e=>hqb (Option.some.inj e))).trans hr;have hS3:∀w',W.drew.grownBy w' (some b)->NlS k a0 a1 a2 a3 (w'.setRow q #[a0,a1,a2,a3]):=fun w' h=>qqaw ((setRow_other _ _ _ _ hkq).trans (hS1 w' h));refine wp_region_held_drew (S:=NlS k a0 a1 a2 a3) (by kernel_rfl) hs0 (fun hHeld=>?_);refine wpAnyH_take (i:=0) (v:=(.agg #[a0,a1,a2,a3])) rfl (by kernel_rfl) (by kernel_rfl) (by kernel_rfl) (fun _ _ _ h=>hq _ _ _ _ _ h) (Or.inl ⟨by rfl,fun w hSw=>qwjj rfl hSw⟩) hHeld ?_;change wpAnyH _ _ _ _ _ _ _ ⟨#[x0,(.pointer (some ⟨b,0,none⟩)),x2,x3,x4,x5,(.pointer (some ⟨q,0,none⟩)),x7,x8,x9,(.pointer (some ⟨k,0,none⟩)),x11,x12,x13,x14,x15,x16,x17,x18,x19,x20,x21,x22,x23,x24,x25,x26,x27,x28,x29,x30,x31,x32,x33,x34,x35,x36,x37,x38,x39,x40,x41,x42,x43,x44,x45,(.agg #[a0,a1,a2,a3]),undef,undef,undef,x50,x51,x52],[]⟩ _;refine wpAnyH_take (i:=1) (v:=(.pointer (some ⟨b,0,none⟩))) rfl (by kernel_rfl) (by kernel_rfl) (by kernel_rfl) (fun _ _ _ h=>hq _ _ _ _ _ h) (Or.inl ⟨by rfl,fun w hSw=>rfl⟩) hHeld ?_;change wpAnyH _ _ _ _ _ _ _ ⟨#[x0,(.pointer (some ⟨b,0,none⟩)),x2,x3,x4,x5,(.pointer (some ⟨q,0,none⟩)),x7,x8,x9,(.pointer (some ⟨k,0,none⟩)),x11,x12,x13,x14,x15,x16,x17,x18,x19,x20,x21,x22,x23,x24,x25,x26,x27,x28,x29,x30,x31,x32,x33,x34,x35,x36,x37,x38,x39,x40,x41,x42,x43,x44,x45,(.agg #[a0,a1,a2,a3]),(.pointer (some ⟨b,0,none⟩)),undef,undef,x50,x51,x52],[]⟩ _;refine wpAnyH_take (i:=2) (v:=(.agg #[a0,a1,a2,a3])) rfl (by kernel_rfl) (by kernel_rfl) (by kernel_rfl) (fun _ _ _ h=>hq _ _ _ _ _ h) (Or.inl ⟨by rfl,fun w hSw=>qwjj rfl hSw⟩) hHeld ?_;change wpAnyH _ _ _ _ _ _ _ ⟨#[x0,(.pointer (some ⟨b,0,none⟩)),x2,x3,x4,x5,(.pointer (some ⟨q,0,none⟩)),x7,x8,x9,(.pointer (some ⟨k,0,none⟩)),x11,x12,x13,x14,x15,x16,x17,x18,x19,x20,x21,x22,x23,x24,x25,x26,x27,x28,x29,x30,x31,x32,x33,x34,x35,x36,x37,x38,x39,x40,x41,x42,x43,x44,x45,(.agg #[a0,a1,a2,a3]),(.pointer (some ⟨b,0,none⟩)),(.agg #[a0,a1,a2,a3]),undef,x50,x51,x52],[]⟩ _;refine wpAnyH_ready (rs:=[3]) (by kernel_rfl) (by simp) ?_;refine AllReadyH.cons rfl (fun K hK=>?_) AllReadyH.nil;rw[if_pos (by rfl)];refine qnmja rfl rfl A (fun w1 h1'=>hK.out _ _ (qqaw (hS1 w1 h1'.1)) fun hHeld=>?_);change wpAnyH _ _ _ _ _ _ _ ⟨#[x0,(.pointer (some ⟨b,0,none⟩)),x2,x3,x4,x5,(.pointer (some ⟨q,0,none⟩)),x7,x8,x9,(.pointer (some ⟨k,0,none⟩)),x11,x12,x13,x14,x15,x16,x17,x18,x19,x20,x21,x22,x23,x24,x25,x26,x27,x28,x29,x30,x31,x32,x33,x34,x35,x36,x37,x38,x39,x40,x41,x42,x43,x44,x45,(.agg #[a0,a1,a2,a3]),(.pointer (some ⟨b,0,none⟩)),(.agg #[a0,a1,a2,a3]),(.int .i64 E),x50,x51,x52],[]⟩ _;refine wpAnyH_ready (rs:=[4]) (by kernel_rfl) (by simp) ?_;refine AllReadyH.cons rfl (fun K hK=>?_) AllReadyH.nil;rw[if_pos (by rfl)];refine wp_store_row 82 _ _ rfl q #[a0,a1,a2,a3] rfl rfl _ _ (hS2 w1 h1'.1) (by kernel_rfl) ho h1 (hK.out _ _ (hS3 w1 h1'.1) fun hHeld=>?_);change wpAnyH _ _ _ _ _ _ _ ⟨#[x0,(.pointer (some ⟨b,0,none⟩)),x2,x3,x4,x5,(.pointer (some ⟨q,0,none⟩)),x7,x8,x9,(.pointer (some ⟨k,0,none⟩)),x11,x12,x13,x14,x15,x16,x17,x18,x19,x20,x21,x22,x23,x24,x25,x26,x27,x28,x29,x30,x31,x32,x33,x34,x35,x36,x37,x38,x39,x40,x41,x42,x43,x44,x45,(.agg #[a0,a1,a2,a3]),(.pointer (some ⟨b,0,none⟩)),(.agg #[a0,a1,a2,a3]),(.int .i64 E),x50,x51,x52],[]⟩ _;refine wpAnyH_take (i:=5) (v:=(.int .i64 E)) rfl (by kernel_rfl) (by kernel_rfl) (by kernel_rfl) (fun _ _ _ h=>hq _ _ _ _ _ h) (Or.inl ⟨by rfl,fun w hSw=>rfl⟩) hHeld ?_;change wpAnyH _ _ _ _ _ _ _ ⟨#[x0,(.pointer (some ⟨b,0,none⟩)),x2,x3,x4,x5,(.pointer (some ⟨q,0,none⟩)),(.int .i64 E),x8,x9,(.pointer (some ⟨k,0,none⟩)),x11,x12,x13,x14,x15,x16,x17,x18,x19,x20,x21,x22,x23,x24,x25,x26,x27,x28,x29,x30,x31,x32,x33,x34,x35,x36,x37,x38,x39,x40,x41,x42,x43,x44,x45,(.agg #[a0,a1,a2,a3]),(.pointer (some ⟨b,0,none⟩)),(.agg #[a0,a1,a2,a3]),(.int .i64 E),x50,x51,x52],[]⟩ _;exact wpAnyH_done (by kernel_rfl) (fin w1 h1'.1 h1'.2) _
def qzyg(kind:Int)(pre:List Pr)(x:UInt8)(r:List UInt8):Nat:=
 if mayP kind x.toNat=false then 9 else if (qij7 x.toNat r).2.2≠0 then(qij7 x.toNat r).2.2 else qx3j kind pre (qij7 x.toNat r).1
def NxP(w:World)(cb b mb rb:Nat)(kind:Int)(pre:List Pr)(s:ByteArray)(i:Nat)(x:UInt8)(r:List UInt8)(e:Ending)(W:World):Prop:=
 ∃(p:Pr) (E:Nat),e=.returned (.tuple #[qbhk p,.int .i64 (E:Nat)])/\Grow2 w W cb b/\qzyg kind pre x r=E/\
  (E=0->p=(qij7 x.toNat r).1/\PrOk p/\(qij7 x.toNat r).2.2=0/\i+1+(qij7 x.toNat r).2.1<=s.size/\Cur W cb s (i+1+(qij7 x.toNat r).2.1) 0/\TalL W b mb kind (pre++[p])/\qp0k W rb)
def RuS(w:World)(cb b mb rb:Nat)(kind:Int)(pre:List Pr)(s:ByteArray)(i:Nat)(k sh mq le:Nat)(W:World):Prop:=
 W.cell? ⟨k,0,none⟩=some (.int .i64 sh)/\W.cell? ⟨k,1,none⟩=some (.int .u32 mq)/\W.cell? ⟨k,2,none⟩=some (.int .u32 le)/\W.cell? ⟨b,0,none⟩=some (.int .i64 kind)/\
 (NxS w cb b mb rb kind pre s i 0 W/\k<W.heap.size/\W.heap[k]?=some (.cells #[.int .i64 sh,.int .u32 mq,.int .u32 le] 203 (0,0)))
section
variable{w W W':World}{cb b mb rb i k sh mq le:Nat}{kind:Int}{pre:List Pr}{s:ByteArray}
theorem RuS.mk(h:NxS w cb b mb rb kind pre s i 0 W)(hb:W.heap[k]?=some (.cells #[.int .i64 sh,.int .u32 mq,.int .u32 le] 203 (0,0))):RuS w cb b mb rb kind pre s i k sh mq le W:=
 ⟨cell_of_row _ _ _ _ _ _ hb,cell_of_row _ _ _ _ _ _ hb,cell_of_row _ _ _ _ _ _ hb,h.t0,h,lt_of_block hb,hb⟩
theorem RuS.call(h:RuS w cb b mb rb kind pre s i k sh mq le W)(hb:Below W.heap.size W W'):RuS w cb b mb rb kind pre s i k sh mq le W':=by obtain⟨_,_,_,_,h1,h2,h3⟩:=h;exact RuS.mk (h1.below hb) ((hb.block k h2).trans h3)
end
theorem qz1r{w W:World}{cb b mb rb i i' n:Nat}{kind:Int}{pre:List Pr}{s:ByteArray}{x:UInt8}{r:List UInt8}{p:Pr}(hx:x.toNat=n)(hm:mayP kind n=true)(h2:qij7 n r=(⟨n,p.n,p.text,p.value⟩,i'-(i+1),0))(h1:i'=i+1+(qij7 n r).2.1)(ok:PrOk ⟨n,p.n,p.text,p.value⟩)(hi:i'<=s.size)
 (g1:Grow2 w W cb b) (g2:Cur W cb s i' (0:Nat)) (g3:qp0k W rb) (g4:qx3j kind pre ⟨n,p.n,p.text,p.value⟩=0->TalL W b mb kind (pre++[⟨n,p.n,p.text,p.value⟩])) :
 NxP w cb b mb rb kind pre s i x r (.returned (.tuple #[qbhk ⟨n,p.n,p.text,p.value⟩,.int .i64 ((qx3j kind pre ⟨n,p.n,p.text,p.value⟩:Nat):Int)])) W:=by
 refine⟨_,_,rfl,g1,?_,fun hE=>?_⟩
 ·unfold qzyg;rw[hx,if_neg (by simp[hm]),h2,if_neg (by simp)]
 ·rw[hx];rw[h1] at g2 hi;exact⟨by rw[h2],ok,by rw[h2],hi,g2,g4 hE,g3⟩
theorem qs4v{w W:World}{cb b mb rb i n E:Nat}{kind:Int}{pre:List Pr}{s:ByteArray}{x:UInt8}{r:List UInt8}(hx:x.toNat=n)(hm:mayP kind n=true)(h2:(qij7 n r).2.2=E)(hE:E≠0)(g1:Grow2 w W cb b) :
 NxP w cb b mb rb kind pre s i x r (.returned (.tuple #[qbhk ⟨0,0,[],[]⟩,.int .i64 (E:Nat)])) W:=by
 refine⟨_,_,rfl,g1,?_,fun h=>absurd h hE⟩;unfold qzyg;rw[hx,if_neg (by simp[hm]),h2,if_pos hE]
theorem num_one(x:UInt8):num [x]=x.toNat:=by simp[num]
theorem q97b{w:World}{cb b mb rb i:Nat}{kind:Int}{pre:List Pr}{s:ByteArray}{x:UInt8}{r:List UInt8}(hc:Cur w cb s i 0)(ht:TalL w b mb kind pre)(hr:qp0k w rb)(h1:cb≠b)(h2:cb≠mb)(h3:cb≠rb)(h4:b≠mb)(h5:b≠rb)
 (hm:s.size<=9223372036854775807) (hx:s.data.toList.drop i=x::r) (hk0:-9223372036854775808<=kind) (hk1:kind<=9223372036854775807) :
 Calls prog 243 #[curV cb,.pointer (some ⟨b,0,none⟩),.map (some rb)] w (NxP w cb b mb rb kind pre s i x r):=by
 have hlen:i+1<=s.size:=by
  have:=congrArg List.length hx
  rw[List.length_drop,<-q4ad,List.length_cons] at this;omega
 have hr1:s.data.toList.drop (i+1)=r:=by
  have:=congrArg (List.drop 1) hx
  rwa [List.drop_drop,List.drop_one,List.tail_cons] at this
 have hcw:=(hc.alloc (.cells #[.pointer (some ⟨cb,0,none⟩)] 259)).alloc (.cells #[.int .i64 0,.int .u32 0,.string ⟨#[]⟩,.string ⟨#[]⟩] 82);have NB:=qvi6 1 hcw hlen hm;rw[qelx s i 1 hlen (by decide),hx,List.take_succ_cons,List.take_zero,num_one] at NB;have N0:=Lib.hid (NxS.made hc ht hr h1 h2 h3 h4 h5);have hn:x.toNat<256:=x.toNat_lt;obtain⟨n,hxn⟩:∃n,x.toNat=n:=⟨_,rfl⟩
 have PN:∀p E,NxP w cb b mb rb kind pre s i x r p E↔NxP w cb b mb rb kind pre s i x r p E:=fun _ _=>Iff.rfl;have XN:=Lib.hid hxn;rw[hxn] at NB hn;have hw:IntKind.i64.wrap (n:Int)=(n:Int):=by simp only[IntKind.wrap_i64];omega
 have NB:=Lib.hid NB;have HN:=Lib.hid hn;have HM:=Lib.hid hm;have HR:=Lib.hid hr1;have HL:=Lib.hid hlen;have K0:=Lib.hid hk0;have K1:=Lib.hid hk1;clear hcw hc ht hr h1 h2 h3 h4 h5 hm hx hk0 hk1 hlen hr1 hxn hn PN;unfold curV;go_in;go_wp2_with fail;refine(NB.out).mono ?_;rintro e w1 ⟨rfl,hc1,hg1⟩;have N1:=Lib.hid (N0.out.moved hg1 hc1);have LK:=(N1.out.rules).look (id:=(n:Int)) (by omega) (by have:=HN.out;omega);unfold q3al at LK;have t1:=N1.out.t1;have MA:=fun W=>qkta (qwgc n) (qavf n) (prow n).least kind W (Nat.lt_trans (qa46 _) (by decide)) K0.out K1.out;rw[qqfu] at MA;obtain⟨B,hB⟩:∃B,mayP kind n=B:=⟨_,rfl⟩
 obtain⟨sh,hsh⟩:∃z,qwgc n=z:=⟨_,rfl⟩
 obtain⟨mq,hmk⟩:∃z,qavf n=z:=⟨_,rfl⟩
 obtain⟨le,hle⟩:∃z,(prow n).least=z:=⟨_,rfl⟩
 rw[hB,hsh,hmk,hle] at MA;rw[hsh,hmk,hle] at LK;unfold q3al at MA;have MA:=Lib.hid MA;have HB:=Lib.hid hB;have SH:=Lib.hid hsh;clear hc1 hg1 N0 NB hB hsh hmk hle;go_wp2_with fail;have hS:RuS w cb b mb rb kind pre s (i+1) w1.heap.size sh mq le (w1.alloc (.cells #[.int .i64 sh,.int .u32 mq,.int .u32 le] 203)).drew:=
  RuS.mk ((N1.out.alloc _).draws 1) (heap_alloc_new _ _)
 clear LK t1 N1;have RC:=Lib.hid (fun W W' h hb=>RuS.call (w:=w) (W:=W) (W':=W') (cb:=cb) (b:=b) (mb:=mb) (rb:=rb) (i:=i+1) (k:=w1.heap.size) (sh:=sh) (mq:=mq) (le:=le) (kind:=kind) (pre:=pre) (s:=s) h hb)
 go_region_held3 (fun w'=>w'.cell? ⟨w1.heap.size,0,none⟩=some (.int .i64 sh)/\w'.cell? ⟨w1.heap.size,1,none⟩=some (.int .u32 mq)/\w'.cell? ⟨w1.heap.size,2,none⟩=some (.int .u32 le)/\w'.cell? ⟨b,0,none⟩=some (.int .i64 kind)/\
  (NxS w cb b mb rb kind pre s (i+1) 0 w'/\w1.heap.size<w'.heap.size/\w'.heap[w1.heap.size]?=some (.cells #[.int .i64 sh,.int .u32 mq,.int .u32 le] 203 (0,0))))
  (exact hS)
  (first
   |(go_at_call 267;with_reducible refine(MA.out _).mono ?_;rintro e w2 ⟨rfl,hb⟩;have hS:=RC.out _ _ hS hb;clear hb))
 rename_i hHeld;clear hHeld RC MA;have HS:=Lib.hid hS;cases B with
 |false=>
  have f0:=HS.out.2.2.2.2.1.fr 0;have f1:=HS.out.2.2.2.2.1.fr 1;have f2:=HS.out.2.2.2.2.1.fr 2;have f3:=HS.out.2.2.2.2.1.fr 3;have r0:=HS.out.2.2.2.2.1.r 0;have r1:=HS.out.2.2.2.2.1.r 1;have r2:=HS.out.2.2.2.2.1.r 2;have r3:=HS.out.2.2.2.2.1.r 3;clear hS;go_wp2_with fail;refine qut4 rfl rfl rfl rfl ?_ (qgwu HS.out.2.2.2.2.1.res (.int .i64 0) (.int .u32 0) (.string ⟨#[]⟩) (.string ⟨#[]⟩)) ?_
  ·rfl
  refine⟨⟨0,0,[],[]⟩,9,rfl,HS.out.2.2.2.2.1.g.set4 (by omega) _ _ _ _,?_,fun h=>by cases h⟩;unfold qzyg;rw[XN.out,HB.out];rfl
 |true=>
  have row:=qznl HB.out;rw[SH.out] at row;have LR:=HS.out.2.2.2.2.1.rd.look (sh:Int) (by omega) (by omega);rw[qc6x sh row.1 row.2.1] at LR;have RDC:=Lib.hid (fun W (h:Cur W cb s (i+1) 0)=>qce9 h HL.out HM.out n (by rw[SH.out];exact row.1) (by rw[SH.out];exact row.2.1));have hh:sh=1\/sh=2\/sh=3\/sh=4\/sh=5\/sh=6\/sh=7:=by omega
  have c0:=HS.out.2.2.2.2.1.c0;have k0:=hS.1;rw[SH.out] at RDC;unfold curV at RDC;clear hS row;rcases hh with rfl|rfl|rfl|rfl|rfl|rfl|rfl
  all_goals
   first
    |change (Instr.lookup 260 (.map (some rb)) (.int .i64 1) false).run prog w2=Result.ok (Value.func (Fn.func 260) #[] #[]) w2 at LR
    |change (Instr.lookup 260 (.map (some rb)) (.int .i64 2) false).run prog w2=Result.ok (Value.func (Fn.func 261) #[] #[]) w2 at LR
    |change (Instr.lookup 260 (.map (some rb)) (.int .i64 3) false).run prog w2=Result.ok (Value.func (Fn.func 262) #[] #[]) w2 at LR
    |change (Instr.lookup 260 (.map (some rb)) (.int .i64 4) false).run prog w2=Result.ok (Value.func (Fn.func 263) #[] #[]) w2 at LR
    |change (Instr.lookup 260 (.map (some rb)) (.int .i64 5) false).run prog w2=Result.ok (Value.func (Fn.func 264) #[] #[]) w2 at LR
    |change (Instr.lookup 260 (.map (some rb)) (.int .i64 6) false).run prog w2=Result.ok (Value.func (Fn.func 265) #[] #[]) w2 at LR
    |change (Instr.lookup 260 (.map (some rb)) (.int .i64 7) false).run prog w2=Result.ok (Value.func (Fn.func 266) #[] #[]) w2 at LR
   go_wp2_with fail;refine(RDC.out w2 HS.out.2.2.2.2.1.cur).mono ?_;rintro e w3 ⟨p,i',e',rfl,hc3,hg3,hi3,hz,hp⟩;have N3:=Lib.hid (HS.out.2.2.2.2.1.moved hg3 hc3);have c0:∀o,(w3.alloc o).cell? ⟨w.heap.size,0,none⟩=some (.pointer (some ⟨cb,0,none⟩)):=fun o=>(N3.out.alloc o).c0;rw[HR.out] at hz hp;have HZ:=Lib.hid hz;have HP:=Lib.hid hp;have HI:=Lib.hid hi3;have K4:=Lib.hid (heap_alloc_new w3 (.cells #[.int .i64 n,.int .u32 p.n,.string (bs p.text),.string (bs p.value)] 82));have N4:=Lib.hid (N3.out.alloc (.cells #[.int .i64 n,.int .u32 p.n,.string (bs p.text),.string (bs p.value)] 82));have L3:=Lib.hid N3.out.sz;have LB:=Lib.hid N3.out.lb;clear hc3 hg3 hi3 hz hp LR k0;unfold qbhk;go_wp2_with fail;clear c0;refine(q29p N4.out.cur).mono ?_;rintro e w4 ⟨rfl,rfl⟩;generalize w3.alloc (.cells #[.int .i64 n,.int .u32 p.n,.string (bs p.text),.string (bs p.value)] 82)=W4 at *;by_cases z0:e'=0
   ·subst z0;obtain⟨p1,p2,p3,p4,p5⟩:=HP.out rfl;have ok:PrOk ⟨(n:Int),p.n,p.text,p.value⟩:=⟨by show _<=(n:Int);omega,by have:=HN.out;show(n:Int)<=_;omega,p3,by show p.text.length<=_;omega,by show p.value.length<=_;omega⟩
    have A:=q42n ⟨(n:Int),p.n,p.text,p.value⟩ (N4.out.tal.draws 1) K0.out K1.out ok;have P2:=Lib.hid p2;have P1:=Lib.hid p1;have OK:=Lib.hid ok;clear p1 p2 p3 p4 p5 ok;go_wp2_with fail;refine qe7f (k:=w3.heap.size) (q:=w.heap.size+1) (b:=b) (fun _ _ _ _ _ h=>h) K4.out N4.out.res rfl (by simp[Value.oneCell']) (by have:=L3.out;have:=LB.out;omega) (by have:=LB.out;omega) (by have:=L3.out;omega) A ?_;intro w5 hg hX;go_wp2_with fail;obtain⟨g1,g2,g3,g4⟩:=N4.out.fin (cs:=#[.int .i64 n,.int .u32 p.n,.string (bs p.text),.string (bs p.value)]) (pre':=pre++[⟨(n:Int),p.n,p.text,p.value⟩]) hg;refine qut4 rfl rfl rfl rfl rfl (setRow_heap _ _ _ _ _ _ ((hg.block _ (lt_of_block (w:=W4) N4.out.res) (fun e=>by have:=Option.some.inj e;have:=LB.out;omega)).trans N4.out.res)) ?_;exact qz1r XN.out HB.out P2.out P1.out OK.out HI.out g1 g2 g3 (fun h=>g4 (hX h))
   ·have f0:=N4.out.fr 0;have f1:=N4.out.fr 1;have f2:=N4.out.fr 2;have f3:=N4.out.fr 3;have r0:=N4.out.r 0;have r1:=N4.out.r 1;have r2:=N4.out.r 2;have r3:=N4.out.r 3;by_cases z3:e'=3
    ·subst z3;clear z0;go_wp2_with fail;refine qut4 rfl rfl rfl rfl rfl (qgwu N4.out.res (.int .i64 0) (.int .u32 0) (.string ⟨#[]⟩) (.string ⟨#[]⟩)) ?_;exact qs4v XN.out HB.out HZ.out (by decide) (N4.out.g.set4 (by omega) _ _ _ _)
    ·have n0:(((e':Nat):Int)==0)=false:=by simp;exact z0
     have n3:(((e':Nat):Int)==3)=false:=by simp;omega
     have HE:=Lib.hid (show(if e'=3 then 5 else e')=e' from if_neg z3);have HE0:=Lib.hid z0;clear z0 z3;go_wp2_with fail;refine qut4 rfl rfl rfl rfl rfl (qgwu N4.out.res (.int .i64 0) (.int .u32 0) (.string ⟨#[]⟩) (.string ⟨#[]⟩)) ?_;exact qs4v XN.out HB.out (HZ.out.trans HE.out) HE0.out (N4.out.g.set4 (by omega) _ _ _ _)
theorem q8c9(id:Int)(c:Nat)(r:List UInt8):(numP id c r).1.id=id:=by unfold numP;split<;>rfl
theorem qdd2(id:Int)(r:List UInt8):(qij7 id r).1.id=id:=by
 unfold qij7
 repeat' split
 all_goals first|exact q8c9 _ _ _|rfl
theorem qrvb(kind:Int)(f:Nat)(out:List Pr):qwdr kind f out []=(out,0):=by cases f<;>rfl
theorem q4zj(kind:Int)(f:Nat)(out:List Pr)(x:UInt8)(r:List UInt8):qwdr kind (f+1) out (x::r)=
 if qzyg kind out x r≠0 then([],qzyg kind out x r) else if 1000<=out.length then([],4) else qwdr kind f (out++[(qij7 x.toNat r).1]) (r.drop (qij7 x.toNat r).2.1):=by
 have hid:=qdd2 (x.toNat:Int) r;rw[qwdr];unfold qzyg qx3j;rw[hid];by_cases h1:mayP kind x.toNat=false
 ·rw[if_pos h1,if_pos h1,if_pos (by decide)]
 rw[if_neg h1,if_neg h1];by_cases h2:(qij7 x.toNat r).2.2≠0
 ·rw[if_pos h2,if_pos h2,if_pos h2]
 rw[if_neg h2,if_neg h2];by_cases h3:qr4y kind (qij7 x.toNat r).1≠0
 ·rw[if_pos h3,if_pos h3,if_pos h3]
 rw[if_neg h3,if_neg h3];by_cases h4:qxv1 kind out x.toNat=true
 ·rw[if_pos h4,if_pos h4,if_pos (by decide)]
 ·rw[if_neg h4,if_neg h4];simp only[ne_eq,not_true_eq_false,if_false]
structure RaB(w:World)(B cu cb b mb rb:Nat)(kind:Int)(s:ByteArray)(R:List Pr×Nat)(out:List Pr)(i f:Nat)(v:Value)(W:World):Prop where
 cur:Cur W cb s i 0
 tal:TalL W b mb kind out
 rd:qp0k W rb
 box:W.heap[cu]?=some (.cells #[.pointer (some ⟨cb,0,none⟩)] 259 (0,0))
 own:W.ownsRow B 82 4 v out.length (pcs out)
 low:Below w.heap.size w W
 hB:B<=W.heap.size
 hi:i<=s.size
 len:out.length<=1000
 ok:∀p∈out,PrOk p
 eq:R=qwdr kind f out (s.data.toList.drop i)
 fu:(s.data.toList.drop i).length<=f
structure RaN(w:World)(B cu cb b mb rb:Nat):Prop where
 lu:w.heap.size<=cu
 lc:w.heap.size<=cb
 lb:w.heap.size<=b
 hB:w.heap.size<=B
 uu:cu<B
 uc:cb<B
 ub:b<B
 um:mb<B
 ur:rb<B
 ucb:cu≠cb
 ub':cu≠b
 cnb:cb≠b
 cnm:cb≠mb
 cnr:cb≠rb
 bnm:b≠mb
 bnr:b≠rb
theorem RaB.draws{w W:World}{B cu cb b mb rb i f:Nat}{kind:Int}{s:ByteArray}{R:List Pr×Nat}{out:List Pr}{v:Value}(h:RaB w B cu cb b mb rb kind s R out i f v W)(n:Nat):RaB w B cu cb b mb rb kind s R out i f v (W.drewN n):=
 ⟨h.cur.draws n,h.tal.draws n,h.rd.of_block rfl,h.box,h.own,qnpu h.low n,h.hB,h.hi,h.len,h.ok,h.eq,h.fu⟩
def RaP(w:World)(R:List Pr×Nat)(e:Ending)(W:World):Prop:=
 Below w.heap.size w W/\((R.2≠0/\e=.returned (.tuple #[.slice none 0 0,.int .i64 (R.2:Nat)]))\/
  (R.2=0/\R.1.length<=1000/\(∀p∈R.1,PrOk p)/\∃v,e=.returned (.tuple #[v,.int .i64 ((if qwyx R.1 then 9 else 0:Nat):Int)])/\W.ownsRow w.heap.size 82 4 v R.1.length (pcs R.1)))
theorem qsnv{W:World}{B B' n size:Nat}{t:TypeId}{v:Value}{xs:List Value}(h:W.ownsRow B t size v n xs)(hb:B'<=B):W.ownsRow B' t size v n xs:=by refine⟨h.1,h.2.imp id ?_⟩;rintro⟨g,cap,cur,e,hB,rest⟩;exact⟨g,cap,cur,e,Nat.le_trans hb hB,rest⟩
theorem qymg{W W':World}{c b B n size:Nat}{t:TypeId}{v:Value}{xs:List Value}(h:W.ownsRow B t size v n xs)(hg:Grow2 W W' c b)(hc:c<B)(hb:b<B):W'.ownsRow B t size v n xs:=by refine⟨h.1,h.2.imp id ?_⟩;rintro⟨g,cap,cur,e,hB,hh,rest⟩;exact⟨g,cap,cur,e,hB,(hg.block g (lt_of_block hh) (by omega) (by omega)).trans hh,rest⟩
theorem q8ki{W W':World}{c b B:Nat}(hg:Grow2 W W' c b)(hB:B<=W.heap.size)(hc:B<=c)(hb:B<=b):Below B W W':=
 ⟨hg.os,hg.tape,hg.output,hg.size,fun k hk=>hg.block k (Nat.lt_of_lt_of_le hk hB) (by omega) (by omega)⟩
theorem qazv{W:World}{ops:Array Oper}{rest:List Oper}{o:Oper}{a:Act}{Q:Exit->Act->World->Prop}(hgd:o.guard=none)(s x:Operand)
 (ho:o.op=.call {callee := .builtin .append,args:=#[s,x],argTypes:=#[32,32]})
 {v:Value} {base nA g i m c:Nat} {L M:List Pr} (hs:a.eval s=v) (hx:a.eval x=.slice (some ⟨g,i,none⟩) m c) (hown:W.ownsRow base 82 4 v nA (pcs L)) (hM:PL W (some ⟨g,i,none⟩) M) (hm:M.length=m) (hn:nA+m<=3000) (hb:base<=W.heap.size)
 (h:∀v' w',w'.ownsRow base 82 4 v' (nA+m) (pcs (L++M))->Below base W w'->wpList prog ops Q rest (a.put o.dst v') w'):wpList prog ops Q (o::rest) a W:=
 wpList_plain hgd fun _ hK=>qvgk s x ho hs hx hown hM hm hn hb fun v' w' h1 h2=>hK _ _ (h v' w' h1 h2)
section
variable{w W W5 W6:World}{B cu cb b mb rb i f E:Nat}{kind:Int}{s:ByteArray}{R:List Pr×Nat}{out:List Pr}{v v6:Value}{x:UInt8}{r:List UInt8}{p:Pr}
theorem RaB.fuel(h:RaB w B cu cb b mb rb kind s R out i f v W)(hx:s.data.toList.drop i=x::r):∃g,f=g+1/\r.length<=g:=by
 have:=h.fu
 rw[hx,List.length_cons] at this;exact⟨f-1,by omega,by omega⟩
theorem RaB.low5(N:RaN w B cu cb b mb rb)(h:RaB w B cu cb b mb rb kind s R out i f v W)(hg:Grow2 W W5 cb b)(hb:Below B W5 W6):Below w.heap.size w W6:=
 (h.low.trans (q8ki hg (Nat.le_trans N.hB h.hB) N.lc N.lb)).trans (hb.mono N.hB)
theorem RaB.stop(N:RaN w B cu cb b mb rb)(h:RaB w B cu cb b mb rb kind s R out i f v W)(hx:s.data.toList.drop i=x::r)(hg:Grow2 W W5 cb b)(hE:qzyg kind out x r=E)(h0:E≠0)(hb:Below B W5 W6) :
 RaP w R (.returned (.tuple #[.slice none 0 0,.int .i64 (E:Nat)])) W6:=by
 obtain⟨g,rfl,_⟩:=h.fuel hx;have he:=h.eq;rw[hx,q4zj,hE,if_pos h0] at he;subst he;exact⟨h.low5 N hg hb,.inl ⟨h0,rfl⟩⟩
theorem RaB.long(N:RaN w B cu cb b mb rb)(h:RaB w B cu cb b mb rb kind s R out i f v W)(hx:s.data.toList.drop i=x::r)(hg:Grow2 W W5 cb b)(hE:qzyg kind out x r=0)(h0:1000<=out.length)(hb:Below B W5 W6) :
 RaP w R (.returned (.tuple #[.slice none 0 0,.int .i64 4])) W6:=by
 obtain⟨g,rfl,_⟩:=h.fuel hx;have he:=h.eq;rw[hx,q4zj,hE,if_neg (by simp),if_pos h0] at he;subst he;exact⟨h.low5 N hg hb,.inl ⟨by decide,rfl⟩⟩
theorem RaB.step(N:RaN w B cu cb b mb rb)(h:RaB w B cu cb b mb rb kind s R out i f v W)(hx:s.data.toList.drop i=x::r)(hg:Grow2 W W5 cb b)(hE:qzyg kind out x r=0)
 (hp:p=(qij7 x.toNat r).1/\PrOk p/\(qij7 x.toNat r).2.2=0/\i+1+(qij7 x.toNat r).2.1<=s.size/\Cur W5 cb s (i+1+(qij7 x.toNat r).2.1) 0/\TalL W5 b mb kind (out++[p])/\qp0k W5 rb) (h0:¬1000<=out.length) (hb:Below B W5 W6)
 (ho:W6.ownsRow B 82 4 v6 (out.length+1) (pcs (out++[p]))):∃f,RaB w B cu cb b mb rb kind s R (out++[p]) (i+1+(qij7 x.toNat r).2.1) f v6 W6:=by
 obtain⟨g,rfl,hf⟩:=h.fuel hx;have he:=h.eq;rw[hx,q4zj,hE,if_neg (by simp),if_neg h0] at he;obtain⟨hp1,hp2,hp3,hp4,hp5,hp6,hp7⟩:=hp;have hk:∀k,k<B->W6.heap[k]?=W5.heap[k]? := fun k hk=>hb.block k hk;have hd:s.data.toList.drop (i+1+(qij7 x.toNat r).2.1)=r.drop (qij7 x.toNat r).2.1:=by rw[<-List.drop_drop,<-List.drop_drop,hx];rfl
 refine⟨g,hp5.of_block (hk _ N.uc),hp6.of_block (hk _ N.ub) (hk _ N.um),hp7.of_block (hk _ N.ur),(hk _ N.uu).trans ((hg.block _ (Nat.lt_of_lt_of_le N.uu h.hB) N.ucb N.ub').trans h.box),by rw[List.length_append];exact ho,h.low5 N hg hb,Nat.le_trans (Nat.le_trans h.hB hg.size) hb.size,hp4,by rw[List.length_append];simp;omega,?_,?_,?_⟩
 ·intro q hq;rcases List.mem_append.1 hq with hq|hq
  ·exact h.ok q hq
  ·rw[List.mem_singleton.1 hq];exact hp2
 ·rw[hd,hp1];exact he
 ·rw[hd,List.length_drop];omega
theorem RaB.done(h:RaB w B cu cb b mb rb kind s R out i f v W)(hx:s.data.toList.drop i=[])(N:RaN w B cu cb b mb rb):RaP w R (.returned (.tuple #[v,.int .i64 ((if qwyx out then 9 else 0:Nat):Int)])) W:=by have he:=h.eq;rw[hx,qrvb] at he;subst he;exact⟨h.low,.inr ⟨rfl,h.len,h.ok,v,rfl,qsnv h.own N.hB⟩⟩
end
theorem qift(kind:Int)(s:ByteArray)(w:World)(hk0:-9223372036854775808<=kind)(hk1:kind<=9223372036854775807)(hm:s.size<=9223372036854775807) :
 Calls prog 208 #[.int .i64 kind,.string s] w (RaP w (qwdr kind s.size [] s.data.toList)):=by
 have K0:=Lib.hid hk0;have K1:=Lib.hid hk1;have HM:=Lib.hid hm;obtain⟨R,hR⟩:∃R,qwdr kind s.size [] s.data.toList=R:=⟨_,rfl⟩
 rw[hR];have HR:=Lib.hid hR;clear hk0 hk1 hm hR;go_in;go_wp2_with fail;refine(q2gu s w).mono ?_;rintro e w1 ⟨rfl,hc1,hb1,hs1⟩;have C1:=Lib.hid hc1;have B1:=Lib.hid hb1;have S1:=Lib.hid hs1;clear hc1 hb1 hs1;go_wp2_with fail;refine(qkou kind _).mono ?_;rintro e w2 ⟨b,mb,rfl,ht,hb2,hlb,hlm⟩;rw[World.size_alloc,S1.out] at hlb hlm;have C2:=Lib.hid ((C1.out.alloc (.cells #[.pointer (some ⟨w.heap.size,0,none⟩)] 259)).of_block (hb2.block _ (by rw[World.size_alloc,S1.out];omega)));have X2:=Lib.hid ((hb2.block w1.heap.size (by rw[World.size_alloc];omega)).trans (heap_alloc_new w1 (.cells #[.pointer (some ⟨w.heap.size,0,none⟩)] 259)));have B2:=Lib.hid ((B1.out.alloc B1.out.size _).trans (hb2.mono (by rw[World.size_alloc,S1.out];omega)));have T2:=Lib.hid ht;have LB:=Lib.hid hlb;have LM:=Lib.hid hlm;clear ht hb2 hlb hlm;go_wp2_with fail;refine(qhy7 w2).mono ?_;rintro e w3 ⟨rfl,hr,hb3⟩;have hlt:w1.heap.size<w2.heap.size:=lt_of_block X2.out;have NN:=Lib.hid (show RaN w w3.heap.size w1.heap.size w.heap.size b mb w2.heap.size from by have h1:=T2.out.lt;have h2:=T2.out.mlt;have h3:=T2.out.ne;have h4:=C2.out.lt;have h5:=qmfc.lt hr;have h6:=S1.out;have h7:=LB.out;have h8:=LM.out;have h9:=hb3.size;constructor<;>omega)
 have I0:=Lib.hid (show RaB w w3.heap.size w1.heap.size w.heap.size b mb w2.heap.size kind s R [] 0 s.size (.slice none 0 0) w3 from
  ⟨C2.out.of_block (hb3.block _ C2.out.lt),(show TalL w2 b mb kind [] from⟨0,T2.out,q6mr.nil⟩).below hb3,hr,(hb3.block _ hlt).trans X2.out,World.ownsRow_nil _ _ _ _,B2.out.trans (hb3.mono B2.out.size),Nat.le_refl _,Nat.zero_le _,Nat.zero_le _,fun p h=>(by cases h),HR.out.symm,by rw[List.drop_zero,<-q4ad];exact Nat.le_refl _⟩)
 clear hr hb3 C1 B1 S1 C2 X2 B2 T2 LB LM HR hlt;go_wp2_with fail
 go_loopg [9] s.size (fun gk v wx=>∃out i f,gk=s.size-i/\RaB w w3.heap.size w1.heap.size w.heap.size b mb w2.heap.size kind s R out i f v wx)
 case atStart=>exact⟨[],0,s.size,rfl,I0.out⟩
 case round=>
  obtain⟨out,i,f,rfl,hI⟩:=hrel;have I:=Lib.hid hI;have hc:=hI.cur;have c0:wr.cell? ⟨w1.heap.size,0,none⟩=some (.pointer (some ⟨w.heap.size,0,none⟩)):=cell_of_row _ _ _ _ _ _ hI.box;have LF:=Lib.hid (qog8 hI.cur hI.hi HM.out);clear hI hc I0;by_cases hlt:i<s.size
  ·have q1:(0:Int)<((s.size-i:Nat):Int):=by omega
   obtain⟨z,hz⟩:∃z,s.size-i=z:=⟨_,rfl⟩
   rw[hz] at q1 LF;obtain⟨x,r,hx⟩:∃x r,s.data.toList.drop i=x::r:=by
    cases h:s.data.toList.drop i with
    |nil=>have:=congrArg List.length h;rw[List.length_drop,<-q4ad] at this;simp at this;omega
    |cons x r=>exact⟨x,r,rfl⟩
   have HX:=Lib.hid hx;have HLT:=Lib.hid hlt;have HZ:=Lib.hid hz;clear hx hlt hz;go_wp2_with fail;refine(LF.out).mono ?_;rintro e w4 ⟨rfl,m,rfl⟩;clear LF;go_wp2_with fail;have ID:=Lib.hid (I.out.draws m);have NX:=Lib.hid (q97b ID.out.cur ID.out.tal ID.out.rd NN.out.cnb NN.out.cnm NN.out.cnr NN.out.bnm NN.out.bnr HM.out HX.out K0.out K1.out);generalize wr.drewN m=wd at *;clear c0;unfold curV at NX;refine(NX.out).mono ?_;rintro e w5 ⟨p,E,rfl,hg2,hE,hok⟩;have HG:=Lib.hid hg2;have HE:=Lib.hid hE;have HO:=Lib.hid hok;clear hg2 hE hok NX;unfold qbhk;by_cases e0:E=0
   ·subst e0;have OW0:=((qymg ID.out.own HG.out NN.out.uc NN.out.ub).alloc (.cells #[.int .i64 p.id,.int .u32 p.n,.string (bs p.text),.string (bs p.value)] 82)).alloc (.cells #[.int .i64 p.id,.int .u32 p.n,.string (bs p.text),.string (bs p.value)] 82);have PM0:=PL.made (w5.alloc (.cells #[.int .i64 p.id,.int .u32 p.n,.string (bs p.text),.string (bs p.value)] 82)) [p] #[.int .i64 p.id,.int .u32 p.n,.string (bs p.text),.string (bs p.value)] 82 rfl;rw[World.size_alloc] at PM0;have hB5:=Nat.le_trans ID.out.hB HG.out.size;have BB0:=((Below.refl w3.heap.size w5).alloc hB5 (.cells #[.int .i64 p.id,.int .u32 p.n,.string (bs p.text),.string (bs p.value)] 82)).alloc (by rw[World.size_alloc];omega) (.cells #[.int .i64 p.id,.int .u32 p.n,.string (bs p.text),.string (bs p.value)] 82);have hB7:w3.heap.size<=((w5.alloc (.cells #[.int .i64 p.id,.int .u32 p.n,.string (bs p.text),.string (bs p.value)] 82)).alloc (.cells #[.int .i64 p.id,.int .u32 p.n,.string (bs p.text),.string (bs p.value)] 82)).heap.size:=Nat.le_trans hB5 BB0.size;have hl:=ID.out.len;have hn3:out.length+1<=3000:=by omega
    obtain⟨n1,hn1⟩:∃z,out.length+1=z:=⟨_,rfl⟩
    have HN1:=Lib.hid hn1;have OW:=Lib.hid OW0;have PM:=Lib.hid PM0;have BB:=Lib.hid BB0;have HN3:=Lib.hid hn3;have HB7:=Lib.hid hB7;have LEN:out.length+1=(out++[p]).length:=by simp
    have HLEN:=Lib.hid LEN;clear OW0 PM0 BB0 hB5 hB7 hl hn3 hn1 LEN;by_cases h1000:1000<=out.length
    ·have q2:(1000:Int)<(n1:Int):=by have:=HN1.out;omega
     have H1:=Lib.hid h1000;clear h1000;go_wp2_with (at_builtin;refine qazv rfl _ _ rfl rfl rfl OW.out PM.out rfl HN3.out HB7.out ?_;intro v6 w6 ho6 hb6;obtain⟨A6,c6,rfl,hc6,hP6,_⟩:=PL.owned ho6 HLEN.out;rw[HN1.out] at ho6 ⊢;clear hP6 hc6;have HO6:=Lib.hid ho6;have HB6:=Lib.hid hb6;clear ho6 hb6)
     go_ret2
     exact ID.out.long NN.out HX.out HG.out HE.out H1.out (BB.out.trans HB6.out)
    ·have q2:¬(1000:Int)<(n1:Int):=by have:=HN1.out;omega
     have H1:=Lib.hid h1000;clear h1000;go_wp2_with (at_builtin;refine qazv rfl _ _ rfl rfl rfl OW.out PM.out rfl HN3.out HB7.out ?_;intro v6 w6 ho6 hb6;obtain⟨A6,c6,rfl,hc6,hP6,_⟩:=PL.owned ho6 HLEN.out;rw[HN1.out] at ho6 ⊢;clear hP6 hc6;have HO6:=Lib.hid ho6;have HB6:=Lib.hid hb6;clear ho6 hb6);have hO:=HO6.out;rw[<-HN1.out] at hO;obtain⟨f',hF⟩:=ID.out.step NN.out HX.out HG.out HE.out (HO.out (by trivial)) H1.out (BB.out.trans HB6.out) hO
     go_roundg (s.size-(i+1+(qij7 x.toNat r).2.1))
     case measure=>have:=HLT.out;omega
     case rel=>rw[HN1.out] at hF;exact⟨_,_,f',rfl,hF⟩
   ·have n0:(((E:Nat):Int) != 0)=true:=by simp;exact e0
    have E0:=Lib.hid e0;clear e0;go_wp2
    go_ret2
    exact ID.out.stop NN.out HX.out HG.out HE.out E0.out ((Below.refl w3.heap.size w5).alloc (Nat.le_trans ID.out.hB HG.out.size) _)
  ·have hi:=I.out.hi;have q1:((s.size-i:Nat):Int)=0:=by omega
   have hx:s.data.toList.drop i=[]:=List.drop_of_length_le (by rw[<-q4ad];omega);have HX:=Lib.hid hx;rw[q1] at LF;clear hlt hi q1 hx;go_wp2_with fail;refine(LF.out).mono ?_;rintro e w4 ⟨rfl,m,rfl⟩;have ID:=Lib.hid (I.out.draws m);clear LF;go_wp2_with fail;have EN:=qtn3 ID.out.tal;have RD:=ID.out.done HX.out NN.out;obtain⟨le,hle⟩:∃z:Int,((if qwyx out then 9 else 0:Nat):Int)=z:=⟨_,rfl⟩
   rw[hle] at EN RD;have RD:=Lib.hid RD;have EN1:=Lib.hid EN;clear EN hle;refine(EN1.out).mono ?_;rintro e w5 ⟨rfl,rfl⟩;go_wp2
   go_ret2
   exact RD.out
def PrdP(w:World)(q:List Pr×Nat×Nat)(e:Ending)(W:World):Prop:=
 Below w.heap.size w W/\(∀p∈q.1,PrOk p)/\q.1.length<=1000/\∃v,e=.returned (.tuple #[v,.int .i64 (q.2.1:Nat),.int .i64 (q.2.2:Nat)])/\W.ownsRow w.heap.size 82 4 v q.1.length (pcs q.1)
theorem PrdP.none{w W:World}{E:Nat}{q:List Pr×Nat×Nat}(hb:Below w.heap.size w W)(hq:q=([],0,E)):PrdP w q (.returned (.tuple #[.slice none 0 0,.int .i64 0,.int .i64 (E:Nat)])) W:=by subst hq;exact⟨hb,fun p h=>(by cases h),Nat.zero_le _,_,rfl,World.ownsRow_nil _ _ _ _⟩
theorem q3kx(kind:Int)(s:ByteArray)(w:World)(hk0:-9223372036854775808<=kind)(hk1:kind<=9223372036854775807)(hm:s.size<=9223372036854775807) :
 Calls prog 168 #[.int .i64 kind,.string s] w (PrdP w (qflw kind s.data.toList)):=by
 have RD:=q6w6 s w hm;unfold qxfh q51h at RD;obtain⟨Q,hQ⟩:∃Q,qflw kind s.data.toList=Q:=⟨_,rfl⟩
 have hQ2:=hQ;unfold qflw at hQ2;rw[hQ];obtain⟨f1,f2,f3⟩:=qips s.data.toList;have hsz:s.data.toList.length=s.size:=by rw[q4ad]
 obtain⟨n,hn⟩:∃n,rdN s.data.toList=n:=⟨_,rfl⟩
 obtain⟨v,hv⟩:∃n,rdV s.data.toList=n:=⟨_,rfl⟩
 obtain⟨z,hz⟩:∃n,rdE s.data.toList=n:=⟨_,rfl⟩
 rw[hn,hv,hz] at RD hQ2;rw[hn,hv,hz] at f3;rw[hn,hsz] at f1;rw[hv] at f2;rw[hsz] at hQ2;by_cases h0:z=0
 ·subst h0;rw[if_neg (by simp)] at hQ2;obtain⟨y,hy⟩:∃y,s.size-n=y:=⟨_,rfl⟩
  have q1:IntKind.i64.wrap ((s.size:Int)-(n:Int))=(y:Int):=by simp only[IntKind.wrap_i64];omega
  by_cases h1:s.size<n+v
  ·rw[if_pos h1] at hQ2;have q2:(y:Int)<(v:Int):=by omega
   have HQ:=Lib.hid hQ2;have HR:=Lib.hid RD;clear RD hQ hQ2 f1 f2 f3 hsz hn hv hz hy h1 hm hk0 hk1;go_in;go_wp2_with fail;refine(HR.out).mono ?_;rintro e w1 ⟨rfl,hb⟩;have HB:=Lib.hid hb;clear hb;go_wp2
   go_ret3
   exact PrdP.none HB.out HQ.out.symm
  ·rw[if_neg h1] at hQ2;have q2:¬(y:Int)<(v:Int):=by omega
   obtain⟨t,ht⟩:∃t,n+v=t:=⟨_,rfl⟩
   have q3:IntKind.i64.wrap ((n:Int)+(v:Int))=(t:Int):=by simp only[IntKind.wrap_i64];omega
   have q4:(n:Int)<=(t:Int):=by omega
   have q5:(t:Int)<=(s.size:Int):=by omega
   have q6:(0:Int)<=(n:Int):=by omega
   have he:(s.extract n t).data.toList=(s.data.toList.drop n).take v:=by rw[<-ht];simp[List.extract_eq_take_drop]
   have hes:(s.extract n t).size=v:=by rw[q4ad,he,List.length_take,List.length_drop,hsz];omega
   have RA:=fun W=>qift kind (s.extract n t) W hk0 hk1 (by omega);rw[hes,he] at RA;have HQ:=Lib.hid hQ2;have HR:=Lib.hid RD;have RA1:=Lib.hid RA;have HT:=Lib.hid ht;clear RD hQ hQ2 f1 f2 f3 hsz hn hv hz hy h1 hm hk0 hk1 RA he hes ht;go_in;go_wp2_with fail;refine(HR.out).mono ?_;rintro e w1 ⟨rfl,hb⟩;have HB:=Lib.hid hb;clear hb;go_wp2_with fail;obtain⟨F,hF⟩:∃F,qwdr kind v [] (List.take v (List.drop n s.data.toList))=F:=⟨_,rfl⟩
   have ra:=RA1.out w1;have hq:=HQ.out;rw[hF] at ra hq;have HQ2:=Lib.hid hq;have RA2:=Lib.hid ra;clear ra hq hF RA1 HQ;refine(RA2.out).mono ?_;rintro e w2 ⟨hb2,⟨h0,rfl⟩|⟨h0,hl,hok,vv,rfl,how⟩⟩
   ·have q7:(((F.2:Nat):Int) != 0)=true:=by simp;exact h0
    have HB2:=Lib.hid (HB.out.trans (hb2.mono HB.out.size));have hq:=HQ2.out;rw[if_pos h0] at hq;have HQ3:=Lib.hid hq;clear hb2 h0 hq;generalize F.2=E at *;go_wp2
    go_ret3
    exact PrdP.none HB2.out HQ3.out.symm
   ·have HB2:=Lib.hid (HB.out.trans (hb2.mono HB.out.size));have hq:=HQ2.out;rw[if_neg (by simp[h0])] at hq;cases hlo:qwyx F.1 with
    |true=>
     rw[hlo,if_pos rfl] at hq;have HQ3:=Lib.hid hq;clear hb2 h0 hl hok how hq hlo;rw[if_pos rfl];go_wp2
     go_ret3
     exact PrdP.none HB2.out HQ3.out.symm
    |false=>
     rw[hlo,if_neg (by simp),HT.out] at hq;subst hq;have HF:=Lib.hid (show PrdP w (F.1,t,0) (.returned (.tuple #[vv,.int .i64 (t:Nat),.int .i64 (0:Nat)])) w2 from⟨HB2.out,hok,hl,vv,rfl,qsnv how HB.out.size⟩);clear hb2 h0 hl hok how hlo HQ2;rw[if_neg (by simp)];go_wp2
     go_ret3
     exact HF.out
 ·have q1:(((z:Nat):Int) != 0)=true:=by simp;exact h0
  rw[if_pos h0] at hQ2;have HQ:=Lib.hid hQ2;have HR:=Lib.hid RD;clear RD hQ hQ2 f1 f2 f3 hsz hn hv hz h0 hm hk0 hk1;go_in;go_wp2_with fail;refine(HR.out).mono ?_;rintro e w1 ⟨rfl,hb⟩;have HB:=Lib.hid hb;clear hb;go_wp2
  go_ret3
  exact PrdP.none HB.out HQ.out.symm
theorem q188(kind:Int)(s:ByteArray)(L:List Pr)(k F:Nat)(hk0:-9223372036854775808<=kind)(hk1:kind<=9223372036854775807)(hm:s.size<=9223372036854775807)(hq:qflw kind s.data.toList=(L,k,F))(W:World) :
 Calls prog 168 #[.int .i64 kind,.string s] W fun e W'=>Below W.heap.size W W'/\∃A c,e=.returned (.tuple #[.slice A L.length c,.int .i64 (k:Nat),.int .i64 (F:Nat)])/\L.length<=c/\PL W' A L/\(∀p∈L,PrOk p)/\L.length<=1000/\∀g i,A=some ⟨g,i,none⟩->W.heap.size<=g:=by
 have:=q3kx kind s W hk0 hk1 hm
 rw[hq] at this;refine this.mono fun e W' ⟨hb,ok,hl,v,he,ho⟩=>⟨hb,?_⟩
 obtain⟨A,c,rfl,hc,hP,hg⟩:=PL.owned ho rfl;exact⟨A,c,he,hc,hP,ok,hl,hg⟩
end Go.Proofs.YtefmhbioggcfaaaGreatDoor
namespace Go.Proofs.YtefmhbioggcfaaaGreatDoor
open Proofs.Tryz
theorem qoa7{kind:Int}{p:Pr}(h:qr4y kind p=0):PrOk p/\p.text.length<=65535/\p.value.length<=65535:=by
 obtain⟨hm,h4,h5⟩:=qo1o h;obtain⟨_,h1,h2,_⟩:=qttn h;obtain⟨r1,r2⟩:=qilb hm;obtain⟨f0,f7,f1,f2,f3,f4,_⟩:=qznl hm;have hn:p.n<4294967296:=by
  by_cases hs:qwgc p.id<=4
  ·have h6:=(h4 hs).2.2.2;have hs4:qwgc p.id=1\/qwgc p.id=2\/qwgc p.id=3\/qwgc p.id=4:=by omega
   rcases hs4 with e|e|e|e
   ·have:=f1 e;omega
   ·have:=f2 e;omega
   ·have:=f3 e;omega
   ·have:=f4 e;omega
  ·have:=(h5 (by omega)).1;omega
 exact⟨⟨by omega,by omega,hn,by omega,by omega⟩,h1,h2⟩
theorem qdz1(kind:Int)(s:List UInt8):(∀p∈(qflw kind s).1,PrOk p/\p.text.length<=65535/\p.value.length<=65535)/\(qflw kind s).1.length<=1000:=by
 by_cases h:(qflw kind s).2.2=0
 ·have hv:=(qugf (show qflw kind s=((qflw kind s).1,(qflw kind s).2.1,0) by rw[<-h])).1;obtain⟨h1,h2,_⟩:=(qgl5 _ _).1 hv;exact⟨fun p hp=>qoa7 (h2.1 p hp),h1⟩
 ·rw[qjfk h];exact⟨fun p hp=>(nomatch hp),Nat.zero_le _⟩
theorem q5pm(x:Cs)(v kind:Int):(∀p∈(x.props v kind).1,PrOk p/\p.text.length<=65535/\p.value.length<=65535)/\(x.props v kind).1.length<=1000:=by
 unfold Cs.props;split
 ·exact⟨fun p hp=>(nomatch hp),Nat.zero_le _⟩
 ·exact qdz1 _ _
end Go.Proofs.YtefmhbioggcfaaaGreatDoor
namespace Go.Proofs.YtefmhbioggcfaaaGreatDoor
open Proofs.Tryz
open Go.RowKit
section
variable{w W W':World}{cb:Nat}{s:ByteArray}{x:Cs}
def Cs.ahead(x:Cs):List UInt8:=if x.e=0 then x.r else []
theorem qitj(hm:s.size<=9223372036854775807)(h:CsAt w cb s x) :
 Calls prog 254 #[.pointer (some ⟨cb,0,none⟩),.int .i64 (x.r.length:Nat)] w fun e w'=>e=.returned (.string (bs x.ahead))/\∃n,w'=w.drewN n:=by
 obtain⟨i,hi,hc,hr⟩:=h;have hl:x.r.length=s.size-i:=by rw[<-hr,List.length_drop,<-q4ad]
 unfold Cs.ahead;by_cases he:x.e=0
 ·rw[if_pos he];rw[he] at hc;refine(q64u x.r.length hc (by omega) hm).mono fun e w' ⟨h1,h2⟩=>⟨?_,h2⟩
  rw[h1,q31q,hr,List.take_length]
 ·rw[if_neg he];exact(qtyr (x.r.length:Int) hc (by simp;omega)).mono fun e w' ⟨h1,h2⟩=>⟨h1,h2⟩
end
def rdrV(cb:Nat)(v:Int):Value := .agg #[.pointer (some ⟨cb,0,none⟩),.int .i64 v]
section
variable{w W W':World}{cb:Nat}{s:ByteArray}{x:Cs}{v:Int}
theorem qkvc(w:World)(cb:Nat)(v:Int):(w.alloc (.cells #[.pointer (some ⟨cb,0,none⟩),.int .i64 v] 155)).heap[w.heap.size]?=some (.cells #[.pointer (some ⟨cb,0,none⟩),.int .i64 v] 155 (0,0)):=heap_alloc_new w _
theorem qr75(b:Bool)(f:Nat)(h:CsAt w cb s x) :
 Calls prog 116 #[rdrV cb v,.bool b,.int .i64 (f:Nat)] w fun e w'=>e=.returned (.tuple #[])/\CsAt w' cb s (if b then x else x.fail f)/\w.grownBy w' (some cb):=by
 have G0:=Lib.hid (World.grownBy_alloc w (.cells #[.pointer (some ⟨cb,0,none⟩),.int .i64 v] 155) (some cb));have h0:=h.alloc (.cells #[.pointer (some ⟨cb,0,none⟩),.int .i64 v] 155);have FL:=Lib.hid (qazj f h0);have H0:=Lib.hid h0;unfold rdrV;clear h h0;cases b with
 |true=>
  go_in;go_wp2_with fail
  go_end0
  exact⟨rfl,H0.out,G0.out⟩
 |false=>
  go_in;go_wp2_with fail;refine(FL.out).mono ?_;rintro e w2 ⟨rfl,hc,hg⟩;have HC:=Lib.hid hc;have HG:=Lib.hid (qo6d G0.out hg);clear hc hg;go_wp2_with fail
  go_end0
  exact⟨rfl,HC.out,HG.out⟩
theorem q0ph(x:Cs)(n:Nat)(hn:n<=2):(x.num n).1<65536:=by
 unfold Cs.num
 have:=qn9h (x.take n).1
 have hl:(x.take n).1.length<=2:=by
  unfold Cs.take;split
  ·simp
  ·split
   ·simp
   ·simp;omega
 have:256^(x.take n).1.length<=256^2:=Nat.pow_le_pow_right (by decide) hl
 omega
theorem qevs(hm:s.size<=9223372036854775807)(h:CsAt w cb s x) :
 Calls prog 192 #[rdrV cb v] w fun e w'=>e=.returned (.int .i64 ((x.num 1).1:Nat))/\CsAt w' cb s (x.num 1).2/\w.grownBy w' (some cb):=by
 have G0:=Lib.hid (World.grownBy_alloc w (.cells #[.pointer (some ⟨cb,0,none⟩),.int .i64 v] 155) (some cb));have h0:=h.alloc (.cells #[.pointer (some ⟨cb,0,none⟩),.int .i64 v] 155);have NM:=q8yf 1 (by decide) hm h0;have hlt:=q0ph x 1 (by decide);generalize x.num 1=z at *;obtain⟨z1,z2⟩:=z;have NM:=Lib.hid NM;have hz0:(0:Int)<=z1:=by omega
 have hz:(z1:Int)<65536:=by omega
 unfold rdrV;clear h h0 hlt;go_in;go_wp2_with fail;refine(NM.out).mono ?_;rintro e w2 ⟨rfl,hc,hg⟩;have HC:=Lib.hid hc;have HG:=Lib.hid (qo6d G0.out hg);clear hc hg;go_wp2;go_ret;exact⟨rfl,HC.out,HG.out⟩
theorem q9lb(hm:s.size<=9223372036854775807)(h:CsAt w cb s x) :
 Calls prog 236 #[rdrV cb v] w fun e w'=>e=.returned (.string (bs x.ahead))/\Below w.heap.size w w':=by
 have B0:=Lib.hid (qybm (w:=w) (.cells #[.pointer (some ⟨cb,0,none⟩),.int .i64 v] 155));have h0:=h.alloc (.cells #[.pointer (some ⟨cb,0,none⟩),.int .i64 v] 155);have LF:=Lib.hid (fun n=>qjtm hm (h0.draws n));have PK:=Lib.hid (fun n=>qitj hm (h0.draws n));have DR:∀a b:Nat,((w.alloc (.cells #[.pointer (some ⟨cb,0,none⟩),.int .i64 v] 155)).drewN a).drewN b=(w.alloc (.cells #[.pointer (some ⟨cb,0,none⟩),.int .i64 v] 155)).drewN (a+b):=fun a b=>by simp
 have DR:=Lib.hid DR;unfold rdrV;clear h h0;go_in;go_wp2_with fail;go_quiet (first
  |(go_at_call 84;exact(LF.out _).mono fun _ _ h=>⟨h.1,qrso h.2⟩)
  |(go_at_call 254;exact(PK.out _).mono fun _ _ h=>⟨h.1,qrso h.2⟩))
 go_wp2;go_ret;exact⟨rfl,qnpu B0.out _⟩
theorem qa2g(k f:Nat)(hk:k<=x.r.length)(hm:s.size<=9223372036854775807)(h:CsAt w cb s x) :
 Calls prog 237 #[rdrV cb v,.int .i64 (k:Nat),.int .i64 (f:Nat)] w fun e w'=>e=.returned (.tuple #[])/\CsAt w' cb s (if x.e=0 then⟨x.r.drop k,f⟩ else x)/\w.grownBy w' (some cb):=by
 have G0:=Lib.hid (World.grownBy_alloc w (.cells #[.pointer (some ⟨cb,0,none⟩),.int .i64 v] 155) (some cb));have h0:=h.alloc (.cells #[.pointer (some ⟨cb,0,none⟩),.int .i64 v] 155);have TK:=Lib.hid (qgtr k hm h0);have e1:((x.take k).2.fail f)=if x.e=0 then⟨x.r.drop k,f⟩ else x:=by
  unfold Cs.take Cs.fail;by_cases he:x.e=0
  ·simp[he,show ¬x.r.length<k by omega]
  ·simp[he]
 rw[<-e1];have BX:=Lib.hid (qkvc w cb v);have hne:w.heap.size≠cb:=Nat.ne_of_gt h.lt;unfold rdrV;clear h h0 e1 hk;go_in;go_wp2_with fail;refine(TK.out).mono ?_;rintro e w2 ⟨rfl,hc,hg⟩;have hb2:=(hg.block w.heap.size (by simp) (fun e=>hne (Option.some.inj e))).trans BX.out;have c0:w2.cell? ⟨w.heap.size,0,none⟩=some (.pointer (some ⟨cb,0,none⟩)):=cell_of_row _ _ 0 _ _ _ hb2;have FL:=Lib.hid (qazj f hc);have HG:=Lib.hid (qo6d G0.out hg);clear hc hg hb2;go_wp2_with fail;refine(FL.out).mono ?_;rintro e w3 ⟨rfl,hc,hg⟩;have HC:=Lib.hid hc;have HG2:=Lib.hid (qo6d HG.out hg);clear hc hg c0;go_wp2_with fail
 go_end0
 exact⟨rfl,HC.out,HG2.out⟩
theorem qe36:rdB []=([],0,3):=by decide
theorem qg2y:rdT []=([],0,3):=by decide
theorem qgsz(hm:s.size<=9223372036854775807)(h:CsAt w cb s x) :
 Calls prog 239 #[rdrV cb v,.func (.func 167) #[] #[]] w fun e w'=>e=.returned (.string (bs x.text.1))/\CsAt w' cb s x.text.2/\w.grownBy w' (some cb):=by
 have G0:=Lib.hid (World.grownBy_alloc w (.cells #[.pointer (some ⟨cb,0,none⟩),.int .i64 v] 155) (some cb));have h0:=h.alloc (.cells #[.pointer (some ⟨cb,0,none⟩),.int .i64 v] 155);have AH:=Lib.hid (q9lb (v:=v) hm h0);have hle:x.ahead.length<=x.r.length:=by unfold Cs.ahead;split;exact Nat.le_refl _;exact Nat.zero_le _
 have RD:=fun W=>q2z4 (bs x.ahead) W (by rw[q5zk];have:=h.len;omega);rw[qkd1] at RD;have hk:=(qslt x.ahead).1;have hk2:(rdT x.ahead).2.1<=x.r.length:=Nat.le_trans hk hle;have e1:x.text=((rdT x.ahead).1,if x.e=0 then⟨x.r.drop (rdT x.ahead).2.1,(rdT x.ahead).2.2⟩ else x):=by
  unfold Cs.text Cs.ahead;by_cases he:x.e=0
  ·simp[he]
  ·simp[he,qg2y]
 rw[e1];generalize rdT x.ahead=z at *;obtain⟨t,k,f⟩:=z;have RD:=Lib.hid RD;have PS:=fun W (h:CsAt W cb s x)=>qa2g (v:=v) k f hk2 hm h;generalize (if x.e=0 then(⟨x.r.drop k,f⟩:Cs) else x)=y at *;have PS:=Lib.hid PS;have H0:=Lib.hid h0;have BX:=Lib.hid (qkvc w cb v);have hne:w.heap.size≠cb:=Nat.ne_of_gt h.lt;unfold rdrV at *;unfold ok3 at RD;clear h h0 hle hk hk2 e1;go_in;go_wp2_with fail;refine(AH.out).mono ?_;rintro e w2 ⟨rfl,hb⟩;have H2:=Lib.hid (H0.out.below hb);have G2:=Lib.hid (qo6d G0.out (q9cp hb (some cb)));have X2:=Lib.hid ((hb.block _ (lt_of_block BX.out)).trans BX.out);clear hb;go_wp2_with fail;refine(RD.out _).mono ?_;rintro e w3 ⟨rfl,hb⟩;have H3:=Lib.hid (H2.out.below hb);have G3:=Lib.hid (qo6d G2.out (q9cp hb (some cb)));have X3:=(hb.block _ (lt_of_block X2.out)).trans X2.out;have c0:w3.cell? ⟨w.heap.size,0,none⟩=some (.pointer (some ⟨cb,0,none⟩)):=cell_of_row _ _ 0 _ _ _ X3;have c1:w3.cell? ⟨w.heap.size,1,none⟩=some (.int .i64 v):=cell_of_row _ _ 1 _ _ _ X3;clear hb X3;go_wp2_with fail;refine(PS.out _ H3.out).mono ?_;rintro e w4 ⟨rfl,hc,hg⟩;have H4:=Lib.hid hc;have G4:=Lib.hid (qo6d G3.out hg);clear hc hg c0 c1;go_wp2;go_ret;exact⟨rfl,H4.out,G4.out⟩
theorem q444(hm:s.size<=9223372036854775807)(h:CsAt w cb s x) :
 Calls prog 239 #[rdrV cb v,.func (.func 207) #[] #[]] w fun e w'=>e=.returned (.string (bs x.bin.1))/\CsAt w' cb s x.bin.2/\w.grownBy w' (some cb):=by
 have G0:=Lib.hid (World.grownBy_alloc w (.cells #[.pointer (some ⟨cb,0,none⟩),.int .i64 v] 155) (some cb));have h0:=h.alloc (.cells #[.pointer (some ⟨cb,0,none⟩),.int .i64 v] 155);have AH:=Lib.hid (q9lb (v:=v) hm h0);have hle:x.ahead.length<=x.r.length:=by unfold Cs.ahead;split;exact Nat.le_refl _;exact Nat.zero_le _
 have RD:=fun W=>qgvs (bs x.ahead) W (by rw[q5zk];have:=h.len;omega);rw[qkd1] at RD;have hk:=(q3gm x.ahead).1;have hk2:(rdB x.ahead).2.1<=x.r.length:=Nat.le_trans hk hle;have e1:x.bin=((rdB x.ahead).1,if x.e=0 then⟨x.r.drop (rdB x.ahead).2.1,(rdB x.ahead).2.2⟩ else x):=by
  unfold Cs.bin Cs.ahead;by_cases he:x.e=0
  ·simp[he]
  ·simp[he,qe36]
 rw[e1];generalize rdB x.ahead=z at *;obtain⟨t,k,f⟩:=z;have RD:=Lib.hid RD;have PS:=fun W (h:CsAt W cb s x)=>qa2g (v:=v) k f hk2 hm h;generalize (if x.e=0 then(⟨x.r.drop k,f⟩:Cs) else x)=y at *;have PS:=Lib.hid PS;have H0:=Lib.hid h0;have BX:=Lib.hid (qkvc w cb v);have hne:w.heap.size≠cb:=Nat.ne_of_gt h.lt;unfold rdrV at *;unfold ok3 at RD;clear h h0 hle hk hk2 e1;go_in;go_wp2_with fail;refine(AH.out).mono ?_;rintro e w2 ⟨rfl,hb⟩;have H2:=Lib.hid (H0.out.below hb);have G2:=Lib.hid (qo6d G0.out (q9cp hb (some cb)));have X2:=Lib.hid ((hb.block _ (lt_of_block BX.out)).trans BX.out);clear hb;go_wp2_with fail;refine(RD.out _).mono ?_;rintro e w3 ⟨rfl,hb⟩;have H3:=Lib.hid (H2.out.below hb);have G3:=Lib.hid (qo6d G2.out (q9cp hb (some cb)));have X3:=(hb.block _ (lt_of_block X2.out)).trans X2.out;have c0:w3.cell? ⟨w.heap.size,0,none⟩=some (.pointer (some ⟨cb,0,none⟩)):=cell_of_row _ _ 0 _ _ _ X3;have c1:w3.cell? ⟨w.heap.size,1,none⟩=some (.int .i64 v):=cell_of_row _ _ 1 _ _ _ X3;clear hb X3;go_wp2_with fail;refine(PS.out _ H3.out).mono ?_;rintro e w4 ⟨rfl,hc,hg⟩;have H4:=Lib.hid hc;have G4:=Lib.hid (qo6d G3.out hg);clear hc hg c0 c1;go_wp2;go_ret;exact⟨rfl,H4.out,G4.out⟩
theorem qt5a(hm:s.size<=9223372036854775807)(h:CsAt w cb s x) :
 Calls prog 195 #[rdrV cb v] w fun e w'=>e=.returned (.string (bs x.text.1))/\CsAt w' cb s x.text.2/\w.grownBy w' (some cb):=by
 have G0:=Lib.hid (World.grownBy_alloc w (.cells #[.pointer (some ⟨cb,0,none⟩),.int .i64 v] 155) (some cb));have h0:=h.alloc (.cells #[.pointer (some ⟨cb,0,none⟩),.int .i64 v] 155);have PI:=Lib.hid (qgsz (v:=v) hm h0);unfold rdrV at *;clear h h0;go_in;go_wp2_with fail;refine(PI.out).mono ?_;rintro e w2 ⟨rfl,hc,hg⟩;have H2:=Lib.hid hc;have G2:=Lib.hid (qo6d G0.out hg);clear hc hg;go_wp2;go_ret;exact⟨rfl,H2.out,G2.out⟩
theorem q932(hm:s.size<=9223372036854775807)(h:CsAt w cb s x) :
 Calls prog 196 #[rdrV cb v] w fun e w'=>e=.returned (.string (bs x.bin.1))/\CsAt w' cb s x.bin.2/\w.grownBy w' (some cb):=by
 have G0:=Lib.hid (World.grownBy_alloc w (.cells #[.pointer (some ⟨cb,0,none⟩),.int .i64 v] 155) (some cb));have h0:=h.alloc (.cells #[.pointer (some ⟨cb,0,none⟩),.int .i64 v] 155);have PI:=Lib.hid (q444 (v:=v) hm h0);unfold rdrV at *;clear h h0;go_in;go_wp2_with fail;refine(PI.out).mono ?_;rintro e w2 ⟨rfl,hc,hg⟩;have H2:=Lib.hid hc;have G2:=Lib.hid (qo6d G0.out hg);clear hc hg;go_wp2;go_ret;exact⟨rfl,H2.out,G2.out⟩
end
section
variable{w W W':World}{cb:Nat}{s:ByteArray}{x:Cs}{v:Int}
theorem q5sz(kind:Int)(hk0:-9223372036854775808<=kind)(hk1:kind<=9223372036854775807)(hm:s.size<=9223372036854775807)(h:CsAt w cb s x) :
 Calls prog 193 #[rdrV cb v,.int .i64 kind] w fun e w'=>(∃A c,e=.returned (.slice A (x.props v kind).1.length c)/\(x.props v kind).1.length<=c/\PL w' A (x.props v kind).1/\∀g i,A=some ⟨g,i,none⟩->w.heap.size<g)/\(∀p∈(x.props v kind).1,PrOk p)/\(x.props v kind).1.length<=1000/\CsAt w' cb s (x.props v kind).2/\w.grownBy w' (some cb):=by
 have G0:=Lib.hid (World.grownBy_alloc w (.cells #[.pointer (some ⟨cb,0,none⟩),.int .i64 v] 155) (some cb));have h0:=h.alloc (.cells #[.pointer (some ⟨cb,0,none⟩),.int .i64 v] 155);have H0:=Lib.hid h0;by_cases h5:v=5
 ·subst h5;have AH:=Lib.hid (q9lb (v:=5) hm h0);have hle:x.ahead.length<=x.r.length:=by unfold Cs.ahead;split;exact Nat.le_refl _;exact Nat.zero_le _
  obtain⟨L,k,F,hq⟩:∃L k F,qflw kind x.ahead=(L,k,F):=⟨_,_,_,rfl⟩
  have RD:=fun W=>q188 kind (bs x.ahead) L k F hk0 hk1 (by rw[q5zk];have:=h.len;omega) hq W;have hk2:k<=x.r.length:=by
   by_cases hF:F=0
   ·subst hF
    have:=(qugf hq).2.1
    omega
   ·have:=qjfk (kind:=kind) (s:=x.ahead) (by rw[hq];exact hF)
    rw[hq] at this
    have:k=0:=congrArg (fun z=>z.2.1) this
    omega
  have e1:x.props 5 kind=(L,if x.e=0 then⟨x.r.drop k,F⟩ else x):=by
   unfold Cs.props;by_cases he:x.e=0
   ·unfold Cs.ahead at hq;rw[if_pos he] at hq;simp[he,hq]
   ·unfold Cs.ahead at hq;rw[if_neg he,qjdx] at hq;simp[he,<-(Prod.mk.inj hq).1]
  rw[e1];have RD:=Lib.hid RD;have PS:=fun W (h:CsAt W cb s x)=>qa2g (v:=5) k F hk2 hm h;generalize (if x.e=0 then(⟨x.r.drop k,F⟩:Cs) else x)=y at *;have PS:=Lib.hid PS;have BX:=Lib.hid (qkvc w cb 5);have CB:=Lib.hid h.lt;unfold rdrV at *;clear h h0 hle hk2 e1 hq;go_in;go_wp2_with fail;refine(AH.out).mono ?_;rintro e w2 ⟨rfl,hb⟩;have Z2:=Lib.hid (show w.heap.size<w2.heap.size from Nat.lt_of_lt_of_le (lt_of_block BX.out) hb.size);have H2:=Lib.hid (H0.out.below hb);have G2:=Lib.hid (qo6d G0.out (q9cp hb (some cb)));have X2:=Lib.hid ((hb.block _ (lt_of_block BX.out)).trans BX.out);clear hb;go_wp2_with fail;refine(RD.out _).mono ?_;rintro e w3 ⟨hb,A,c,rfl,hc,hP,hO,hL,hA⟩;have H3:=Lib.hid (H2.out.below hb);have G3:=Lib.hid (qo6d G2.out (q9cp hb (some cb)));have P3:=Lib.hid hP;have Q3:=Lib.hid (And.intro hc (And.intro hO hL));have A3:=Lib.hid (fun g i (e:A=some ⟨g,i,none⟩)=>Nat.lt_of_lt_of_le Z2.out (hA g i e));have X3:=(hb.block _ (lt_of_block X2.out)).trans X2.out;have c0:w3.cell? ⟨w.heap.size,0,none⟩=some (.pointer (some ⟨cb,0,none⟩)):=cell_of_row _ _ 0 _ _ _ X3;have c1:w3.cell? ⟨w.heap.size,1,none⟩=some (.int .i64 5):=cell_of_row _ _ 1 _ _ _ X3;clear hb X3 hc hP hO hL hA;go_wp2_with fail;refine(PS.out _ H3.out).mono ?_;rintro e w4 ⟨rfl,hc,hg⟩;have H4:=Lib.hid hc;have G4:=Lib.hid (qo6d G3.out hg);have P4:=Lib.hid (P3.out.grown hg (fun g i e=>by have:=A3.out g i e;have:=CB.out;omega));clear hc hg c0 c1;go_wp2;go_ret;exact⟨⟨A,c,rfl,Q3.out.1,P4.out,A3.out⟩,Q3.out.2.1,Q3.out.2.2,H4.out,G4.out⟩
 ·have e1:x.props v kind=([],x):=by unfold Cs.props;rw[if_pos (.inr h5)]
  rw[e1];have h5':(v==5)=false:=beq_eq_false_iff_ne.2 h5;have h5n:(v != 5)=true:=by rw[show(v != 5)=!(v==5) from rfl,h5'];rfl
  unfold rdrV;clear h5 h5' h h0 e1;go_in;go_wp2;go_ret;exact⟨⟨none,0,rfl,Nat.zero_le _,fun e=>absurd rfl e,fun g i e=>by cases e⟩,fun p hp=>(nomatch hp),Nat.zero_le _,H0.out,G0.out⟩
def qvmk(c u a h r:Bool)(q:Int):Pk:={Pk.zero with kind:=1,clean:=c,hasUser:=u,hasPass:=a,hasWill:=h,wQos:=q,wRetain:=r}
def q8ku(f:Nat):Pk:=qvmk (f / 2%2==1) (f / 128%2==1) (f / 64%2==1) (f / 4%2==1) (f / 32%2==1) (f / 8%4:Nat)
theorem qmn0:∀f:Nat,f<256->(bits .and .i64 (f:Int) 2 != 0)=(f / 2%2==1)/\(bits .and .i64 (f:Int) 128 != 0)=(f / 128%2==1)/\(bits .and .i64 (f:Int) 64 != 0)=(f / 64%2==1)/\(bits .and .i64 (f:Int) 4 != 0)=(f / 4%2==1)/\(bits .and .i64 (f:Int) 32 != 0)=(f / 32%2==1)/\
 bits .and .i64 ((f:Int) / 8) 3=((f / 8%4:Nat):Int)/\(bits .and .i64 (f:Int) 1==0)=(f%2==0):=by decide+kernel
theorem qmea(f:Nat)(hf:f<256)(w:World) :
 Calls prog 238 #[.int .i64 (f:Nat)] w fun e w'=>e=.returned (.agg (pkC (q8ku f) adZ))/\Below w.heap.size w w':=by
 obtain⟨b2,b128,b64,b4,b32,bq,_⟩:=qmn0 f hf;have f0:(0:Int)<=f:=by omega
 have f1:(f:Int)<256:=by omega
 unfold q8ku;generalize (f / 2%2==1)=c at *;generalize (f / 128%2==1)=u at *;generalize (f / 64%2==1)=a at *;generalize (f / 4%2==1)=h at *;generalize (f / 32%2==1)=r at *;generalize ((f / 8%4:Nat):Int)=q at *;obtain⟨D,hD⟩:∃D,pkC (qvmk c u a h r q) adZ=D:=⟨_,rfl⟩
 have hD1:=qwmp (qvmk c u a h r q) adZ;have hD2:=qmz0 (qvmk c u a h r q) adZ;rw[hD] at hD1 hD2 ⊢;have HD:=Lib.hid hD;have HD1:=Lib.hid hD1;have HD2:=Lib.hid hD2;have HZ:=Lib.hid qbwp;have hzv:=qrai;have hne:¬pkZ=#[]:=by intro h;have:=qbwp;rw[h] at this;cases this
 have LO:=Lib.hid (q8xz (B:=w.heap.size) (k:=w.heap.size) (qybm (w:=w) (.cells pkZ 38)) (Nat.le_refl _) D);clear hD hD1 hD2 hf;go_in;go_wp2_with (first
  |(refine wpList_buildTo rfl 38 _ rfl (some 22) rfl D (by rw[<-HD.out];kernel_rfl) ?_)
  |(refine wpList_store_row rfl _ _ _ rfl w.heap.size D rfl rfl 38 _ (heap_alloc_new w _) (by rw[HD1.out];exact q5nr) (by rw[HZ.out,HD1.out]) HD2.out ?_))
 exact q7wi (cs:=D) rfl rfl rfl underlying38 rfl (by rw[HD1.out];exact q5nr) (setRow_heap _ _ _ _ _ _ (heap_alloc_new w _)) ⟨rfl,LO.out⟩
end
structure KcS(w:World)(cb:Nat)(s:ByteArray)(B:Nat)(y:Cs)(P:Pk)(a:Ad)(W:World):Prop where
 low:Below w.heap.size w W
 rs:W.heap[w.heap.size]?=some (.cells pkZ 38 (0,0))
 lt:w.heap.size<cb
 hB:cb<B
 pk:W.heap[B]?=some (.cells (pkC P a) 38 (0,0))
 cs:CsAt W cb s y
 ps:PL W a.ps P.props
 pc:P.props.length<=a.pc
 pf:∀g i,a.ps=some ⟨g,i,none⟩->B<g
section
variable{w W W':World}{cb:Nat}{s:ByteArray}{x y y':Cs}{B:Nat}{P P':Pk}{a a':Ad}
theorem KcS.call(h:KcS w cb s B y P a W)(hc:CsAt W' cb s y')(hg:W.grownBy W' (some cb)):KcS w cb s B y' P a W':=by
 have lt:=h.lt;have hB:=h.hB;exact⟨h.low.grown hg h.low.size (fun k e=>by have:=Option.some.inj e;omega),(hg.block _ (lt_of_block h.rs) (fun e=>by have:=Option.some.inj e;omega)).trans h.rs,lt,hB,
  (hg.block _ (lt_of_block h.pk) (fun e=>by have:=Option.some.inj e;omega)).trans h.pk,hc,h.ps.grown hg (fun g i e=>by have:=h.pf g i e;omega),h.pc,h.pf⟩
theorem KcS.below(h:KcS w cb s B y P a W)(hb:Below W.heap.size W W'):KcS w cb s B y P a W':=h.call (h.cs.below hb) (q9cp hb _)
theorem KcS.draws(h:KcS w cb s B y P a W)(n:Nat):KcS w cb s B y P a (W.drewN n):=h.below (qnpu (Below.refl _ _) n)
theorem KcS.cell(h:KcS w cb s B y P a W)(j:Nat):W.cell? ⟨B,j,none⟩=(pkC P a)[j]? := cell_of_row _ _ j _ _ _ h.pk
theorem KcS.fr(h:KcS w cb s B y P a W)(j:Nat):W.frozen? ⟨B,j,none⟩=false:=frozen_of_row _ _ _ _ _ h.pk
theorem KcS.set(h:KcS w cb s B y P a W)(j:Nat)(u:Value)(he:(pkC P a).setIfInBounds j u=pkC P' a')(ps:PL W a'.ps P'.props)(pc:P'.props.length<=a'.pc)(pf:∀g i,a'.ps=some ⟨g,i,none⟩->B<g):KcS w cb s B y P' a' (W.setCell ⟨B,j,none⟩ u):=by
 have o:∀k,k≠B->(W.setCell ⟨B,j,none⟩ u).heap[k]?=W.heap[k]? := fun k hk=>heap_setCell_other W ⟨B,j,none⟩ k u hk;have lt:=h.lt;have hB:=h.hB;exact⟨h.low.setCell (by show _<=B;omega) u,(o _ (by omega)).trans h.rs,lt,hB,by have:=qlvy h.pk j u;rw[he] at this;exact this,h.cs.of_block (o _ (by omega)),
  ps.kept (q99v W B j u).size (fun g i e _=>o g (by have:=pf g i e;omega)),pc,pf⟩
theorem KcS.laid(low:Below w.heap.size w W)(rs:W.heap[w.heap.size]?=some (.cells pkZ 38 (0,0)))(lt:w.heap.size<cb)(cs:CsAt W cb s y){D:Array Value}(hD:pkC P adZ=D)(hp:P.props=[]):KcS w cb s W.heap.size y P adZ ((W.alloc (.cells pkZ 38)).setRow W.heap.size D):=by have hb:Below W.heap.size W ((W.alloc (.cells pkZ 38)).setRow W.heap.size D):=q8xz (qybm _) (Nat.le_refl _) D;refine⟨qxh2 low hb,(hb.block _ (lt_of_block rs)).trans rs,lt,cs.lt,by rw[hD];exact setRow_heap _ _ _ D _ _ (heap_alloc_new W _),cs.below hb,?_,by rw[hp];exact Nat.zero_le _,fun g i e=>(by cases e)⟩;rw[hp];exact PL.nil
end
end Go.Proofs.YtefmhbioggcfaaaGreatDoor
