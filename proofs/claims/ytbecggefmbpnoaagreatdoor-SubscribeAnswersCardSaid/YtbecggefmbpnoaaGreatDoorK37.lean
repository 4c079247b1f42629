/- The contract of prop's cursor: the next property. Condition: the bytes are no more than an int says. -/
import Derived.Deep.RegionHeld3
import Derived.Deep.LoopGhost
import Derived.Test.YtbecggefmbpnoaaGreatDoorK36
import Derived.Test.YtbecggefmbpnoaaGreatDoorK34
import Derived.Test.YtbecggefmbpnoaaGreatDoorK30
namespace Go.Proofs.YtbecggefmbpnoaaGreatDoor
open Go.RowKit
structure Grow2(w W:World)(c b:Nat):Prop where
 os:W.os=w.os
 tape:W.tape=w.tape
 output:W.output=w.output
 size:w.heap.size≤W.heap.size
 block:∀k,k < w.heap.size→k≠c→k≠b→W.heap[k]? = w.heap[k]?
section
variable{w W W':World}{c b:Nat}
theorem Grow2.grown{o:Option Nat}(h:Grow2 w W c b)(hg:W.grownBy W' o)(ho:∀k,o=some k→k=c∨k=b∨w.heap.size≤k):Grow2 w W' c b:=
 ⟨hg.os.trans h.os,hg.tape.trans h.tape,hg.output.trans h.output,Nat.le_trans h.size hg.size,fun k hk hc hb=>(hg.block k (Nat.lt_of_lt_of_le hk h.size) (fun e=>by rcases ho k e.symm with h | h | h<;>omega)).trans (h.block k hk hc hb)⟩
end
structure NxS(w:World)(cb b mb rb:Nat)(kind:Int)(pre:List Pr)(s:ByteArray)(i:Nat)(e:Int)(W:World):Prop where
 g:Grow2 w W cb b
 cur:Cur W cb s i e
 tal:TalL W b mb kind pre
 rd:qp0k W rb
 box:W.heap[w.heap.size]? = some (.cells #[.pointer (some ⟨cb,0,none⟩)] 197 (0,0))
 res:W.heap[w.heap.size+1]? = some (.cells #[.int .i64 0,.int .u32 0,.string ⟨#[]⟩,.string ⟨#[]⟩] 81 (0,0))
 sz:w.heap.size+2≤W.heap.size
 lc:cb < w.heap.size
 lb:b < w.heap.size
 lm:mb < w.heap.size
 lr:rb < w.heap.size
 cnb:cb≠b
 cnm:cb≠mb
 cnr:cb≠rb
 bnm:b≠mb
 bnr:b≠rb
section
variable{w W W':World}{cb b mb rb i i':Nat}{kind e e':Int}{pre pre':List Pr}{s:ByteArray}
theorem TalL.of_block(h:TalL W b mb kind pre)(hb:W'.heap[b]? = W.heap[b]?)(hm:W'.heap[mb]? = W.heap[mb]?):TalL W' b mb kind pre:=by
 obtain⟨x,h1,h2⟩:=h
 exact⟨x,h1.of_block hb hm,h2⟩
theorem qp0k.of_block(h:qp0k W rb)(hb:W'.heap[rb]? = W.heap[rb]?):qp0k W' rb:=qmfc.of_block h hb
theorem NxS.made(hc:Cur w cb s i e)(ht:TalL w b mb kind pre)(hr:qp0k w rb)(h1:cb≠b)(h2:cb≠mb)(h3:cb≠rb)(h4:b≠mb)(h5:b≠rb) :
 NxS w cb b mb rb kind pre s i e ((w.alloc (.cells #[.pointer (some ⟨cb,0,none⟩)] 197)).alloc (.cells #[.int .i64 0,.int .u32 0,.string ⟨#[]⟩,.string ⟨#[]⟩] 81)):=by
 have hg:w.grownBy ((w.alloc (.cells #[.pointer (some ⟨cb,0,none⟩)] 197)).alloc (.cells #[.int .i64 0,.int .u32 0,.string ⟨#[]⟩,.string ⟨#[]⟩] 81)) none:=qo6d (World.grownBy_alloc _ _ _) (World.grownBy_alloc _ _ _)
 have hk:∀k,k < w.heap.size→((w.alloc (.cells #[.pointer (some ⟨cb,0,none⟩)] 197)).alloc (.cells #[.int .i64 0,.int .u32 0,.string ⟨#[]⟩,.string ⟨#[]⟩] 81)).heap[k]? = w.heap[k]? := fun k hk=>hg.block k hk (fun e=>by cases e)
 refine⟨⟨hg.os,hg.tape,hg.output,hg.size,fun k h _ _=>hk k h⟩,(hc.alloc _).alloc _,(ht.alloc _).alloc _,hr.of_block (hk _ (qmfc.lt hr)),(heap_alloc_old _ _ (by simp)).trans (heap_alloc_new w _),?_,by simp,hc.lt,ht.lt.1,ht.lt.2,qmfc.lt hr,h1,h2,h3,h4,h5⟩
 have:=heap_alloc_new (w.alloc (.cells #[.pointer (some ⟨cb,0,none⟩)] 197)) (.cells #[.int .i64 0,.int .u32 0,.string ⟨#[]⟩,.string ⟨#[]⟩] 81)
 rwa [World.size_alloc] at this
theorem NxS.keep(h:NxS w cb b mb rb kind pre s i e W)(hg:W.grownBy W' none):NxS w cb b mb rb kind pre s i e W':=by
 obtain⟨h1,h2,h3,h4,h5,h6,h7,h8,h9,ha,hb,hc,hd,he,hf,hh⟩:=h
 have hk:∀k,k < W.heap.size→W'.heap[k]? = W.heap[k]? := fun k hk=>hg.block k hk (fun e=>by cases e)
 exact⟨h1.grown hg (fun k e=>by cases e),h2.of_block (hk _ (by omega)),h3.of_block (hk _ (by omega)) (hk _ (by omega)),h4.of_block (hk _ (by omega)),(hk _ (by omega)).trans h5,(hk _ (by omega)).trans h6,Nat.le_trans h7 hg.size,h8,h9,ha,hb,hc,hd,he,hf,hh⟩
theorem NxS.below(h:NxS w cb b mb rb kind pre s i e W)(hb:Below W.heap.size W W'):NxS w cb b mb rb kind pre s i e W':=h.keep (q9cp hb _)
theorem NxS.alloc(h:NxS w cb b mb rb kind pre s i e W)(o:Obj):NxS w cb b mb rb kind pre s i e (W.alloc o):=h.keep (World.grownBy_alloc _ _ _)
theorem NxS.draws(h:NxS w cb b mb rb kind pre s i e W)(n:Nat):NxS w cb b mb rb kind pre s i e (W.drewN n):=h.keep (qif8 (World.grownBy.refl _ _) n)
theorem NxS.c0(h:NxS w cb b mb rb kind pre s i e W):W.cell? ⟨w.heap.size,0,none⟩=some (.pointer (some ⟨cb,0,none⟩)):=cell_of_row _ _ _ _ _ _ h.box
theorem NxS.t0(h:NxS w cb b mb rb kind pre s i e W):W.cell? ⟨b,0,none⟩=some (.int .i64 kind):=by obtain⟨x,h1,_⟩:=h.tal;exact h1.c0
theorem NxS.t1(h:NxS w cb b mb rb kind pre s i e W):W.cell? ⟨b,1,none⟩=some (.map (some mb)):=by obtain⟨x,h1,_⟩:=h.tal;exact h1.c1
theorem NxS.fr(h:NxS w cb b mb rb kind pre s i e W)(j:Nat):W.frozen? ⟨w.heap.size+1,j,none⟩=false:=by have h1:=h.res;simp[World.frozen?,h1]
theorem NxS.r(h:NxS w cb b mb rb kind pre s i e W)(j:Nat):W.cell? ⟨w.heap.size+1,j,none⟩=(#[.int .i64 0,.int .u32 0,.string ⟨#[]⟩,.string ⟨#[]⟩]:Array Value)[j]? := cell_of_row _ _ _ _ _ _ h.res
end
theorem Grow2.set4{w W:World}{c b B:Nat}(h:Grow2 w W c b)(hB:w.heap.size≤B)(x0 x1 x2 x3:Value):Grow2 w (set4 W B x0 x1 x2 x3) c b:=
 ⟨h.os,h.tape,h.output,by have:=h.size;unfold Go.Proofs.YtbecggefmbpnoaaGreatDoor.set4;simpa [World.setCell] using this,fun k hk hc hb=>(qai2 W B x0 x1 x2 x3 k (by omega)).trans (h.block k hk hc hb)⟩
theorem NxS.fin{w W W':World}{cb b mb rb i:Nat}{kind e:Int}{pre pre':List Pr}{s:ByteArray}{cs:Array Value}(h:NxS w cb b mb rb kind pre s i e W)(hg:W.drew.grownBy W' (some b)) :
 Grow2 w (W'.setRow (w.heap.size+1) cs) cb b∧Cur (W'.setRow (w.heap.size+1) cs) cb s i e∧qp0k (W'.setRow (w.heap.size+1) cs) rb∧(TalL W' b mb kind pre'→TalL (W'.setRow (w.heap.size+1) cs) b mb kind pre'):=by
 obtain⟨h1,h2,h3,h4,h5,h6,h7,h8,h9,ha,hb,hc,hd,he,hf,hh⟩:=h
 have hk:∀k,k < W.heap.size→k≠b→W'.heap[k]? = W.heap[k]? := fun k hk hne=>hg.block k hk (fun e=>hne (Option.some.inj e))
 have hs:∀k,k < w.heap.size→(W'.setRow (w.heap.size+1) cs).heap[k]? = W'.heap[k]? := fun k hk=>setRow_other _ _ _ _ (by omega)
 refine⟨?_,h2.of_block ((hs _ h8).trans (hk _ (by omega) hc)),h4.of_block ((hs _ hb).trans (hk _ (by omega) (Ne.symm hh))),fun ht=>ht.of_block (hs _ h9) (hs _ ha)⟩
 have g1:Grow2 w W.drew cb b:=h1.grown (o:=none) (qif8 (World.grownBy.refl W none) 1) (fun k e=>by cases e)
 have g2:Grow2 w W' cb b:=g1.grown hg (fun k e => .inr (.inl (Option.some.inj e).symm))
 exact⟨g2.os,g2.tape,g2.output,by have:=g2.size;simpa [World.setRow] using this,fun k hk hc hb=>(hs k hk).trans (g2.block k hk hc hb)⟩
section
variable{a:Act}{w:World}{d:Option Tmp}{p:String}{af:Array Edge}{x y:Tmp}{k:Nat}{a0 a1 a2 a3:Value}
end
def qzyg(kind:Int)(pre:List Pr)(x:UInt8)(r:List UInt8):Nat:=
 if mayP kind x.toNat=false then 9 else if (qij7 x.toNat r).2.2≠0 then(qij7 x.toNat r).2.2 else qx3j kind pre (qij7 x.toNat r).1
def RuS(w:World)(cb b mb rb:Nat)(kind:Int)(pre:List Pr)(s:ByteArray)(i:Nat)(k sh mq le:Nat)(W:World):Prop:=
 W.cell? ⟨k,0,none⟩=some (.int .i64 sh)∧W.cell? ⟨k,1,none⟩=some (.int .u32 mq)∧W.cell? ⟨k,2,none⟩=some (.int .u32 le)∧W.cell? ⟨b,0,none⟩=some (.int .i64 kind)∧
 (NxS w cb b mb rb kind pre s i 0 W∧k < W.heap.size∧W.heap[k]? = some (.cells #[.int .i64 sh,.int .u32 mq,.int .u32 le] 133 (0,0)))
section
variable{w W W':World}{cb b mb rb i k sh mq le:Nat}{kind:Int}{pre:List Pr}{s:ByteArray}
theorem RuS.mk(h:NxS w cb b mb rb kind pre s i 0 W)(hb:W.heap[k]? = some (.cells #[.int .i64 sh,.int .u32 mq,.int .u32 le] 133 (0,0))):RuS w cb b mb rb kind pre s i k sh mq le W:=
 ⟨cell_of_row _ _ _ _ _ _ hb,cell_of_row _ _ _ _ _ _ hb,cell_of_row _ _ _ _ _ _ hb,h.t0,h,lt_of_block hb,hb⟩
theorem RuS.call(h:RuS w cb b mb rb kind pre s i k sh mq le W)(hb:Below W.heap.size W W'):RuS w cb b mb rb kind pre s i k sh mq le W':=by
 obtain⟨_,_,_,_,h1,h2,h3⟩:=h
 exact RuS.mk (h1.below hb) ((hb.block k h2).trans h3)
end
theorem q8c9(id:Int)(c:Nat)(r:List UInt8):(numP id c r).1.id=id:=by unfold numP;split<;>rfl
theorem qdd2(id:Int)(r:List UInt8):(qij7 id r).1.id=id:=by
 unfold qij7
 repeat' split
 all_goals first | exact q8c9 _ _ _ | rfl
theorem qrvb(kind:Int)(f:Nat)(out:List Pr):qwdr kind f out []=(out,0):=by cases f<;>rfl
theorem q4zj(kind:Int)(f:Nat)(out:List Pr)(x:UInt8)(r:List UInt8):qwdr kind (f+1) out (x::r)=
 if qzyg kind out x r≠0 then([],qzyg kind out x r) else if 1000≤out.length then([],4) else qwdr kind f (out++[(qij7 x.toNat r).1]) (r.drop (qij7 x.toNat r).2.1):=by
 have hid:=qdd2 (x.toNat:Int) r
 rw[qwdr]
 unfold qzyg qx3j
 rw[hid]
 by_cases h1:mayP kind x.toNat=false
 ·rw[if_pos h1,if_pos h1,if_pos (by decide)]
 rw[if_neg h1,if_neg h1]
 by_cases h2:(qij7 x.toNat r).2.2≠0
 ·rw[if_pos h2,if_pos h2,if_pos h2]
 rw[if_neg h2,if_neg h2]
 by_cases h3:qr4y kind (qij7 x.toNat r).1≠0
 ·rw[if_pos h3,if_pos h3,if_pos h3]
 rw[if_neg h3,if_neg h3]
 by_cases h4:qxv1 kind out x.toNat=true
 ·rw[if_pos h4,if_pos h4,if_pos (by decide)]
 ·rw[if_neg h4,if_neg h4]
  simp only[ne_eq,not_true_eq_false,if_false]
structure RaB(w:World)(B cu cb b mb rb:Nat)(kind:Int)(s:ByteArray)(R:List Pr×Nat)(out:List Pr)(i f:Nat)(v:Value)(W:World):Prop where
 cur:Cur W cb s i 0
 tal:TalL W b mb kind out
 rd:qp0k W rb
 box:W.heap[cu]? = some (.cells #[.pointer (some ⟨cb,0,none⟩)] 197 (0,0))
 own:W.ownsRow B 81 4 v out.length (pcs out)
 low:Below w.heap.size w W
 hB:B≤W.heap.size
 hi:i≤s.size
 len:out.length≤1000
 ok:∀p∈out,PrOk p
 eq:R=qwdr kind f out (s.data.toList.drop i)
 fu:(s.data.toList.drop i).length≤f
structure RaN(w:World)(B cu cb b mb rb:Nat):Prop where
 lu:w.heap.size≤cu
 lc:w.heap.size≤cb
 lb:w.heap.size≤b
 hB:w.heap.size≤B
 uu:cu < B
 uc:cb < B
 ub:b < B
 um:mb < B
 ur:rb < B
 ucb:cu≠cb
 ub':cu≠b
 cnb:cb≠b
 cnm:cb≠mb
 cnr:cb≠rb
 bnm:b≠mb
 bnr:b≠rb
theorem RaB.draws{w W:World}{B cu cb b mb rb i f:Nat}{kind:Int}{s:ByteArray}{R:List Pr×Nat}{out:List Pr}{v:Value}(h:RaB w B cu cb b mb rb kind s R out i f v W)(n:Nat):RaB w B cu cb b mb rb kind s R out i f v (W.drewN n):=
 ⟨h.cur.draws n,h.tal.draws n,h.rd.of_block rfl,h.box,h.own,qnpu h.low n,h.hB,h.hi,h.len,h.ok,h.eq,h.fu⟩
def RaP(w:World)(R:List Pr×Nat)(e:Ending)(W:World):Prop:=
 Below w.heap.size w W∧((R.2≠0∧e = .returned (.tuple #[.slice none 0 0,.int .i64 (R.2:Nat)]))∨
  (R.2=0∧R.1.length≤1000∧(∀p∈R.1,PrOk p)∧∃v,e = .returned (.tuple #[v,.int .i64 ((if qwyx R.1 then 9 else 0:Nat):Int)])∧W.ownsRow w.heap.size 81 4 v R.1.length (pcs R.1)))
theorem qsnv{W:World}{B B' n size:Nat}{t:TypeId}{v:Value}{xs:List Value}(h:W.ownsRow B t size v n xs)(hb:B'≤B):W.ownsRow B' t size v n xs:=by
 refine⟨h.1,h.2.imp id ?_⟩
 rintro⟨g,cap,cur,e,hB,rest⟩
 exact⟨g,cap,cur,e,Nat.le_trans hb hB,rest⟩
theorem q8ki{W W':World}{c b B:Nat}(hg:Grow2 W W' c b)(hB:B≤W.heap.size)(hc:B≤c)(hb:B≤b):Below B W W':=
 ⟨hg.os,hg.tape,hg.output,hg.size,fun k hk=>hg.block k (Nat.lt_of_lt_of_le hk hB) (by omega) (by omega)⟩
section
variable{w W W5 W6:World}{B cu cb b mb rb i f E:Nat}{kind:Int}{s:ByteArray}{R:List Pr×Nat}{out:List Pr}{v v6:Value}{x:UInt8}{r:List UInt8}{p:Pr}
theorem RaB.fuel(h:RaB w B cu cb b mb rb kind s R out i f v W)(hx:s.data.toList.drop i=x::r):∃g,f=g+1∧r.length≤g:=by
 have:=h.fu
 rw[hx,List.length_cons] at this
 exact⟨f - 1,by omega,by omega⟩
theorem RaB.low5(N:RaN w B cu cb b mb rb)(h:RaB w B cu cb b mb rb kind s R out i f v W)(hg:Grow2 W W5 cb b)(hb:Below B W5 W6):Below w.heap.size w W6:=
 (h.low.trans (q8ki hg (Nat.le_trans N.hB h.hB) N.lc N.lb)).trans (hb.mono N.hB)
theorem RaB.stop(N:RaN w B cu cb b mb rb)(h:RaB w B cu cb b mb rb kind s R out i f v W)(hx:s.data.toList.drop i=x::r)(hg:Grow2 W W5 cb b)(hE:qzyg kind out x r=E)(h0:E≠0)(hb:Below B W5 W6) :
 RaP w R (.returned (.tuple #[.slice none 0 0,.int .i64 (E:Nat)])) W6:=by
 obtain⟨g,rfl,_⟩:=h.fuel hx
 have he:=h.eq
 rw[hx,q4zj,hE,if_pos h0] at he
 subst he
 exact⟨h.low5 N hg hb,.inl ⟨h0,rfl⟩⟩
theorem RaB.step(N:RaN w B cu cb b mb rb)(h:RaB w B cu cb b mb rb kind s R out i f v W)(hx:s.data.toList.drop i=x::r)(hg:Grow2 W W5 cb b)(hE:qzyg kind out x r=0)
 (hp:p=(qij7 x.toNat r).1∧PrOk p∧(qij7 x.toNat r).2.2=0∧i+1+(qij7 x.toNat r).2.1≤s.size∧Cur W5 cb s (i+1+(qij7 x.toNat r).2.1) 0∧TalL W5 b mb kind (out++[p])∧qp0k W5 rb) (h0:¬1000≤out.length) (hb:Below B W5 W6)
 (ho:W6.ownsRow B 81 4 v6 (out.length+1) (pcs (out++[p]))):∃f,RaB w B cu cb b mb rb kind s R (out++[p]) (i+1+(qij7 x.toNat r).2.1) f v6 W6:=by
 obtain⟨g,rfl,hf⟩:=h.fuel hx
 have he:=h.eq
 rw[hx,q4zj,hE,if_neg (by simp),if_neg h0] at he
 obtain⟨hp1,hp2,hp3,hp4,hp5,hp6,hp7⟩:=hp
 have hk:∀k,k < B→W6.heap[k]? = W5.heap[k]? := fun k hk=>hb.block k hk
 have hd:s.data.toList.drop (i+1+(qij7 x.toNat r).2.1)=r.drop (qij7 x.toNat r).2.1:=by
  rw[←List.drop_drop,←List.drop_drop,hx];rfl
 refine⟨g,hp5.of_block (hk _ N.uc),hp6.of_block (hk _ N.ub) (hk _ N.um),hp7.of_block (hk _ N.ur),(hk _ N.uu).trans ((hg.block _ (Nat.lt_of_lt_of_le N.uu h.hB) N.ucb N.ub').trans h.box),by rw[List.length_append];exact ho,h.low5 N hg hb,Nat.le_trans (Nat.le_trans h.hB hg.size) hb.size,hp4,by rw[List.length_append];simp;omega,?_,?_,?_⟩
 ·intro q hq
  rcases List.mem_append.1 hq with hq | hq
  ·exact h.ok q hq
  ·rw[List.mem_singleton.1 hq];exact hp2
 ·rw[hd,hp1];exact he
 ·rw[hd,List.length_drop];omega
theorem RaB.done(h:RaB w B cu cb b mb rb kind s R out i f v W)(hx:s.data.toList.drop i=[])(N:RaN w B cu cb b mb rb):RaP w R (.returned (.tuple #[v,.int .i64 ((if qwyx out then 9 else 0:Nat):Int)])) W:=by
 have he:=h.eq
 rw[hx,qrvb] at he
 subst he
 exact⟨h.low,.inr ⟨rfl,h.len,h.ok,v,rfl,qsnv h.own N.hB⟩⟩
end
def PrdP(w:World)(q:List Pr×Nat×Nat)(e:Ending)(W:World):Prop:=
 Below w.heap.size w W∧(∀p∈q.1,PrOk p)∧q.1.length≤1000∧∃v,e = .returned (.tuple #[v,.int .i64 (q.2.1:Nat),.int .i64 (q.2.2:Nat)])∧W.ownsRow w.heap.size 81 4 v q.1.length (pcs q.1)
theorem PrdP.none{w W:World}{E:Nat}{q:List Pr×Nat×Nat}(hb:Below w.heap.size w W)(hq:q=([],0,E)):PrdP w q (.returned (.tuple #[.slice none 0 0,.int .i64 0,.int .i64 (E:Nat)])) W:=by
 subst hq
 exact⟨hb,fun p h=>(by cases h),Nat.zero_le _,_,rfl,World.ownsRow_nil _ _ _ _⟩
end Go.Proofs.YtbecggefmbpnoaaGreatDoor
