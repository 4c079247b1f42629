/- The contract of ustring.Runes and of the iterator that it makes: the places and the code points of its string, up to the first place where none begins. Condition: the string is no longer than an int says. -/
import Derived.RangeFuncNested
import Derived.RangeFuncBound
import Derived.Shelf.RegionOpen
import Derived.OwnWalkIn
import Derived.LoopNIn
import Derived.LoopIn
import Derived.Test.YtefmhbioggcfaaaGreatDoorK20
set_option maxRecDepth 100000
set_option maxHeartbeats 2000000
namespace Go.Proofs.YtefmhbioggcfaaaGreatDoor
open Lib(hid)
open Proofs.Tryz
open Go.RowKit
attribute [local go_sem] Oper.semAt_some
abbrev Mk(l:List UInt8):={p:Nat×Nat // p∈marks 0 (pts l)}
abbrev encM{l:List UInt8}(x:Mk l):Array Value:=#[.int .i64 (x.1.1:Int),.int .i32 (x.1.2:Int)]
def KpR(Bs:Nat)(W W':World):Prop:=(∀o,W.heap[Bs]?=some o->W'.heap[Bs]?=some o)/\KeepsWalks W W'
theorem qdke{Bs:Nat}{A B C:World}(h:KpR Bs A B)(k:KpR Bs B C):KpR Bs A C:=⟨fun o ho=>k.1 o (h.1 o ho),h.2.trans k.2⟩
theorem q0v9{Bs:Nat}{w:World}(hB:Bs<w.heap.size)(W:World)(l:Nat)(o o':Obj)(hl:w.heap.size<=l)(h:W.heap[l]?=some o)(_:o.isCells=false)(hw:o.isWalk=false):KpR Bs W (W.putObj l o'):=
 ⟨fun q hq=>(World.putObj_heap_other (by omega)).trans hq,KeepsWalks.putObj _ h hw⟩
theorem qx40{Bs:Nat}(W:World)(b j:Nat)(v:Value)(h:b≠Bs):KpR Bs W (W.setCell ⟨b,j,none⟩ v):=
 ⟨fun _ ho=>(Below.heap_setCell W ⟨b,j,none⟩ v Bs (fun e=>h e.symm)).trans ho,KeepsWalks.setCell W _ v⟩
theorem q86x(w:World)(k:Nat)(s:ByteArray)(pos:Nat):w.grownBy (w.iterAt k s pos) (some k):=
 ⟨rfl,rfl,rfl,by rw[Lib.iterAt_size];exact Nat.le_refl _,fun j _ hne=>Lib.iterAt_other w k j s pos (fun e=>hne (by rw[e]))⟩
theorem qib3(a:List Nat)(c:Nat)(b:List Nat):((cbs a).length,c)∈marks 0 (a++c::b):=by rw[qfk7];simp[marks]
theorem q0hy(a:List Nat)(l:List UInt8):(cbs a++l).drop (cbs a).length=l:=by simp
theorem qllk(n:Nat)(hn:1<=n)(lp Bs:Nat)(s:ByteArray)(hs:s.size<=9223372036854775807)(W:World)(J Jx:List (Mk s.data.toList)->World->Prop)(hJ:AbidesFrom W.heap.size J)
 (hY:∀pre x W1,J pre W1->pre.length<(pts s.data.toList).length->YieldAt Fence.wide (n-1) prog lp (encM x) W1 fun e W'=>(e=.returned (.bool true)/\J (pre++[x]) W'/\KpR Bs W1 W')\/(e=.returned (.bool false)/\Jx (pre++[x]) W'))
 (hBs:W.heap[Bs]?=some (.cells #[.string s] 9 (0,0))) (h0:J [] W) :
 CallsIn Fence.wide n prog 256 #[.func (.yield lp) #[] #[],.pointer (some ⟨Bs,0,none⟩)] W fun e W'=>(∃v,e=.returned v)/\
  ((∃ys:List (Mk s.data.toList),ys.map (·.1)=marks 0 (pts s.data.toList)/\J ys W')\/(∃pre,True/\Jx pre W')):=by
 have hlt:Bs<W.heap.size:=(Array.getElem?_eq_some_iff.1 hBs).1;have hBc:W.cell? ⟨Bs,0,none⟩=some (.string s):=by simp[World.cell?,hBs]
 have hro:Fence.wide.round=none:=rfl;refine callsIn_of_wp func256 rfl trivial ?_ hro;simp only[ntmps256,List.size_toArray,List.length_cons,List.length_nil,Nat.reduceAdd,Nat.reduceSub,Array.replicate_succ,Array.replicate_zero,List.push_toArray,List.append_toArray,List.nil_append,List.cons_append]
 gi_wp2
 gi_loopw [] (fun wr=>∃(pre:List (Mk s.data.toList)) (cs rest:List Nat),pts s.data.toList=cs++rest/\pre.map (·.1)=marks 0 cs/\wr.heap[W.heap.size]?=some (.stringIter s (cbs cs).length)/\wr.heap[Bs]?=some (.cells #[.string s] 9 (0,0))/\J pre wr)
  (fun wr=>s.size-wr.iterPos W.heap.size)
 case atStart=>
  refine⟨[],[],_,rfl,rfl,?_,?_,?_⟩
  ·exact World.alloc_heap_new W _
  ·exact(Below.heap_alloc W _ Bs hlt).trans hBs
  ·exact hJ _ _ _ none h0 (World.grownBy_alloc W _ none) (fun r e=>by cases e)
 case round=>
  obtain⟨pre,cs,rest,e1,e2,hit,hbx,hJs⟩:=hrel;obtain⟨r,hl,hr⟩:=q454 s.data.toList;have hsz:s.size=s.data.toList.length:=q4ad s;have hks:W.heap.size<wr.heap.size:=(Array.getElem?_eq_some_iff.1 hit).1;have hoks:=qiv7 s.data.toList;have hlen:pre.length=cs.length:=by have:=congrArg List.length e2;simpa [qx0j] using this
  rw[e1] at hl hoks;have hdr:s.data.toList.drop (cbs cs).length=cbs rest++r:=by rw[hl,q5g4,List.append_assoc];exact q0hy _ _
  have hext:∀q,q=(cbs cs).length->(s.extract q s.size).data.toList=cbs rest++r:=by rintro q rfl;rw[<-hdr];simp[List.extract_eq_take_drop];exact List.take_of_length_le (by simp)
  obtain⟨pos,hpos⟩:∃q,(cbs cs).length=q:=⟨_,rfl⟩
  have hext:=hext pos hpos.symm;rw[hpos] at hit hdr;have hdec:=qf0g s pos;rw[hdr] at hdec;have hbx2:∀p',(wr.iterAt W.heap.size s p').heap[Bs]?=some (.cells #[.string s] 9 (0,0)):=fun p'=>(Lib.iterAt_other wr W.heap.size Bs s p' (by omega)).trans hbx;have hit2:∀p',(wr.iterAt W.heap.size s p').heap[W.heap.size]?=some (.stringIter s p'):=fun p'=>Lib.iterAt_heap wr W.heap.size s pos p' hit;have hJ2:∀p',J pre (wr.iterAt W.heap.size s p'):=fun p'=>hJ _ _ _ (some W.heap.size) hJs (q86x wr _ s p') (fun r e=>by cases e;exact⟨Nat.le_refl _,_,hit,rfl⟩);cases rest with
  |nil=>
   by_cases hp:pos<s.size
   ·have hrne:r≠[]:=by
     rintro rfl
     have:=congrArg List.length hdr
     simp[cbs] at this;omega
    rw[qbw4,List.nil_append] at hdec hext;obtain⟨c,hc⟩:∃c,(dl r).1=c:=⟨_,rfl⟩
    obtain⟨p',hp'⟩:∃p',pos+(dl r).2=p':=⟨_,rfl⟩
    have hnx:∀ty,(Instr.next (.pointer (some ⟨W.heap.size,0,none⟩)) true ty).run prog wr=.ok (.tuple #[.bool true,.int .i64 pos,.int .i32 c]) (wr.iterAt W.heap.size s p'):=fun ty=>by rw[Lib.run_next_any_at wr W.heap.size s pos ty hit hp,hdec,hc,hp']
    have hbg:∀m,CallsIn Fence.wide m prog 257 #[.string (s.extract pos s.size),.int .i32 c] (wr.iterAt W.heap.size s p') fun e w'=>e=.returned (.bool false)/\wr.iterAt W.heap.size s p'=w':=
     fun m=>callsIn_wide.2 (by have h:=qxmi (s.extract pos s.size) (wr.iterAt W.heap.size s p') (by rw[hext];exact hrne) (by rw[hext];exact hr);rwa [hext,hc] at h)
    have hbc:(wr.iterAt W.heap.size s p').cell? ⟨Bs,0,none⟩=some (.string s):=by simp[World.cell?,hbx2]
    have hJ3:=hJ2 p';have hple:pos<=s.size:=Nat.le_of_lt hp;have hall:=hid (show pre.map (·.1)=marks 0 (pts s.data.toList) from e2.trans (congrArg (marks 0) (by rw[e1,List.append_nil])));clear hext hdec hc hp' hl hdr hr hrne hY hJ2 hbx2 hit2 hit hbx hsz hpos hlen hoks e1 e2 hBs;have hbg:=hid hbg
    gi_wp2_with fail
    refine⟨trivial,(hbg.out _).mono ?_⟩;rintro e w' ⟨rfl,rfl⟩
    gi_wp2_with fail
    refine⟨fun _ h=>(by cases h),?_⟩
    gi_wp2_with fail
    refine bodyPost_ret (results_none rfl _ _ _) rfl ?_;exact⟨⟨_,rfl⟩,.inl ⟨pre,hall.out,hJ3⟩⟩
   ·have hnx:∀ty,(Instr.next (.pointer (some ⟨W.heap.size,0,none⟩)) true ty).run prog wr=.ok (.tuple #[.bool false]) wr:=fun ty=>Lib.run_next_end_at wr W.heap.size s pos ty hit hp
    gi_wp2
    go_end0
    exact⟨⟨_,rfl⟩,.inl ⟨pre,e2.trans (congrArg (marks 0) (by rw[e1,List.append_nil])),hJs⟩⟩
  |cons c rest=>
   have hoc:okc c:=hoks c (by simp);rw[q7su,List.append_assoc] at hdec hext hdr;rw[qyly hoc] at hdec;obtain⟨p',hp'⟩:∃p',pos+(cb c).length=p':=⟨_,rfl⟩
   have hple:pos<=s.size:=by
    have:=congrArg List.length hl
    rw[q5g4,List.length_append,List.length_append,hpos] at this;omega
   have hp:pos<s.size:=by have h1:=congrArg List.length hdr;have h2:=qp6t c;rw[List.length_drop,List.length_append] at h1;omega
   have hnx:∀ty,(Instr.next (.pointer (some ⟨W.heap.size,0,none⟩)) true ty).run prog wr=.ok (.tuple #[.bool true,.int .i64 pos,.int .i32 c]) (wr.iterAt W.heap.size s p'):=fun ty=>by rw[Lib.run_next_any_at wr W.heap.size s pos ty hit hp,hdec,hp']
   have hbg:∀m,CallsIn Fence.wide m prog 257 #[.string (s.extract pos s.size),.int .i32 c] (wr.iterAt W.heap.size s p') fun e w'=>e=.returned (.bool true)/\wr.iterAt W.heap.size s p'=w':=
    fun m=>callsIn_wide.2 (q62j (s.extract pos s.size) c (wr.iterAt W.heap.size s p') (by rw[hext];exact qwug hoc _))
   have hbc:(wr.iterAt W.heap.size s p').cell? ⟨Bs,0,none⟩=some (.string s):=by simp[World.cell?,hbx2]
   have hmem:(pos,c)∈marks 0 (pts s.data.toList):=by rw[e1,<-hpos];exact qib3 cs c rest
   have hy0:=hY pre ⟨(pos,c),hmem⟩ (wr.iterAt W.heap.size s p') (hJ2 p') (by rw[hlen,e1];simp);obtain⟨fn,tmps,assign,body,hy,hR⟩:=hy0;dsimp only[encM] at hy;have hbg:=hid hbg;have hnext:=hid (show pts s.data.toList=(cs++[c])++rest/\(pre++[(⟨(pos,c),hmem⟩:Mk s.data.toList)]).map (·.1)=marks 0 (cs++[c])/\(cbs (cs++[c])).length=p' from
    ⟨by rw[e1,List.append_assoc];rfl,by rw[List.map_append,e2,qwxc,hpos];rfl,by rw[q6ts,List.length_append,hpos,hp']⟩)
   have hkeep:=hid (show pos<p'/\p'<=s.size/\(wr.iterAt W.heap.size s p').heap[Bs]?=some (.cells #[.string s] 9 (0,0))/\(wr.iterAt W.heap.size s p').heap[W.heap.size]?=some (.stringIter s p')/\wr.iterPos W.heap.size=pos from
    ⟨by have:=qp6t c;omega,by have h1:=congrArg List.length hdr;rw[List.length_drop,List.length_append] at h1;omega,hbx2 p',hit2 p',by simp only[World.iterPos,hit]⟩)
   clear hext hdec hp' hl hdr hr hY hJ2 hbx2 hit2 hit hbx hsz hpos hlen hoks e1 e2 hBs
   gi_wp2_with fail
   refine⟨trivial,(hbg.out _).mono ?_⟩;rintro e w' ⟨rfl,rfl⟩
   gi_wp2_with fail
   refine hR.mono ?_;rintro e W3 (⟨rfl,hJ3,hk3⟩|⟨rfl,hJx3⟩)
   ·gi_wp2_with fail
    obtain⟨k1,k2,k3,k4,k5⟩:=hkeep.out;obtain⟨n1,n2,n3⟩:=hnext.out;have k6:W3.heap[W.heap.size]?=some (.stringIter s p'):=hk3.2.same _ _ k4 rfl
    go_roundw
    case rel=>exact⟨_,cs++[c],rest,n1,n2,by rw[n3];exact k6,hk3.1 _ k3,hJ3⟩
    case measure=>rw[k5];simp only[World.iterPos,k6];omega
   ·gi_wp2_with fail
    refine bodyPost_ret (results_none rfl _ _ _) rfl ?_;exact⟨⟨_,rfl⟩,.inr ⟨_,trivial,hJx3⟩⟩
theorem qfha(n:Nat)(hn:1<=n)(Bs:Nat)(s:ByteArray)(hs:s.size<=9223372036854775807)(w:World)(hBs:w.heap[Bs]?=some (.cells #[.string s] 9 (0,0))) :
 SeqStopsK Fence.wide n prog 256 #[.pointer (some ⟨Bs,0,none⟩)] (encM (l:=s.data.toList)) (KpR Bs) (fun ys=>ys.map (·.1)=marks 0 (pts s.data.toList)) (fun _=>True) (pts s.data.toList).length w:=
 fun l J Jx W hW hJ _ hY h0=>qllk n hn l Bs s hs W J Jx hJ hY ((hW.block Bs (Array.getElem?_eq_some_iff.1 hBs).1).trans hBs) h0
theorem q9zu(s:ByteArray)(w:World) :
 Calls prog 232 #[.string s] w fun e w'=>e=.returned (.func (.func 256) #[] #[.pointer (some ⟨w.heap.size,0,none⟩)])/\w'=w.alloc (.cells #[.string s] 9):=by
 go_in;go_wp2;go_ret;exact⟨rfl,rfl⟩
attribute [local go_sem] Oper.semAt_some
theorem qcg7(cs:List Nat):∀(q:Nat) (p:Nat×Nat),p∈marks q cs->p.2∈cs/\p.1+(cb p.2).length<=q+(cbs cs).length:=by
 induction cs with
 |nil=>intro q p h;simp[marks] at h
 |cons c cs ih=>
  intro q p h;rw[marks,List.mem_cons] at h;rw[q7su,List.length_append];rcases h with rfl|h
  ·exact⟨List.mem_cons_self ..,by simp⟩
  ·obtain⟨h1,h2⟩:=ih _ _ h;exact⟨List.mem_cons_of_mem _ h1,by omega⟩
theorem qgag{l:List UInt8}(x:Mk l):okc x.1.2/\x.1.1+(cb x.1.2).length<=l.length:=by obtain⟨h1,h2⟩:=qcg7 _ _ _ x.2;exact⟨qiv7 l _ h1,by have:=q1um l;unfold fin at this;omega⟩
def endL(ps:List (Nat×Nat)):Nat:=ps.foldl (fun _ p=>p.1+(cb p.2).length) 0
theorem qd6g(ps:List (Nat×Nat))(p:Nat×Nat):endL (ps++[p])=p.1+(cb p.2).length:=by simp[endL]
theorem qova(cs:List Nat):endL (marks 0 cs)=(cbs cs).length:=by
 rcases List.eq_nil_or_concat cs with rfl|⟨a,c,rfl⟩
 ·rfl
 ·rw[List.concat_eq_append,qwxc,qd6g,q6ts,List.length_append]
theorem qykm(s:ByteArray)(w:World)(hs:s.size<=9223372036854775807) :
 Calls prog 188 #[.string s] w fun e w'=>e=.returned (.int .i64 (qpht s.data.toList))/\Below w.heap.size w w':=by
 refine(callsIn_wide (n:=5)).1 ?_;refine callsIn_of_wp_marks func188 rfl trivial ?_ rfl;simp only[ntmps188,List.size_toArray,List.length_cons,List.length_nil,Nat.reduceAdd,Nat.reduceSub,Array.replicate_succ,Array.replicate_zero,List.push_toArray,List.append_toArray,List.nil_append,List.cons_append]
 gi_wp2_with (refine⟨trivial,?_⟩;gi_at_call 232;refine(callsIn_wide.2 (q9zu s _)).mono ?_;rintro e w' ⟨rfl,rfl⟩)
 have bS:=Boxed.new w 3 (.int .i64 0);have bN:=Boxed.new (w.alloc (.cells #[.int .i64 0] 3)) 9 (.string s);rw[World.size_alloc] at bN;have hB0:Below w.heap.size w ((w.alloc (.cells #[.int .i64 0] 3)).alloc (.cells #[.string s] 9)):=((Below.refl _ w).alloc (Nat.le_refl _) _).alloc (by simp) _;refine wpIn_rangeFunc_ownG rfl (by omega) (gf:=256) (lb:=#[.pointer (some ⟨w.heap.size+1,0,none⟩)]) rfl trivial (enters_of func256 (by kernel_rfl) rfl)
  (qfha _ (by omega) (w.heap.size+1) s hs _ bN) qdke (q0v9 (by simp)) (Below.refl _ _) (fun _=>rfl)
  (fun pre W=>(W.cell? ⟨w.heap.size,0,none⟩=some (.int .i64 ((endL (pre.map (·.1)):Nat):Int))/\W.frozen? ⟨w.heap.size,0,none⟩=false)/\Below w.heap.size w W)
  (fun _ _ _=>False)
  (OwnFrom.and (Own.from (fun s A B row hs hg hr=>⟨cell_kept hs.1 hg hr,(frozen_kept hs.1 hg hr).trans hs.2⟩) _) (ownFrom_below (Nat.le_refl _) (by simp;omega)))
  (fun _ _ _ _ _ hs _ _=>hs)
  ⟨⟨(bS.alloc _).cell,(bS.alloc _).frozen⟩,hB0⟩
  (fun x=>{tmps:=#[.string s,undef,.int .i64 0,.pointer (some ⟨w.heap.size,0,none⟩),.int .i64 (x.1.1:Int),.int .i32 (x.1.2:Int),.string s,.func (.func 256) #[] #[.pointer (some ⟨w.heap.size+1,0,none⟩)],.int .i64 (x.1.1:Int),.int .i32 (x.1.2:Int),undef,undef,undef,undef,undef,undef,undef,undef,undef],defers:=[]}) ?assign ?body ?done ?stop
 case assign=>
  intro l x W K hK;dsimp only[encM]
  gi_wp2
  exact hK
 case body=>
  rintro l pre x W ⟨⟨hc,hf⟩,hB⟩ _;obtain⟨ho,hle⟩:=qgag x;have hend:endL ((pre++[x]).map (·.1))=x.1.1+(cb x.1.2).length:=by rw[List.map_append];exact qd6g _ _
  have hrl:=q6d9 x.1.2 W ho;obtain⟨a,ha⟩:∃a,x.1.1=a:=⟨_,rfl⟩
  obtain⟨c,hcc⟩:∃c,x.1.2=c:=⟨_,rfl⟩
  obtain⟨k,hk⟩:∃k,(cb x.1.2).length=k:=⟨_,rfl⟩
  rw[hk] at hrl hend hle;rw[ha] at hend hle ⊢;rw[hcc] at hrl ⊢;rw[<-q4ad] at hle;have hend:=hid hend;have hrl:=hid hrl;have hsum:IntKind.i64.wrap ((a:Int)+(k:Int))=((a+k:Nat):Int):=by simp only[IntKind.wrap_i64];omega
  clear ha hcc hk ho
  gi_wp2_with (refine⟨trivial,?_⟩;gi_at_call 233;refine(CallsIn.inRound l (callsIn_wide.2 hrl.out)).mono ?_;rintro e w' ⟨rfl,rfl⟩)
  exact⟨(KeepsOthers.setCell _ _ _).from _,qx40 W _ 0 _ (by omega),⟨by rw[hend.out,Int.natCast_add];exact World.cell?_setCell_same' _ _ _ (by rw[hc];rfl),by rw[World.frozen?_setCell];exact hf⟩,hB.setCell (p:=⟨w.heap.size,0,none⟩) (Nat.le_refl _) _⟩
 case done=>
  rintro D ys W hD hys ⟨⟨hc,_⟩,hB⟩ hK;rw[hys,qova] at hc;have hfin:qpht s.data.toList=if ((cbs (pts s.data.toList)).length:Int)<(s.size:Int) then((cbs (pts s.data.toList)).length:Int) else -1:=by unfold qpht fin;rw[q4ad];split<;>split<;>first|rfl|omega
  obtain⟨q,hq⟩:∃q,(cbs (pts s.data.toList)).length=q:=⟨_,rfl⟩
  rw[hq] at hc hfin;by_cases hlt:(q:Int)<(s.size:Int)
  ·rw[if_pos hlt] at hfin;have hfin2:=hid hfin;clear hfin hq hys bS bN hB0
   gi_wp2
   refine⟨by simp,.inl ⟨_,_,rfl,run_takeDeferred hK,?_⟩⟩;exact⟨_,results_tmp rfl _ _ _,by rw[hfin2.out];rfl,hB.trans (belowK_b (w:=w) (Nat.le_refl _) W D _ _ (by simp at hD;omega) hK rfl rfl)⟩
  ·rw[if_neg hlt] at hfin;have hfin2:=hid hfin;clear hfin hq hys bS bN hB0
   gi_wp2
   refine⟨by simp,.inl ⟨_,_,rfl,run_takeDeferred hK,?_⟩⟩;exact⟨_,results_tmp rfl _ _ _,by rw[hfin2.out];rfl,hB.trans (belowK_b (w:=w) (Nat.le_refl _) W D _ _ (by simp at hD;omega) hK rfl rfl)⟩
 case stop=>rintro D c pre W _ _ h _;exact h.elim
theorem qkls(s:ByteArray)(w:World)(hs:s.size<=9223372036854775807) :
 Calls prog 149 #[.string s] w fun e w'=>e=.returned (.bool (qecx s.data.toList))/\Below w.heap.size w w':=by
 have hb:=hid (qykm s w hs);by_cases h1:s.size<=65535
 ·have hv:qecx s.data.toList=decide (qpht s.data.toList<0):=by unfold qecx;rw[<-q4ad];simp[h1]
  obtain⟨z,hz⟩:∃z,qpht s.data.toList=z:=⟨_,rfl⟩
  rw[hz] at hv hb;have hv:=hid hv;go_in;go_wp2_with fail;refine(hb.out).mono ?_;rintro e w' ⟨rfl,hb'⟩;go_wp2;go_ret;exact⟨by rw[hv.out];rfl,hb'⟩
 ·have hv:qecx s.data.toList=false:=by unfold qecx;rw[<-q4ad];simp;omega
  have h2:65535<s.size:=by omega
  clear h1;rw[hv];go_in;go_wp2;go_ret;exact⟨rfl,Below.refl _ _⟩
theorem q9xc(s:ByteArray)(w:World)(hv:qecx s.data.toList=true) :
 Calls prog 118 #[.string s] w fun e w'=>e=.returned (.tuple #[.string (bs (enc2 s.data.toList)),.int .i64 0])/\Below w.heap.size w w':=by
 have hle:=((qbv6 _).1 hv).1;rw[<-q4ad] at hle;have hvl:=qkls s w (by omega);rw[hv] at hvl;have hvl:=hid hvl;have hbn:=hid (show ∀W,Calls prog 153 #[.string s] W fun e w'=>e=.returned (.tuple #[.string (bs (enc2 s.data.toList)),.int .i64 0])/\Below W.heap.size W w' from fun W=>qbrl s W hle);go_in;go_wp2_with fail;refine(hvl.out).mono ?_;rintro e w1 ⟨rfl,hb⟩;go_wp2_with fail;refine(hbn.out _).mono ?_;rintro e w2 ⟨rfl,hb2⟩;go_wp2
 go_ret2
 exact⟨rfl,hb.trans (hb2.mono hb.size)⟩
end Go.Proofs.YtefmhbioggcfaaaGreatDoor
