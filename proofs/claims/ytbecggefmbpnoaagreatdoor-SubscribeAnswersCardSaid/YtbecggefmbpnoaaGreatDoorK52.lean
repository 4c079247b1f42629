/- The walk of SubscribeAnswers. Condition: the topics are no more than memory holds. -/
import Derived.Deep.DeepCutAuto
import Derived.Deep.LoopGhost
import Derived.Deep.AppendLies
import Derived.OwnWalk
import Derived.WalkSmall
import Derived.Test.YtbecggefmbpnoaaGreatDoorK51
import Derived.Test.YtbecggefmbpnoaaGreatDoorK46
import Derived.Test.YtbecggefmbpnoaaGreatDoorK38
import Derived.Test.YtbecggefmbpnoaaGreatDoorK22
set_option maxHeartbeats 8000000
set_option maxRecDepth 100000
namespace Go.Proofs.YtbecggefmbpnoaaGreatDoor
open Go.RowKit
theorem q7l4(v:Int)(i:Nat)(A Ac:Option Addr)(n c m d:Nat)(w:World)(h:20 < n∨20 < m∨i=0∨i=65535) :
 Calls Tryz.prog 7 #[.int .i64 v,.int .u16 (i:Nat),.slice A n c,.slice Ac m d] w fun e w'=>e = .returned (.bool true)∧Below w.heap.size w w':=by
 have e1:decide ((20:Int) < (n:Int))=decide (20 < n):=by rw[decide_eq_decide];omega
 have e2:decide ((20:Int) < (m:Int))=decide (20 < m):=by rw[decide_eq_decide];omega
 have e3:(((i:Nat):Int)==0)=decide (i=0):=by rw[Bool.eq_iff_iff];simp
 have e4:(((i:Nat):Int)==65535)=decide (i=65535):=by rw[Bool.eq_iff_iff];simp;omega
 have hh:decide (20 < n)=true∨(decide (20 < n)=false∧decide (20 < m)=true)∨(decide (20 < n)=false∧decide (20 < m)=false∧decide (i=0)=true)∨(decide (20 < n)=false∧decide (20 < m)=false∧decide (i=0)=false∧decide (i=65535)=true):=by
  simp only[decide_eq_true_eq,decide_eq_false_iff_not];omega
 generalize decide (20 < n)=b1 at *
 generalize decide (20 < m)=b2 at *
 generalize decide (i=0)=b3 at *
 generalize decide (i=65535)=b4 at *
 clear h
 rcases hh with rfl | ⟨rfl,rfl⟩ | ⟨rfl,rfl,rfl⟩ | ⟨rfl,rfl,rfl,rfl⟩
 all_goals
  go_enter Tryz.func7,Tryz.ntmps7
  go_wp2_with fail
  refine(qv1l _).mono ?_
  rintro e W ⟨rfl,hb⟩
  have LO:=Lib.hid hb
  clear hb
  go_wp2_with fail
  go_ret
  exact⟨rfl,LO.out⟩
structure AskL(w:World)(B:Nat)(i:Int)(l:List Fi)(val:Value)(W:World):Prop where
 low:Below w.heap.size w W
 hB:w.heap.size≤B
 bx:∃A c,val = .slice A l.length c∧W.heap[B]? = some (.cells (pkC (askS i l) (adF A c)) 29 (0,0))
 own:W.ownsRow (B+1) 32 5 val l.length (fcs l)
theorem AskL.call{w W W':World}{B:Nat}{i:Int}{l:List Fi}{val:Value}(h:AskL w B i l val W)(hb:Below W.heap.size W W'):AskL w B i l val W':=by
 obtain⟨A,c,e,hp⟩:=h.bx
 exact⟨qxh2 h.low hb,h.hB,⟨A,c,e,(hb.block _ (lt_of_block hp)).trans hp⟩,qzd3 h.own hb⟩
theorem AskL.draw{w W:World}{B:Nat}{i:Int}{l:List Fi}{val:Value}(h:AskL w B i l val W):AskL w B i l val W.drew:=by
 obtain⟨A,c,e,hp⟩:=h.bx
 exact⟨h.low.drew,h.hB,⟨A,c,e,hp⟩,h.own.drew⟩
theorem AskL.cell{w W:World}{B:Nat}{i:Int}{l:List Fi}{val:Value}(h:AskL w B i l val W):W.cell? ⟨B,23,none⟩=some val:=by
 obtain⟨A,c,rfl,hp⟩:=h.bx
 exact cell_of_row _ _ 23 _ _ _ hp
theorem qqkq(l:List Fi)(t:List UInt8):fcs l++[.string (bs t),.int .i64 0,.bool false,.bool false,.int .i64 0]=fcs (l++[askF t]):=by
 unfold fcs;rw[List.flatMap_append];rfl
theorem AskL.more{w W V W':World}{B:Nat}{i:Int}{l:List Fi}{val:Value}(h:AskL w B i l val W)(hb:Below W.heap.size W V){t:List UInt8}{g cap:Nat}(hown:W'.ownsRow (B+1) 32 5 (.slice (some ⟨g,0,none⟩) (l.length+1) cap) (l.length+1) (fcs l++[.string (bs t),.int .i64 0,.bool false,.bool false,.int .i64 0]))(hg:V.grownBy W' val.ownBlock) :
 AskL w B i (l++[askF t]) (.slice (some ⟨g,0,none⟩) (l.length+1) cap) (W'.setCell ⟨B,23,none⟩ (.slice (some ⟨g,0,none⟩) (l.length+1) cap)):=by
 have h2:=h.call hb
 obtain⟨A,c,e,hp⟩:=h2.bx
 have ho:∀j,val.ownBlock=some j→B+1≤j:=fun j e=>(h.own.lt j e).1
 have hB:=lt_of_block hp
 have hp':=(hg.block B hB (fun e=>by have:=ho B e.symm;omega)).trans hp
 rw[qqkq] at hown
 have hl:(l++[askF t]).length=l.length+1:=by simp
 refine⟨?_,h.hB,⟨some ⟨g,0,none⟩,cap,by rw[hl],?_⟩,?_⟩
 ·have h1:Below w.heap.size w W':=by
   have hh:=h.hB
   exact⟨hg.os.trans h2.low.os,hg.tape.trans h2.low.tape,hg.output.trans h2.low.output,Nat.le_trans h2.low.size hg.size,fun j hj=>(hg.block j (Nat.lt_of_lt_of_le hj h2.low.size) (fun e=>by have:=ho j e.symm;omega)).trans (h2.low.block j hj)⟩
  exact h1.setCell (p:=⟨B,23,none⟩) h.hB _
 ·have:=qlvy hp' 23 (.slice (some ⟨g,0,none⟩) (l.length+1) cap)
  rw[this]
  unfold askS
  rw[←hl];rfl
 ·rw[hl]
  exact hown.kept (q99v _ B 23 _) (.inr fun e=>by have:=(hown.lt _ e).1;omega)
theorem AskL.far{w W V W':World}{B:Nat}{i:Int}{l:List Fi}{val:Value}(h:AskL w B i l val W)(hb:Below W.heap.size W V)(hg:V.grownBy W' val.ownBlock):W'.cell? ⟨B,23,none⟩=some val∧W'.frozen? ⟨B,23,none⟩=false:=by
 have h2:=h.call hb
 obtain⟨A,c,e,hp⟩:=h2.bx
 have ho:∀j,val.ownBlock=some j→B+1≤j:=fun j e=>(h.own.lt j e).1
 have hne:some B≠val.ownBlock:=fun e=>by have:=ho B e.symm;omega
 exact⟨(World.grownBy.cell_far hg ⟨B,23,none⟩ (lt_of_block hp) hne).trans h2.cell,frozen_of_row _ _ _ _ _ ((hg.block B (lt_of_block hp) hne).trans hp)⟩
theorem AskL.ends{w W:World}{B:Nat}{i:Int}{l:List Fi}{val:Value}(h:AskL w B i l val W):∃A c,W.heap[B]? = some (.cells (pkC (askS i l) (adF A c)) 29 (0,0))∧CL W A (fcs l):=by
 obtain⟨A,c,e,hp⟩:=h.bx
 obtain⟨A',c',e',_,hc,_⟩:=CL.owned h.own h.own.1
 rw[e] at e'
 cases e'
 exact⟨A,c,hp,hc⟩
theorem qyio{k:Nat}(h:k < 1000):Value.int .i64 (wrap64 ((k:Int)+1)) = .int .i64 ((k+1:Nat):Int):=
 congrArg _ (by unfold wrap64;omega)
theorem q3my{W V W':World}{o:Obj}{v:Value}(hb:Below W.heap.size W V)(ho:∀j,v.ownBlock=some j→W.heap.size≤j)(hg:(V.alloc o).grownBy W' v.ownBlock):Below W.heap.size W W':=by
 have h2:=qxh2 hb (qybm (w:=V) o)
 exact⟨hg.os.trans h2.os,hg.tape.trans h2.tape,hg.output.trans h2.output,Nat.le_trans h2.size hg.size,fun j hj=>(hg.block j (Nat.lt_of_lt_of_le hj h2.size) (fun e=>by have:=ho j e.symm;omega)).trans (h2.block j hj)⟩
structure AnS(w:World)(B1 B2:Nat)(p q:Pk)(a b:Ad)(W:World):Prop where
 low:Below w.heap.size w W
 h1:w.heap.size≤B1
 h2:w.heap.size≤B2
 one:W.heap[B1]? = some (.cells (pkC p a) 29 (0,0))
 two:W.heap[B2]? = some (.cells (pkC q b) 29 (0,0))
 pat:PkAt W p a
 qat:PkAt W q b
theorem AnS.call{w W W':World}{B1 B2:Nat}{p q:Pk}{a b:Ad}(h:AnS w B1 B2 p q a b W)(hb:Below W.heap.size W W'):AnS w B1 B2 p q a b W':=
 ⟨qxh2 h.low hb,h.h1,h.h2,(hb.block _ (lt_of_block h.one)).trans h.one,(hb.block _ (lt_of_block h.two)).trans h.two,h.pat.below hb,h.qat.below hb⟩
structure EnS(w:World)(B1 B2 B3 B4:Nat)(p q q' p':Pk)(a b a':Ad)(W:World):Prop where
 an:AnS w B1 B2 p q a b W
 three:W.heap[B3]? = some (.cells (pkC q' b) 29 (0,0))
 four:W.heap[B4]? = some (.cells (pkC p' a') 29 (0,0))
 qat:PkAt W q' b
 pat:PkAt W p' a'
theorem EnS.call{w W W':World}{B1 B2 B3 B4:Nat}{p q q' p':Pk}{a b a':Ad}(h:EnS w B1 B2 B3 B4 p q q' p' a b a' W)(hb:Below W.heap.size W W'):EnS w B1 B2 B3 B4 p q q' p' a b a' W':=
 ⟨h.an.call hb,(hb.block _ (lt_of_block h.three)).trans h.three,(hb.block _ (lt_of_block h.four)).trans h.four,h.qat.below hb,h.pat.below hb⟩
theorem q2bq{i:Int}{l m:List Fi}{A A':Option Addr}{c c' n:Nat}(h:m.length=n):(pkC (askS i l) (adF A c)).setIfInBounds 23 (.slice A' n c')=pkC (askS i m) (adF A' c'):=by
 subst h;rfl
theorem qsvz{i j:Int}{l:List Int}{A:Option Addr}{c:Nat}:(pkC (ansS i l) (adC A c)).setIfInBounds 4 (.int .i64 j)=pkC (ansS j l) (adC A c):=rfl
theorem qcxw(v:Int)(i:Nat)(A Ac:Option Addr)(c d:Nat)(T:List (List UInt8))(C:List Int)(w:World)(hT:SR w A T)(hC:CL w Ac (ics C))
 (hn:T.length≤20) (hm:C.length≤20) (h3:0 < i) (h4:i < 65535) :
 Calls Tryz.prog 7 #[.int .i64 v,.int .u16 (i:Nat),.slice A T.length c,.slice Ac C.length d] w fun e w'=>e = .returned (.bool true)∧Below w.heap.size w w':=by
 have e1:decide ((20:Int) < (T.length:Int))=false:=decide_eq_false (by omega)
 have e2:decide ((20:Int) < (C.length:Int))=false:=decide_eq_false (by omega)
 have e3:(((i:Nat):Int)==0)=false:=by simp;omega
 have e4:(((i:Nat):Int)==65535)=false:=by simp;omega
 have hw:IntKind.i64.wrap (i:Int)=i:=by rw[IntKind.wrap_i64];omega
 obtain⟨u,hu,KV⟩:=qw59 v
 have KV:=Lib.hid KV
 have HU:=Lib.hid hu
 have HT:=Lib.hid hT
 have HC:=Lib.hid hC
 have HN:=Lib.hid hn
 have HM:=Lib.hid hm
 have HI:=Lib.hid (And.intro h3 h4)
 have hzv:=qrai
 have hne:¬pkZ=#[]:=by intro h;have:=qbwp;rw[h] at this;cases this
 have HZ:=Lib.hid qbwp
 have H1:=Lib.hid (qwmp (askS i []) (adF none 0))
 have H2:=Lib.hid (qmz0 (askS i []) (adF none 0))
 obtain⟨i0,hi,hz0,hz1,hz2⟩:=info_parts q4j3
 have HIF:=Lib.hid (And.intro hi (And.intro hz0 (And.intro hz1 hz2)))
 clear hu hT hC hn hm h3 h4 hi hz0 hz1 hz2
 go_enter Tryz.func7,Tryz.ntmps7
 go_wp2_with fail
 refine(qv1l _).mono ?_
 rintro e W ⟨rfl,hb⟩
 have L1:=Lib.hid hb
 clear hb
 go_wp2_with fail
 refine(KV.out _).mono ?_
 rintro e W2 ⟨rfl,rfl⟩
 clear e1 e2 e3 e4
 have A1:=Lib.hid (show AskL w W.heap.size i [] (.slice none 0 0) ((W.alloc (.cells pkZ 29)).setRow W.heap.size (pkC (askS i []) (adF none 0))) from
  ⟨qxh2 L1.out (q8xz (qybm _) (Nat.le_refl _) _),L1.out.size,⟨none,0,rfl,setRow_heap _ _ _ _ _ _ (heap_alloc_new W _)⟩,World.ownsRow_nil _ _ _ _⟩)
 go_wp2_with (first
  | (refine wpList_buildTo rfl 29 _ rfl (some _) rfl (pkC (askS i []) (adF none 0)) (by kernel_rfl) ?_)
  | (refine wpList_store_row rfl _ _ _ rfl W.heap.size (pkC (askS i []) (adF none 0)) rfl rfl 29 _ (heap_alloc_new W _) (by rw[H1.out];exact q5nr) (by rw[HZ.out,H1.out]) H2.out ?_))
 generalize (W.alloc (.cells pkZ 29)).setRow W.heap.size (pkC (askS i []) (adF none 0))=W1 at *
 have hBw:=Lib.hid L1.out.size
 generalize W.heap.size=B at *
 clear H1 H2 L1
 go_loopg [11] T.length (fun gk s11 wx=>∃k:Nat,k≤T.length∧gk=T.length - k∧s11 = .int .i64 (k:Nat)∧∃val,AskL w B i ((T.take k).map askF) val wx∧∀t∈T.take k,qw8n t=true)
 case atStart=>exact⟨0,Nat.zero_le _,by omega,rfl,_,A1.out,fun t ht=>by simp at ht⟩
 case round=>
  obtain⟨k,hk,rfl,rfl,val,hS,hF⟩:=hrel
  have SK:=Lib.hid hS
  have FK:=Lib.hid hF
  clear hS hF A1
  by_cases hkn:k < T.length
  ·have hTk:=HT.out.kept SK.out.low
   obtain⟨g,j0,rfl,hlt,hcl⟩:=hTk (by intro h;rw[h] at hkn;simp at hkn)
   have kT:=hcl k hkn
   obtain⟨t,htk⟩:∃t,T.getD k []=t:=⟨_,rfl⟩
   rw[htk] at kT
   have htake:T.take (k+1)=T.take k++[t]:=qki5 (by rw[←htk];simp[List.getD,hkn])
   have hlen:((T.take k).map askF).length=k:=by simp;omega
   have HTK:=Lib.hid (And.intro htake (And.intro hlen (And.intro hkn hlt)))
   clear htake hlen htk hTk hcl hlt
   by_cases h100:100 < t.length
   ·have hd:decide ((100:Int) < ((bs t).size:Int))=true:=decide_eq_true (by rw[q5zk];omega)
    have LO:=Lib.hid SK.out.low
    clear h100
    go_wp2_with fail
    go_ret
    exact⟨rfl,LO.out⟩
   ·have hd:decide ((100:Int) < ((bs t).size:Int))=false:=decide_eq_false (by rw[q5zk];omega)
    have FI:=fun W=>q2e6 (bs t) W (by rw[q5zk];omega)
    rw[qkd1] at FI
    cases hl:qw8n t with
    | false=>
     rw[hl] at FI
     have FI:=Lib.hid FI
     clear h100 hl
     go_wp2_with fail
     refine(FI.out _).mono ?_
     rintro e W3 ⟨rfl,hb⟩
     have LO:=Lib.hid (SK.out.call hb).low
     clear hb
     go_wp2_with fail
     go_ret
     exact⟨rfl,LO.out⟩
    | true=>
     rw[hl] at FI
     have FI:=Lib.hid FI
     have HL:=Lib.hid hl
     clear h100 hl
     go_wp2_with fail
     refine(FI.out _).mono ?_
     rintro e W3 ⟨rfl,hb⟩
     have S3:=Lib.hid (SK.out.call hb)
     have k3:W3.cell? ⟨g,j0+k,none⟩=some (.string (bs t)):=(hb.cell (p:=⟨g,j0+k,none⟩) HTK.out.2.2.2).trans kT
     have k23:W3.cell? ⟨B,23,none⟩=some val:=S3.out.cell
     obtain⟨l,hLl⟩:∃l,(T.take k).map askF=l:=⟨_,rfl⟩
     rw[hLl] at S3
     have HLL:=Lib.hid hLl
     have hO:=S3.out.own
     have hBB:B+1≤W3.heap.size:=by obtain⟨_,_,_,hp⟩:=S3.out.bx;have:=lt_of_block hp;omega
     have h63:l.length+1≤maxLen:=by rw[←hLl];have:=HTK.out.2.1;have:=HN.out;unfold maxLen;omega
     have hby:(l.length+1)*40≤140737488355328:=by rw[←hLl];have:=HTK.out.2.1;have:=HN.out;omega
     have hone:∀u∈[Value.string (bs t),.int .i64 0,.bool false,.bool false,.int .i64 0],u.oneCell'=true:=by simp[Value.oneCell']
     have hOA:((W3.alloc (.cells #[.string (bs t),.int .i64 0,.bool false,.bool false,.int .i64 0] 32)).drew).ownsRow (B+1) 32 5 val l.length (fcs l):=(hO.alloc _).drew
     have hNW:∀(j:Nat) (u:Value),([.string (bs t),.int .i64 0,.bool false,.bool false,.int .i64 0]:List Value)[j]? = some u→((W3.alloc (.cells #[.string (bs t),.int .i64 0,.bool false,.bool false,.int .i64 0] 32)).drew).cell? ((⟨W3.heap.size,0,none⟩:Addr).add j)=some u:=World.news_of_block (cs:=#[.string (bs t),.int .i64 0,.bool false,.bool false,.int .i64 0]) (heap_alloc_new W3 _)
     have hBS:B+1≤((W3.alloc (.cells #[.string (bs t),.int .i64 0,.bool false,.bool false,.int .i64 0] 32)).drew).heap.size:=by
      have:((W3.alloc (.cells #[.string (bs t),.int .i64 0,.bool false,.bool false,.int .i64 0] 32)).drew).heap.size=W3.heap.size+1:=World.size_alloc _ _
      omega
     have k23a:(W3.alloc (.cells #[.string (bs t),.int .i64 0,.bool false,.bool false,.int .i64 0] 32)).cell? ⟨B,23,none⟩=some val:=(S3.out.call (qybm _)).cell
     clear hb kT hLl SK hO hBB
     go_upto_region 12 with fail
     go_region_law (first | (refine step_append_lies _ (by rfl) _ _ 27 (by rfl) (B+1) 32 i0 (.agg #[.string .empty,.int .i64 0,.bool false,.bool false,.int .i64 0]) 5 40 Tryz.underlying27 HIF.out.1 HIF.out.2.1 HIF.out.2.2.1 HIF.out.2.2.2 rfl (by decide) val l.length (fcs l) (by rfl) hOA ⟨W3.heap.size,0,none⟩ 1 1 [.string (bs t),.int .i64 0,.bool false,.bool false,.int .i64 0] (by rfl) rfl hNW hone (by decide) h63 hby hBS _ rfl ?_;intro gg cap w5 hown1 hgrow hat hlt5;have ⟨k5,f5⟩:=S3.out.far (qybm _).drew hgrow))
     all_goals
      have S5:=Lib.hid (S3.out.more (qybm _).drew hown1 hgrow)
      clear hown1 hgrow hOA hNW hBS hat hlt5 k5 f5 k23 k23a k3 h63 hby hone
      go_wp2_with fail
      go_roundg (T.length - (k+1))
      case measure=>omega
      case rel=>
       refine⟨k+1,hkn,rfl,qyio (k:=k) (by have:=HN.out;omega),.slice (some ⟨gg,0,none⟩) (l.length+1) cap,?_,fun x hx=>?_⟩
       ·rw[HTK.out.1,List.map_append,HLL.out];exact S5.out
       ·rw[HTK.out.1] at hx
        rcases List.mem_append.1 hx with h | h
        ·exact FK.out x h
        ·rw[List.mem_singleton.1 h];exact HL.out
  ·obtain rfl:k=T.length:=by omega
   have hkk:((T.length:Nat):Int) < (T.length:Int)↔False:=by simp
   have htt:T.take T.length=T:=List.take_length
   rw[htt] at SK FK
   clear htt hk hkn hkk
   obtain⟨A1,c1,hp1,hc1⟩:=SK.out.ends
   have hl1:(T.map askF).length=T.length:=by simp
   obtain⟨l,hLl⟩:∃l,T.map askF=l:=⟨_,rfl⟩
   rw[hLl] at hp1 hc1 SK hl1
   have HLL:=Lib.hid (And.intro hLl hl1)
   have H3:=Lib.hid (qwmp (ansS i C) (adC Ac d))
   have H4:=Lib.hid (qmz0 (ansS i C) (adC Ac d))
   have hs1:=Lib.hid SK.out.low.size
   have PQ:PkAt wr (askS i l) (adF A1 c1)∧PkAt wr (ansS i C) (adC Ac d):=⟨q66c hc1,q4lq (CL.below HC.out SK.out.low)⟩
   have hbx:Below wr.heap.size wr ((wr.alloc (.cells pkZ 29)).setRow wr.heap.size (pkC (ansS i C) (adC Ac d))):=q8xz (qybm _) (Nat.le_refl _) _
   have N1:=Lib.hid (show AnS w B wr.heap.size (askS i l) (ansS i C) (adF A1 c1) (adC Ac d) ((wr.alloc (.cells pkZ 29)).setRow wr.heap.size (pkC (ansS i C) (adC Ac d))) from
    ⟨qxh2 SK.out.low hbx,hBw.out,hs1.out,(hbx.block _ (lt_of_block hp1)).trans hp1,setRow_heap _ _ _ _ _ _ (heap_alloc_new wr _),PQ.1.below hbx,PQ.2.below hbx⟩)
   clear PQ hbx hp1 hc1 hl1 SK hLl
   go_upto_region 14 with (first
    | (refine wpList_buildTo rfl 29 _ rfl (some _) rfl (pkC (ansS i C) (adC Ac d)) (by kernel_rfl) ?_)
    | (refine wpList_store_row rfl _ _ _ rfl wr.heap.size (pkC (ansS i C) (adC Ac d)) rfl rfl 29 _ (heap_alloc_new wr _) (by rw[H3.out];exact q5nr) (by rw[HZ.out,H3.out]) H4.out ?_))
   generalize (wr.alloc (.cells pkZ 29)).setRow wr.heap.size (pkC (ansS i C) (adC Ac d))=V0 at *
   generalize wr.heap.size=B2 at *
   clear hs1 H4 hzv hne
   dsimp only[Act.put]
   obtain⟨r0,hr0⟩:∃r,(decide (0 < T.length)&&decide (C.length=T.length))=r:=⟨_,rfl⟩
   have HR0:=Lib.hid hr0
   go_cut [13] (fun s13 wx=>s13 = .bool r0∧wx=V0)
   case first=>
    clear HR0
    generalize T.length=n at *
    generalize C.length=m at *
    by_cases hpos:0 < n
    ·have q0:decide ((0:Int) < (n:Int))=true:=decide_eq_true (by omega)
     rw[decide_eq_true hpos,Bool.true_and] at hr0
     by_cases hmn:m=n
     ·subst hmn
      rw[decide_eq_true rfl] at hr0
      subst hr0
      go_wp2_with fail
      go_meet
      exact⟨rfl,rfl⟩
     ·have q1:(((m:Nat):Int)==((n:Nat):Int))=false:=by simp;omega
      have q2:(m==n)=false:=by simpa using hmn
      rw[decide_eq_false hmn] at hr0
      subst hr0
      go_wp2_with fail
      go_meet
      exact⟨rfl,rfl⟩
    ·obtain rfl:n=0:=by omega
     have e:false=r0:=hr0
     subst e
     go_wp2_with fail
     go_meet
     exact⟨rfl,rfl⟩
   case rest=>
    obtain⟨rfl,rfl⟩:=hcut
    clear hr0
    have V0':=Lib.hid N1.out
    clear N1
    go_wp2_with fail
    go_loopg [13,14,15] C.length (fun gk s13 s14 s15 wx=>∃k:Nat,k≤C.length∧gk=C.length - k∧s14 = .int .i64 (k:Nat)∧s13 = .bool (r0&&(C.take k).all (q190 u 9))∧AnS w B B2 (askS i l) (ansS i C) (adF A1 c1) (adC Ac d) wx)
    case atStart=>exact⟨0,Nat.zero_le _,by omega,rfl,by simp,V0'.out⟩
    case round=>
     obtain⟨k,hk,rfl,rfl,rfl,hS⟩:=hrel
     have SK:=Lib.hid hS
     clear hS V0'
     by_cases hkn:k < C.length
     ·have hCk:=CL.below HC.out SK.out.low
      obtain⟨g,j0,rfl,hlt,hcl⟩:=hCk (by intro h;have:=congrArg List.length h;rw[ql3l] at this;simp at this;rw[this] at hkn;simp at hkn)
      obtain⟨z,hz⟩:∃z,C[k]? = some z:=⟨C[k],List.getElem?_eq_getElem hkn⟩
      have kC:=hcl k _ (q9jw C k z hz)
      have htake:C.take (k+1)=C.take k++[z]:=qki5 hz
      have hacc:(r0&&(C.take (k+1)).all (q190 u 9))=((r0&&(C.take k).all (q190 u 9))&&q190 u 9 z):=by
       rw[htake,List.all_append,List.all_cons,List.all_nil,Bool.and_true,Bool.and_assoc]
      have HA:=Lib.hid hacc
      have hltg:=Lib.hid hlt
      obtain⟨acc,hac⟩:∃b,(r0&&(C.take k).all (q190 u 9))=b:=⟨_,rfl⟩
      rw[hac] at HA ⊢
      clear hCk hcl hz htake hacc hac hlt
      have RM:=Lib.hid (fun W=>q6zo 9 z W)
      have RG:=Lib.hid (fun W=>qtix z W)
      have HCS:Hid (q190 u 9 z=if u=4 then qw69 z else mayR 9 z):=Lib.hid rfl
      go_wp2_with fail
      refine(RM.out _).mono ?_
      rintro e W3 ⟨rfl,hb⟩
      have S3:=Lib.hid (SK.out.call hb)
      have k3:W3.cell? ⟨g,j0+k,none⟩=some (.int .i64 z):=(hb.cell (p:=⟨g,j0+k,none⟩) hltg.out).trans kC
      clear hb kC SK
      obtain rfl | rfl:=HU.out
      ·go_wp2_with fail
       refine(RG.out _).mono ?_
       rintro e W4 ⟨rfl,rfl⟩
       have e4:q190 4 9 z=qw69 z:=rfl
       rw[e4] at HA
       generalize qw69 z=o at *
       cases acc
       all_goals
        go_wp2_with fail
        go_roundg (C.length - (k+1))
        case measure=>omega
        case rel=>exact⟨k+1,hkn,rfl,qyio (k:=k) (by have:=HM.out;omega),by rw[HA.out];rfl,S3.out⟩
      ·have e4:q190 5 9 z=mayR 9 z:=rfl
       rw[e4] at HA
       generalize mayR 9 z=o at *
       cases acc
       all_goals
        go_wp2_with fail
        go_roundg (C.length - (k+1))
        case measure=>omega
        case rel=>exact⟨k+1,hkn,rfl,qyio (k:=k) (by have:=HM.out;omega),by rw[HA.out];rfl,S3.out⟩
     ·obtain rfl:k=C.length:=by omega
      have htt:C.take C.length=C:=List.take_length
      rw[htt]
      have hi:(1:Int)≤(i:Int)∧(i:Int)≤65535:=by have:=HI.out;omega
      have RR:=qhf7 HU.out hi FK.out C
      have hr:qj85 u T C=(r0&&C.all (q190 u 9)):=by unfold qj85;rw[HR0.out]
      rw[HLL.out.1,hr] at RR
      have hmore:(r0&&C.all (q190 u 9))=true→C.length≠(l++[askF [120]]).length:=fun h=>by
       rw[Bool.and_eq_true] at h
       have h0:=HR0.out
       rw[h.1,Bool.and_eq_true,decide_eq_true_eq,decide_eq_true_eq] at h0
       rw[List.length_append,HLL.out.2]
       show _≠T.length+1
       omega
      have tl:∀f∈l,f.topic.length≤65535:=fun f hf=>by
       rw[←HLL.out.1] at hf
       obtain⟨t,ht,rfl⟩:=List.mem_map.1 hf
       exact qenz (FK.out t ht)
      have sp:q21o (askS i l):=⟨Nat.zero_le _,(by show l.length≤70000;have:=HN.out;rw[HLL.out.2];omega),Nat.zero_le _,Nat.zero_le _⟩
      have sp':q21o (askS i (l++[askF [120]])):=⟨Nat.zero_le _,(by show(l++[askF [120]]).length≤70000;have:=HN.out;rw[List.length_append,HLL.out.2];show T.length+1≤70000;omega),Nat.zero_le _,Nat.zero_le _⟩
      have sq:∀j,q21o (ansS j C):=fun j=>⟨(by show C.length≤70000;have:=HM.out;omega),Nat.zero_le _,Nat.zero_le _,Nat.zero_le _⟩
      have okp:PkOk (askS i l):=qdqr tl
      have okp':PkOk (askS i (l++[askF [120]])):=qdqr (fun f hf=>by
       rcases List.mem_append.1 hf with h | h
       ·exact tl f h
       ·rw[List.mem_singleton.1 h];decide)
      have AN1:=fun W (h:AnS w B B2 (askS i l) (ansS i C) (adF A1 c1) (adC Ac d) W)=>(qy40 u (askS i l) (ansS i C) (adF A1 c1) (adC Ac d) W h.pat h.qat sp (sq _) okp qbm8 (Nat.zero_le _) (Nat.zero_le _)).mono fun e W' hh=>(⟨hh.1,h.call hh.2⟩:_∧AnS w B B2 (askS i l) (ansS i C) (adF A1 c1) (adC Ac d) W')
      have AN2:=fun B3 B4 A' c' W (h:EnS w B B2 B3 B4 (askS i l) (ansS i C) (ansS ((i:Int)+1) C) (askS i (l++[askF [120]])) (adF A1 c1) (adC Ac d) (adF A' c') W)=>(qy40 u (askS i l) (ansS ((i:Int)+1) C) (adF A1 c1) (adC Ac d) W h.an.pat h.qat sp (sq _) okp qbm8 (Nat.zero_le _) (Nat.zero_le _)).mono fun e W' hh=>(⟨hh.1,h.call hh.2⟩:_∧EnS w B B2 B3 B4 (askS i l) (ansS i C) (ansS ((i:Int)+1) C) (askS i (l++[askF [120]])) (adF A1 c1) (adC Ac d) (adF A' c') W')
      have AN3:=fun B3 B4 A' c' W (h:EnS w B B2 B3 B4 (askS i l) (ansS i C) (ansS ((i:Int)+1) C) (askS i (l++[askF [120]])) (adF A1 c1) (adC Ac d) (adF A' c') W)=>(qy40 u (askS i (l++[askF [120]])) (ansS i C) (adF A' c') (adC Ac d) W h.pat h.an.qat sp' (sq _) okp' qbm8 (Nat.zero_le _) (Nat.zero_le _)).mono fun e W' hh=>(⟨hh.1,h.call hh.2⟩:_∧EnS w B B2 B3 B4 (askS i l) (ansS i C) (ansS ((i:Int)+1) C) (askS i (l++[askF [120]])) (adF A1 c1) (adC Ac d) (adF A' c') W')
      have AN4:=fun B3 B4 A' c' W (h:EnS w B B2 B3 B4 (askS i l) (ansS i C) (ansS ((i:Int)+1) C) (askS i (l++[askF [120]])) (adF A1 c1) (adC Ac d) (adF A' c') W)=>(qy40 u (ansS i C) (askS i l) (adC Ac d) (adF A1 c1) W h.an.qat h.an.pat (sq _) sp qbm8 okp (Nat.zero_le _) (Nat.zero_le _)).mono fun e W' hh=>(⟨hh.1,h.call hh.2⟩:_∧EnS w B B2 B3 B4 (askS i l) (ansS i C) (ansS ((i:Int)+1) C) (askS i (l++[askF [120]])) (adF A1 c1) (adC Ac d) (adF A' c') W')
      rw[RR] at AN1
      rw[qdfk (by omega)] at AN2
      rw[qa4t] at AN4
      generalize (r0&&C.all (q190 u 9))=R at *
      have AN1:=Lib.hid AN1
      have AN2:=Lib.hid AN2
      have AN4:=Lib.hid AN4
      have AN3:=Lib.hid (And.intro hmore AN3)
      have hw1:IntKind.i64.wrap ((i:Int)+1)=(i:Int)+1:=by rw[IntKind.wrap_i64];have:=HI.out;omega
      have Hp:=Lib.hid (qwmp (askS i l) (adF A1 c1))
      have Hp1:=Lib.hid (qmz0 (askS i l) (adF A1 c1))
      have Hq1:=Lib.hid (qmz0 (ansS i C) (adC Ac d))
      have hzv:=qrai
      have hne:¬pkZ=#[]:=by intro h;have:=qbwp;rw[h] at this;cases this
      clear RR hr hmore tl sp sp' sq okp okp' htt hk hkn hi
      go_wp2_with (first
       | (refine q2a5 rfl _ _ rfl B rfl 29 _ (0,0) _ SK.out.one Tryz.underlying29 rfl (by rw[Hp.out];exact q5nr) ?_)
       | (refine q2a5 rfl _ _ rfl B2 rfl 29 _ (0,0) _ SK.out.two Tryz.underlying29 rfl (by rw[H3.out];exact q5nr) ?_))
      refine(AN1.out _ SK.out).mono ?_
      rintro e W3 ⟨rfl,hS⟩
      have S3:=Lib.hid hS
      clear hS SK AN1
      go_upto_region 25 with (first
       | (refine q2a5 rfl _ _ rfl B2 rfl 29 _ (0,0) _ S3.out.two Tryz.underlying29 rfl (by rw[H3.out];exact q5nr) ?_)
       | (refine wpList_store_row rfl _ _ _ rfl W3.heap.size (pkC (ansS i C) (adC Ac d)) rfl rfl 29 _ (heap_alloc_new W3 _) (by rw[H3.out];exact q5nr) (by rw[HZ.out,H3.out]) Hq1.out ?_))
      have S5:=Lib.hid (S3.out.call ((q8xz (qybm (.cells pkZ 29)) (Nat.le_refl _) (pkC (ansS i C) (adC Ac d))).setCell (p:=⟨W3.heap.size,4,none⟩) (Nat.le_refl _) (.int .i64 ((i:Int)+1))))
      have G4:=Lib.hid (setRow_heap _ _ _ (pkC (ansS i C) (adC Ac d)) _ _ (heap_alloc_new W3 (.cells pkZ 29)))
      generalize (W3.alloc (.cells pkZ 29)).setRow W3.heap.size (pkC (ansS i C) (adC Ac d))=W4 at *
      generalize W3.heap.size=B3 at *
      have k4:W4.cell? ⟨B3,4,none⟩=some (.int .i64 (i:Nat)):=cell_of_row _ _ 4 _ _ _ G4.out
      have f4:W4.frozen? ⟨B3,4,none⟩=false:=frozen_of_row _ _ _ _ _ G4.out
      have G5:Hid ((W4.setCell ⟨B3,4,none⟩ (.int .i64 ((i:Int)+1))).heap[B3]? = some (.cells (pkC (ansS ((i:Int)+1) C) (adC Ac d)) 29 (0,0))):=Lib.hid (by
       have:=qlvy G4.out 4 (.int .i64 ((i:Int)+1))
       rw[qsvz] at this
       exact this)
      clear S3
      go_upto_region 26 with fail
      generalize W4.setCell ⟨B3,4,none⟩ (.int .i64 ((i:Int)+1))=W5 at *
      clear G4 k4 f4 hw1
      have S5':=S5
      go_upto_region 27 with (first
       | (refine q2a5 rfl _ _ rfl B rfl 29 _ (0,0) _ S5'.out.one Tryz.underlying29 rfl (by rw[Hp.out];exact q5nr) ?_)
       | (refine wpList_store_row rfl _ _ _ rfl W5.heap.size (pkC (askS i l) (adF A1 c1)) rfl rfl 29 _ (heap_alloc_new W5 _) (by rw[Hp.out];exact q5nr) (by rw[HZ.out,Hp.out]) Hp1.out ?_))
      have b6:Hid (Below W5.heap.size W5 ((W5.alloc (.cells pkZ 29)).setRow W5.heap.size (pkC (askS i l) (adF A1 c1)))):=Lib.hid (q8xz (qybm (.cells pkZ 29)) (Nat.le_refl _) _)
      have G6:=Lib.hid (setRow_heap _ _ _ (pkC (askS i l) (adF A1 c1)) _ _ (heap_alloc_new W5 (.cells pkZ 29)))
      generalize (W5.alloc (.cells pkZ 29)).setRow W5.heap.size (pkC (askS i l) (adF A1 c1))=W6 at *
      obtain⟨B4,hB4⟩:∃B4,W5.heap.size=B4:=⟨_,rfl⟩
      rw[hB4] at G6 b6 ⊢
      have HB4:=Lib.hid hB4
      clear hB4
      have S6:=Lib.hid (S5.out.call (by rw[HB4.out];exact b6.out))
      have k23:W6.cell? ⟨B,23,none⟩=some (.slice A1 l.length c1):=cell_of_row _ _ 23 _ _ _ S6.out.one
      have hll:l.length≤20:=by rw[HLL.out.2];exact HN.out
      have OW:=Lib.hid (qk6n A1 l.length c1 l W6 S6.out.pat.fs rfl (by omega))
      have HL20:=Lib.hid hll
      clear hll
      go_wp2_with fail
      refine(OW.out).mono ?_
      rintro e W7 ⟨v7,rfl,hown,hb7⟩
      have B67:=Lib.hid hb7
      have HO7:=Lib.hid (fun j (e:v7.ownBlock=some j)=>(hown.lt j e).1)
      have hB6:W6.heap.size≤W7.heap.size:=hb7.size
      clear hb7 k23 OW
      go_upto_region 28 with (first
       | (at_builtin;refine wpList_append_own _ rfl _ _ 27 rfl W6.heap.size 32 i0 (.agg #[.string .empty,.int .i64 0,.bool false,.bool false,.int .i64 0]) 5 40 Tryz.underlying27 HIF.out.1 HIF.out.2.1 HIF.out.2.2.1 HIF.out.2.2.2 rfl (by decide) _ _ _ rfl (hown.alloc _) ⟨W7.heap.size,0,none⟩ 1 1 [.string (bs [120]),.int .i64 0,.bool false,.bool false,.int .i64 0] rfl rfl ?c1 ?c2 ?c3 ?c4 ?c5 ?_))
      case c1=>intro j u hj;match j,hj with
       | 0,hj=>simp at hj;subst hj;exact World.cell?_alloc_at _ _ _ _ rfl
       | 1,hj=>simp at hj;subst hj;exact World.cell?_alloc_at _ _ _ _ rfl
       | 2,hj=>simp at hj;subst hj;exact World.cell?_alloc_at _ _ _ _ rfl
       | 3,hj=>simp at hj;subst hj;exact World.cell?_alloc_at _ _ _ _ rfl
       | 4,hj=>simp at hj;subst hj;exact World.cell?_alloc_at _ _ _ _ rfl
      case c2=>intro u hu;simp at hu;rcases hu with rfl | rfl | rfl | rfl | rfl<;>rfl
      case c3=>have:=HL20.out;unfold maxLen;omega
      case c4=>have:=HL20.out;omega
      case c5=>simp only[World.size_alloc];omega
      intro v' w9 hown' hgrow _
      rw[qqkq] at hown'
      have hl1:(l++[askF [120]]).length=l.length+1:=by simp
      obtain⟨A5,c5,rfl,-,hc5,hA5⟩:=CL.owned hown' hown'.1
      have B69:=Lib.hid (q3my B67.out HO7.out hgrow)
      have G9:=Lib.hid ((B69.out.block _ (lt_of_block G6.out)).trans G6.out)
      have k9:w9.cell? ⟨B4,23,none⟩=some (.slice A1 l.length c1):=cell_of_row _ _ 23 _ _ _ G9.out
      have f9:w9.frozen? ⟨B4,23,none⟩=false:=frozen_of_row _ _ _ _ _ G9.out
      have E9:Hid (EnS w B B2 B3 B4 (askS i l) (ansS i C) (ansS ((i:Int)+1) C) (askS i (l++[askF [120]])) (adF A1 c1) (adC Ac d) (adF A5 c5) (w9.setCell ⟨B4,23,none⟩ (.slice A5 (l.length+1) c5))):=Lib.hid (by
       have b59:Below W5.heap.size W5 (w9.setCell ⟨B4,23,none⟩ (.slice A5 (l.length+1) c5)):=
        (qxh2 (by rw[HB4.out];exact b6.out) B69.out).setCell (p:=⟨B4,23,none⟩) (Nat.le_of_eq HB4.out) _
       have an:=S5.out.call b59
       refine⟨an,(b59.block _ (lt_of_block G5.out)).trans G5.out,?_,q4lq an.qat.cs,q66c (hc5.kept (q99v w9 B4 23 _).size (fun g j e _=>heap_setCell_other w9 ⟨B4,23,none⟩ g _ ?_))⟩
       ·have:=qlvy G9.out 23 (.slice A5 (l.length+1) c5)
        rw[q2bq (m:=l++[askF [120]]) hl1] at this
        exact this
       ·have h1:=hA5 g j e
        have h2:=lt_of_block G6.out
        show g≠B4
        omega)
      clear hown' hgrow hc5 hA5 hown hB6
      go_upto_region 28 with fail
      generalize w9.setCell ⟨B4,23,none⟩ (.slice A5 (l.length+1) c5)=WA at *
      have H5:=Lib.hid (qwmp (ansS ((i:Int)+1) C) (adC Ac d))
      have H6:=Lib.hid (qwmp (askS i (l++[askF [120]])) (adF A5 c5))
      have N2:=Lib.hid (AN2.out B3 B4 A5 c5)
      have N4:=Lib.hid (AN4.out B3 B4 A5 c5)
      clear k9 f9 S5 S5' S6 G5 G6 G9 b6 B69 B67 HO7 AN2 AN4
      cases R with
      | false=>
       clear AN3
       go_wp2_with (first
        | (refine q2a5 rfl _ _ rfl B rfl 29 _ (0,0) _ E9.out.an.one Tryz.underlying29 rfl (by rw[Hp.out];exact q5nr) ?_)
        | (refine q2a5 rfl _ _ rfl B3 rfl 29 _ (0,0) _ E9.out.three Tryz.underlying29 rfl (by rw[H5.out];exact q5nr) ?_))
       refine(N2.out _ E9.out).mono ?_
       rintro e WB ⟨rfl,hS⟩
       have EB:=Lib.hid hS
       clear hS E9
       go_wp2_with (first
        | (refine q2a5 rfl _ _ rfl B rfl 29 _ (0,0) _ EB.out.an.one Tryz.underlying29 rfl (by rw[Hp.out];exact q5nr) ?_)
        | (refine q2a5 rfl _ _ rfl B2 rfl 29 _ (0,0) _ EB.out.an.two Tryz.underlying29 rfl (by rw[H3.out];exact q5nr) ?_))
       refine(N4.out _ EB.out).mono ?_
       rintro e WC ⟨rfl,hS⟩
       have LO:=Lib.hid hS.an.low
       clear hS EB
       go_wp2_with fail
       go_ret
       exact⟨rfl,LO.out⟩
      | true=>
       have N3:=AN3.out.2 B3 B4 A5 c5
       rw[qlff (AN3.out.1 rfl)] at N3
       have N3:=Lib.hid N3
       clear AN3
       go_wp2_with (first
        | (refine q2a5 rfl _ _ rfl B rfl 29 _ (0,0) _ E9.out.an.one Tryz.underlying29 rfl (by rw[Hp.out];exact q5nr) ?_)
        | (refine q2a5 rfl _ _ rfl B3 rfl 29 _ (0,0) _ E9.out.three Tryz.underlying29 rfl (by rw[H5.out];exact q5nr) ?_))
       refine(N2.out _ E9.out).mono ?_
       rintro e WB ⟨rfl,hS⟩
       have EB:=Lib.hid hS
       clear hS E9
       go_wp2_with (first
        | (refine q2a5 rfl _ _ rfl B4 rfl 29 _ (0,0) _ EB.out.four Tryz.underlying29 rfl (by rw[H6.out];exact q5nr) ?_)
        | (refine q2a5 rfl _ _ rfl B2 rfl 29 _ (0,0) _ EB.out.an.two Tryz.underlying29 rfl (by rw[H3.out];exact q5nr) ?_))
       refine(N3.out _ EB.out).mono ?_
       rintro e WC ⟨rfl,hS⟩
       have EC:=Lib.hid hS
       clear hS EB
       go_wp2_with (first
        | (refine q2a5 rfl _ _ rfl B rfl 29 _ (0,0) _ EC.out.an.one Tryz.underlying29 rfl (by rw[Hp.out];exact q5nr) ?_)
        | (refine q2a5 rfl _ _ rfl B2 rfl 29 _ (0,0) _ EC.out.an.two Tryz.underlying29 rfl (by rw[H3.out];exact q5nr) ?_))
       refine(N4.out _ EC.out).mono ?_
       rintro e WD ⟨rfl,hS⟩
       have LO:=Lib.hid hS.an.low
       clear hS EC
       go_wp2_with fail
       go_ret
       exact⟨rfl,LO.out⟩
theorem qxsr(v:Int)(i:Nat)(A Ac:Option Addr)(c d m:Nat)(T:List (List UInt8))(C:List Int)(w:World)(hT:SR w A T)(hC:CL w Ac (ics C))(hm:C.length=m)(hi:i≤65535) :
 Calls Tryz.prog 7 #[.int .i64 v,.int .u16 (i:Nat),.slice A T.length c,.slice Ac m d] w fun e w'=>e = .returned (.bool true)∧Below w.heap.size w w':=by
 subst hm
 by_cases h:20 < T.length∨20 < C.length∨i=0∨i=65535
 ·exact q7l4 v i A Ac T.length c C.length d w h
 ·exact qcxw v i A Ac c d T C w hT hC (by omega) (by omega) (by omega) (by omega)
end Go.Proofs.YtbecggefmbpnoaaGreatDoor
