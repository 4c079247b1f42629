/- The contract of ustring.Binary. Condition: none. -/
import Derived.OwnWalk
import Derived.Below
import Derived.Lib.Hide
import Derived.StillTailTactics
import Derived.Deep.LoopGhost
import Derived.Laws.AppendOwn
import Derived.Test.YtbklidpadffpgaaK08
import Derived.Test.YtbklidpadffpgaaK31
import Derived.Test.YtbklidpadffpgaaK30
import Derived.Test.YtbklidpadffpgaaK02
import Derived.Test.YtbklidpadffpgaaK10
set_option maxRecDepth 100000
set_option maxHeartbeats 1000000
namespace Go.Proofs.Ytbklidpadffpgaa
open Go.RowKit
theorem qyv7(a b:List UInt8):bs a++bs b=bs (a++b):=by
 apply ByteArray.ext
 simp[bs]
theorem qyiu(a:List UInt8)(s:ByteArray):bs a++s=bs (a++s.data.toList):=qyv7 a s.data.toList
theorem qbrl(s:ByteArray)(w:World)(h:s.size≤65535) :
 Calls Try.prog 63 #[.string s] w fun e w'=>e = .returned (.tuple #[.string (bs (enc2 s.data.toList)),.int .i64 0])∧Below w.heap.size w w':=by
 have hp:=qe3g s.size 2 w (by omega)
 have e2:(min (2:Int) 16).toNat=2:=by decide
 rw[e2] at hp
 have hres:bs (be s.size 2)++s=bs (enc2 s.data.toList):=by
  rw[qyiu,enc2,←q4ad]
 have hsz:(bs (be s.size 2)).size=2:=by rw[q4ad];exact q0rl 2 _
 have hnl:¬9223372036854775807 < (bs (be s.size 2)).size+s.size:=by omega
 clear hsz
 have hp:=Lib.hid hp
 have hres:=Lib.hid hres
 go_enter Try.func63,Try.ntmps63
 go_wp2_with fail
 refine(hp.out).mono ?_
 rintro e w1 ⟨rfl,hb⟩
 go_wp2_with fail
 go_ret2
 exact⟨rfl,hb⟩
theorem qfwd:(Try.prog.info? 3).map (fun i=>(i.zero,i.size,i.bytes))=some (some (.int .i64 0),1,8):=by kernel_rfl
def iv(n:Nat):Value := .int .i64 (n:Int)
theorem qrw1{B n:Nat}{wx wy:World}{v:Value}{xs:List Value}(hB:B≤wx.heap.size)(h:wx.ownsRow B 3 1 v n xs)(o:Obj)(hg:(wx.alloc o).grownBy wy v.ownBlock):Below B wx wy:=by
 rcases h.2 with ⟨rfl,_⟩ | ⟨gb,cap,cur,rfl,hbg,_⟩
 ·exact((Below.refl B wx).alloc hB o).trans ⟨hg.os,hg.tape,hg.output,hg.size,fun j hj=>hg.block j (by simp only[World.size_alloc];omega) (fun e=>by cases e)⟩
 ·exact((Below.refl B wx).alloc hB o).trans ⟨hg.os,hg.tape,hg.output,hg.size,fun j hj=>hg.block j (by simp only[World.size_alloc];omega) (fun e=>by cases e;have h9:gb < B:=hj;omega)⟩
theorem qwz9(W:World)(B n:Nat)(l:List Nat)(cs:Array Value)(hB:B≤W.heap.size)(hn:l.length=n)(hm:n≤500)(hc:cs=(l.map iv).toArray):(W.alloc (.cells cs 3)).ownsRow B 3 1 (.slice (some ⟨W.heap.size,0,none⟩) n n) n (l.map iv):=by
 subst hc
 exact⟨by simp[hn],.inr ⟨_,n,_,rfl,hB,heap_alloc_new W _,Nat.le_refl _,by unfold maxLen;omega,by simp[hn],by rw[List.take_of_length_le (by simp[hn])]⟩⟩
theorem qa73(B:Nat)(v:Value)(xs:List Nat)(n a m:Nat)(b:Int)(W:World)(hB:B≤W.heap.size)(hn:xs.length=n)(ho:W.ownsRow B 3 1 v n (xs.map iv))(hb:b+1=((a+m:Nat):Int))(h1:n≤500)(h2:a+m≤500) :
 Calls Try.prog 23 #[v,.int .i64 (a:Int),.int .i64 b] W fun e W'=>∃v',e = .returned v'∧W'.ownsRow B 3 1 v' (n+m) ((xs++List.range' a m).map iv)∧Below B W W':=by
 obtain⟨i0,hi,hz0,hz1,hz2⟩:=info_parts qfwd
 have HO:=Lib.hid ho
 have HB:=Lib.hid hB
 have HE:=Lib.hid hb
 have b0:0≤b+1:=by omega
 have b1:b≤500:=by omega
 have H1:=Lib.hid h1
 have H2:=Lib.hid h2
 have HN:=Lib.hid hn
 clear ho hB hb h1 h2 hn
 go_enter Try.func23,Try.ntmps23
 go_wp2_with fail
 go_loopg [0,1] m (fun gk s0 s1 wx=>∃k:Nat,k≤m∧gk=m - k∧s1 = .int .i64 ((a+k:Nat):Int)∧wx.ownsRow B 3 1 s0 (n+k) ((xs++List.range' a k).map iv)∧Below B W wx)
 case atStart=>exact⟨0,Nat.zero_le _,rfl,rfl,by simpa using HO.out,Below.refl _ _⟩
 case round=>
  obtain⟨k,hk,rfl,rfl,hown,hlow⟩:=hrel
  have LW:=Lib.hid hlow
  have hbs:B≤wr.heap.size:=Nat.le_trans HB.out hlow.size
  clear hlow
  by_cases hlt:k < m
  ·have HK:=Lib.hid hlt
   have t1:((a+k:Nat):Int)≤b:=by have:=HE.out;omega
   have t2:((a+k:Nat):Int)≤500:=by have:=H2.out;omega
   obtain⟨c,hc⟩:∃c,a+k=c:=⟨_,rfl⟩
   rw[hc] at t1 t2 ⊢
   have HC:=Lib.hid hc
   have HW:=Lib.hid hown
   clear hlt hc
   go_wp2_with (at_builtin;refine wpList_append_own _ rfl _ _ 27 rfl B 3 i0 (.int .i64 0) 1 8 Try.underlying27 hi hz0 hz1 hz2 rfl (by decide) _ _ _ rfl (hown.alloc _) ⟨wr.heap.size,0,none⟩ 1 1 [.int .i64 (c:Int)] rfl rfl ?c1 ?c2 ?c3 ?c4 ?c5 ?_)
   case c1=>intro j u hj;cases j<;>simp at hj;subst hj;exact World.cell?_alloc_at _ _ _ _ rfl
   case c2=>intro u hu;simp at hu;subst hu;rfl
   case c3=>have:=H1.out;have:=H2.out;have:=HK.out;unfold maxLen;omega
   case c4=>have:=H1.out;have:=H2.out;have:=HK.out;omega
   case c5=>simp only[World.size_alloc];omega
   intro v' w9 hown' hgrow _
   have HM:=Lib.hid (LW.out.trans (qrw1 hbs HW.out _ hgrow))
   have HN':=Lib.hid (show w9.ownsRow B 3 1 v' (n+(k+1)) ((xs++List.range' a (k+1)).map iv) by
    rw[List.range'_concat,←List.append_assoc,List.map_append]
    have e:([a+1*k]:List Nat).map iv=[.int .i64 (c:Int)]:=by rw[Nat.one_mul,HC.out];rfl
    rw[e,List.map_append,List.append_assoc]
    exact hown')
   clear hown' hgrow hown HW
   go_wp2_with fail
   go_roundg (m - (k+1))
   case measure=>have:=HK.out;omega
   case rel=>exact⟨k+1,HK.out,rfl,by rw[show a+(k+1)=c+1 by have:=HC.out;omega];go_num,HN'.out,HM.out⟩
  ·obtain rfl:k=m:=by omega
   have t1:b < ((a+k:Nat):Int):=by have:=HE.out;omega
   obtain⟨c,hc⟩:∃c,a+k=c:=⟨_,rfl⟩
   rw[hc] at t1 ⊢
   have HW:=Lib.hid hown
   clear hown hlt hc
   go_wp2_with fail
   go_ret
   exact⟨_,rfl,HW.out,LW.out⟩
end Go.Proofs.Ytbklidpadffpgaa
