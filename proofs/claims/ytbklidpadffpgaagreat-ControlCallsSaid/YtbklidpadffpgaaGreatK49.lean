/- The contract of polyglotref05.body, at properties that are valid. Condition: at most 1,010. -/
import Derived.Deep.LoopGhost
import Derived.Test.YtbklidpadffpgaaGreatK48
import Derived.Test.YtbklidpadffpgaaGreatK46
import Derived.Test.YtbklidpadffpgaaGreatK39
set_option maxRecDepth 100000
set_option maxHeartbeats 2000000
namespace Go.Proofs.YtbklidpadffpgaaGreat
open Go.RowKit
theorem qw8w{kind:Int}{p:Pr}(ck:qr4y kind p=0):(qgdb p).length≤200000:=by
 obtain⟨hm,h4,h5⟩:=qo1o ck
 obtain⟨r1,r2,f1,f2,f3,f4,_⟩:=qznl hm
 unfold qgdb
 by_cases s1:qwgc p.id=1
 ·rw[if_pos s1,q0rl];omega
 by_cases s2:qwgc p.id=2
 ·rw[if_neg s1,if_pos s2,q0rl];omega
 by_cases s3:qwgc p.id=3
 ·rw[if_neg s1,if_neg s2,if_pos s3,q0rl];omega
 by_cases s4:qwgc p.id=4
 ·rw[if_neg s1,if_neg s2,if_neg s3,if_pos s4,q8sw]
  obtain⟨_,_,_,hn⟩:=h4 (by omega)
  have:=f4 s4
  have:=qnl4 p.n (by omega)
  omega
 rw[if_neg s1,if_neg s2,if_neg s3,if_neg s4]
 obtain⟨_,hv7,hv6,hvt⟩:=h5 (by omega)
 by_cases s7:qwgc p.id=7
 ·obtain⟨v1,v2⟩:=hvt (by omega)
  have l1:=((qbv6 _).1 v1).1
  have l2:=((qbv6 _).1 v2).1
  rw[if_pos s7,List.length_append,qnp6,qnp6];omega
 ·rw[if_neg s7,qnp6]
  by_cases s6:qwgc p.id=6
  ·have:=hv6 s6;omega
  ·obtain⟨v1,_⟩:=hvt (by omega)
   have l1:=((qbv6 _).1 v1).1
   omega
theorem qbnl{kind:Int}:∀(l:List Pr),(∀p∈l,qr4y kind p=0)→(q636 l).length≤l.length*200001
 | [],_=>Nat.zero_le _
 | p::l,h=>by
  have h1:=qw8w (h p (List.mem_cons_self ..))
  have h2:=qbnl l (fun q hq=>h q (List.mem_cons_of_mem _ hq))
  rw[qhx5,List.length_append,qnrl,List.length_cons]
  omega
theorem qp37{kind:Int}(A:Option Addr)(n c:Nat)(l:List Pr)(w:World)(hl:PL w A l)(hn:l.length=n)(hN:n≤1010)(ck:∀p∈l,qr4y kind p=0) :
 Calls Tryz.prog 71 #[.slice A n c] w fun e w'=>e = .returned (.string (bs (q636 l)))∧Below w.heap.size w w':=by
 have HL:=Lib.hid hl
 have HN:=Lib.hid hn
 have CK:=Lib.hid ck
 have BL:=Lib.hid (fun k=>qbnl (l.take k) (fun p hp=>ck p (List.mem_of_mem_take hp)))
 have q0:(n:Int)≤1010:=by omega
 have H10:=Lib.hid hN
 clear hl hn ck hN
 go_enter Tryz.func71,Tryz.ntmps71
 go_wp2_with fail
 go_loopg [3,4] n (fun gk s3 s4 wx=>∃k:Nat,k≤n∧gk=n - k∧s4 = .int .i64 (k:Int)∧s3 = .string (bs (q636 (l.take k)))∧Below w.heap.size w wx)
 case atStart=>exact⟨0,Nat.zero_le _,rfl,rfl,rfl,Below.refl _ _⟩
 case round=>
  obtain⟨k,hk,rfl,rfl,rfl,hB⟩:=hrel
  have HB:=Lib.hid hB
  by_cases hlt:k < n
  ·have hkl:k < l.length:=by rw[HN.out];exact hlt
   obtain⟨p,hp⟩:∃p,l[k]? = some p:=⟨_,List.getElem?_eq_getElem hkl⟩
   obtain⟨g,i,rfl,hg',c0,c1,c2,c3⟩:=(HL.out.below hB).at hp
   have ckp:=CK.out p (List.mem_of_getElem? hp)
   have hid:=qilb (qo1o ckp).1
   have VA:=fun W=>qq3r p ckp W
   have htk:l.take (k+1)=l.take k++[p]:=by rw[List.take_add_one,hp];rfl
   obtain⟨x,hx⟩:∃x:Nat,p.id=(x:Int):=⟨p.id.toNat,by omega⟩
   have hw8:IntKind.u8.wrap p.id=((UInt8.ofNat x).toNat:Int):=by
    rw[hx];simp only[IntKind.wrap_u8]
    have:(UInt8.ofNat x).toNat=x:=by simp;omega
    rw[this];omega
   have HBD:=Lib.hid (show bs (q636 (l.take (k+1)))=bs (q636 (l.take k))++⟨#[UInt8.ofNat x]⟩++bs (qgdb p) by
    have h1:q636 (l.take (k+1))=q636 (l.take k)++[UInt8.ofNat x]++qgdb p:=by
     rw[htk,qd67,qhx5,qodo,List.append_nil]
     unfold oneP
     rw[hx]
     simp
    rw[h1,←qyv7,←qyv7];rfl)
   have b1:=BL.out k
   rw[List.length_take] at b1
   have b2:=qw8w ckp
   have n1:¬9223372036854775807 < (bs (q636 (l.take k))).size+1:=by rw[q5zk];have:=H10.out;omega
   have n2:¬9223372036854775807 < (bs (q636 (l.take k))).size+1+(bs (qgdb p)).size:=by rw[q5zk,q5zk];have:=H10.out;omega
   have sz1:(⟨#[UInt8.ofNat x]⟩:ByteArray).size=1:=rfl
   generalize UInt8.ofNat x=y at *
   generalize bs (q636 (l.take k))=o1 at *
   generalize bs (qgdb p)=o2 at *
   have VA:=Lib.hid VA
   have HX:=Lib.hid hx
   have HLT:=Lib.hid hlt
   have g1:(k:Int) < (n:Int):=by omega
   have MK:=Lib.hid (fun W (h:Below w.heap.size w W)=>(show W.cell? ⟨g,i+k*4,none⟩=some (.int .i64 p.id)∧W.cell? ⟨g,i+k*4+1,none⟩=some (.int .u32 p.n)∧W.cell? ⟨g,i+k*4+2,none⟩=some (.string (bs p.text))∧W.cell? ⟨g,i+k*4+3,none⟩=some (.string (bs p.value))∧Below w.heap.size w W from by
    obtain⟨g',i',e',_,d0,d1,d2,d3⟩:=(HL.out.below h).at hp
    cases e'
    exact⟨d0,d1,d2,d3,h⟩))
   have n3:¬9223372036854775807 < (o1++⟨#[y]⟩:ByteArray).size+o2.size:=by rw[ByteArray.size_append,sz1];exact n2
   clear ckp hid hkl htk b1 b2 hx hlt hk hp hB hg' c0 c1 c2 c3
   unfold qbhk at VA
   go_wp2_with fail
   refine qr0g (T:=fun W=>Below w.heap.size w W) g1 hw8 (by rw[sz1];exact n1) n3 (qnpu HB.out 1) (fun W h=>⟨(MK.out W h).1,(MK.out W h).2.1,(MK.out W h).2.2.1,(MK.out W h).2.2.2.1⟩) (fun W h=>h.alloc h.size _) (fun W W' h hb=>h.trans (hb.mono h.size)) (fun W _=>VA.out W) ?_
   intro r6 w6 hB6
   have HBx:=Lib.hid hB6
   clear hB6 n1 n2 n3 sz1 hw8
   go_wp2_with fail
   go_roundg (n - (k+1))
   case measure=>have:=HLT.out;omega
   case rel=>exact⟨k+1,by have:=HLT.out;omega,rfl,by go_num,by rw[HBD.out],HBx.out⟩
  ·obtain rfl:k=n:=by omega
   have e1:l.take k=l:=List.take_of_length_le (by rw[HN.out];omega)
   rw[e1]
   clear hB hlt hk e1
   go_wp2_with fail
   go_ret
   exact⟨rfl,HB.out⟩
end Go.Proofs.YtbklidpadffpgaaGreat
