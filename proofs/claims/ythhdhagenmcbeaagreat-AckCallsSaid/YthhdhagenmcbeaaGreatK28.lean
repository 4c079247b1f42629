/- The contracts of polyglotref05.Shape, May and Many. No condition. -/
import Derived.Deep.LoopGhost
import Derived.Test.YthhdhagenmcbeaaGreatK27
import Derived.Test.YthhdhagenmcbeaaGreatK11
import Derived.Test.YthhdhagenmcbeaaGreatK26
set_option maxRecDepth 100000
set_option maxHeartbeats 1000000
namespace Go.Proofs.YthhdhagenmcbeaaGreat
open Go.RowKit
theorem q57y(id:Int):(prow id).kinds.length≤14:=by
 by_cases h:id < 1∨42 < id
 ·rw[q0dw h];decide
 ·exact of_decide_eq_true (qoa5 (fun _ r=>decide (r.kinds.length≤14)) (by decide) (by omega))
theorem qkrp(a:Int)(A:Option Addr)(n c:Nat)(x y:Int)(W:World):(Instr.field 152 (.agg #[.int .i64 a,.slice A n c,.int .u32 x,.int .u32 y]) 0).run Tryz.prog W = .ok (.int .i64 a) W:=by kernel_rfl
theorem qan2(a:Int)(A:Option Addr)(n c:Nat)(x y:Int)(W:World):(Instr.field 152 (.agg #[.int .i64 a,.slice A n c,.int .u32 x,.int .u32 y]) 1).run Tryz.prog W = .ok (.slice A n c) W:=by kernel_rfl
theorem q9my(kind id:Int)(w:World):Calls Tryz.prog 118 #[.int .i64 kind,.int .i64 id] w fun e w'=>e = .returned (.bool (mayP kind id))∧Below w.heap.size w w':=by
 have hm:mayP kind id=(prow id).kinds.contains kind:=rfl
 have h14:=q57y id
 have LA:=q43i id w
 unfold qhh9 at LA
 rw[hm]
 generalize (prow id).kinds=ks at *
 generalize (((prow id).shape:Nat):Int)=sh at *
 generalize (((prow id).least:Nat):Int)=le at *
 generalize (((prow id).most:Nat):Int)=mo at *
 obtain⟨n,hn⟩:∃n,ks.length=n:=⟨_,rfl⟩
 rw[hn] at LA h14
 have q0:(n:Int)≤14:=by omega
 have HN:=Lib.hid hn
 have LA:=Lib.hid LA
 generalize hC:ks.contains kind=C
 have HC:=Lib.hid hC
 clear hm hn hC h14
 go_enter Tryz.func118,Tryz.ntmps118
 go_wp2_with fail
 refine(LA.out).mono ?_
 rintro e w1 ⟨A,rfl,hb,hk⟩
 have HB:=Lib.hid hb
 have HK:=Lib.hid hk
 have F1:=qan2 sh A n n le mo
 clear hb hk LA
 go_wp2_with fail
 clear F1
 go_loopg [6] n (fun gk v wx=>∃k:Nat,k≤n∧gk=n - k∧v = .int .i64 (k:Int)∧wx=w1∧∀j x,j < k→ks[j]? = some x→x≠kind)
 case atStart=>exact⟨0,Nat.zero_le _,rfl,rfl,rfl,fun j x h=>by omega⟩
 case round=>
  obtain⟨k,hk,rfl,rfl,rfl,hno⟩:=hrel
  have HNO:=Lib.hid hno
  by_cases hlt:k < n
  ·have hkl:k < ks.length:=by rw[HN.out];exact hlt
   obtain⟨x,hx⟩:∃x,ks[k]? = some x:=⟨_,List.getElem?_eq_getElem hkl⟩
   obtain⟨g,rfl,hg⟩:=HK.out.resolve_left (by rintro rfl;simp at hkl)
   have c0:wr.cell? ⟨g,k,none⟩=some (.int .i64 x):=by
    rw[cell_of_row _ _ _ _ _ _ hg]
    simp[hx]
   have q1:(k:Int) < (n:Int):=by omega
   have HX:=Lib.hid hx
   have HL:=Lib.hid hlt
   clear hno hkl hx hg hlt hk
   by_cases he:x=kind
   ·subst he
    have hC:=HC.out
    have:C=true:=by rw[←hC];exact List.contains_iff_mem.2 (List.mem_of_getElem? HX.out)
    clear hC
    subst this
    go_wp2_with fail
    go_ret
    exact⟨rfl,HB.out⟩
   ·have q2:(x==kind)=false:=by simpa using he
    have HE:=Lib.hid he
    clear he
    go_wp2_with fail
    go_roundg (n - (k+1))
    case measure=>have:=HL.out;omega
    case rel=>
     refine⟨k+1,by have:=HL.out;omega,rfl,by go_num,rfl,fun j y hj hy=>?_⟩
     by_cases hjk:j=k
     ·subst hjk
      have:=hy.symm.trans HX.out
      injection this with this
      rw[this];exact HE.out
     ·exact HNO.out j y (by omega) hy
  ·obtain rfl:k=n:=by omega
   have hC:=HC.out
   have:C=false:=by
    rw[←hC]
    refine Bool.eq_false_iff.2 fun h=>?_
    obtain⟨j,hj⟩:=List.mem_iff_getElem?.1 (List.contains_iff_mem.1 h)
    exact HNO.out j kind (by have:=(List.getElem?_eq_some_iff.1 hj).1;rw[HN.out] at this;exact this) hj rfl
   clear hC
   subst this
   clear hno hlt hk
   go_wp2_with fail
   go_ret
   exact⟨rfl,HB.out⟩
theorem q30m(kind id:Int)(w:World):Calls Tryz.prog 125 #[.int .i64 kind,.int .i64 id] w fun e w'=>e = .returned (.bool (quux kind id))∧Below w.heap.size w w':=by
 have MY:=q9my kind id w
 unfold quux
 generalize mayP kind id=b at *
 obtain⟨b1,h1⟩:∃b,(id==38)=b:=⟨_,rfl⟩
 obtain⟨b2,h2⟩:∃b,(id==11)=b:=⟨_,rfl⟩
 obtain⟨b3,h3⟩:∃b,(kind==3)=b:=⟨_,rfl⟩
 rw[h1,h2,h3]
 have MY:=Lib.hid MY
 cases b<;>cases b1<;>cases b2<;>cases b3<;>
 ·go_enter Tryz.func125,Tryz.ntmps125
  go_wp2_with fail
  refine(MY.out).mono ?_
  rintro e w1 ⟨rfl,hb⟩
  go_wp2_with fail
  go_ret
  exact⟨rfl,hb⟩
theorem qbu6(n j:Nat)(hn:n < 18446744073709551616):Op.shift .shr .u64 (n:Int) .u64 ((8*j:Nat):Int)=pure (.int .u64 ((n / 256^j:Nat):Int)):=by
 have:=qg6w n j hn
 rw[shift_shr_any _ _ _ _ (by omega)] at this ⊢
 exact this
theorem qeva(n c:Nat)(w:World)(hn:n < 18446744073709551616)(h0:1≤c)(h8:c≤8) :
 Calls Tryz.prog 35 #[.int .u64 n,.int .i64 c] w fun e w'=>e = .returned (.string (bs (be n c)))∧Below w.heap.size w w':=by
 obtain⟨i0,hi,hz0,hz1,hz2⟩:=info_parts qsz0
 have a1:min (c:Int) 16=(c:Int):=by omega
 have a2:max (0:Int) (c:Int)=(c:Int):=by omega
 have a6:0 < c:=by omega
 have HN:=Lib.hid hn
 have H8:=Lib.hid h8
 have a4:(c:Int)≤16:=by omega
 have a5:(0:Int)≤(c:Int):=by omega
 clear hn h8 h0
 go_enter Tryz.func35,Tryz.ntmps35
 go_wp2_with fail
 go_loopg [5,6] c (fun gk v i wr=>∃k:Nat,k≤c∧gk=c - k∧i = .int .i64 ((c:Int) - 1 - (k:Int))∧wr.ownsRow w.heap.size 5 1 v k ((be (n / 256^(c - k)) k).map u8v)∧Below w.heap.size w wr)
 case atStart=>exact⟨0,Nat.zero_le _,rfl,by simp,World.ownsRow_nil _ _ _ _,Below.refl _ _⟩
 case round=>
  obtain⟨k,hk,rfl,rfl,hown,hb⟩:=hrel
  by_cases hlt:k < c
  ·obtain⟨j,hj⟩:∃j:Nat,c=k+1+j:=⟨c - (k+1),by omega⟩
   have hz:(c:Int) - 1 - (k:Int)=(j:Int):=by omega
   rw[hz]
   have hst:=qxkn n c k hlt
   have hsh0:=qbu6 n j HN.out
   obtain⟨q,hq⟩:∃q:Nat,8*j=q:=⟨_,rfl⟩
   rw[hq] at hsh0
   have e1:c - (k+1)=j:=by omega
   rw[e1] at hst
   generalize hm:n / 256^j=m at hst hsh0
   have HM:=Lib.hid (show n / 256^(c - (k+1))=m by rw[e1];exact hm)
   have HS:=Lib.hid hst
   have hsh:Op.shift .shr .u64 (n:Int) .u64 (q:Int)=pure (.int .u64 (m:Int)):=hsh0
   have hj8:j < 8:=by have:=H8.out;omega
   have g1:(0:Int)≤(j:Int):=by omega
   have g2:(j:Int) < 8:=by omega
   have g3:IntKind.i64.wrap (8*(j:Int))=(q:Int):=by simp only[IntKind.wrap_i64];omega
   have g4:IntKind.u64.wrap (q:Int)=(q:Int):=by simp only[IntKind.wrap_u64];omega
   obtain⟨z,hz2⟩:∃z:Int,(j:Int) - 1=z:=⟨_,rfl⟩
   have g5:IntKind.i64.wrap ((j:Int) - 1)=z:=by simp only[IntKind.wrap_i64];omega
   have HZ:=Lib.hid (show z=(c:Int) - 1 - ((k+1:Nat):Int) by omega)
   have HL:=Lib.hid hlt
   have HB:=Lib.hid hb
   have HO:=Lib.hid (hown.alloc (.cells #[.int .u8 ((m:Int)%256)] 5))
   have OL:=Lib.hid (fun j hj=>(hown.lt j hj).1)
   have hbs:w.heap.size≤wr.heap.size:=hb.size
   have HK:=Lib.hid (show k < 9 by have:=H8.out;omega)
   clear hm hsh0 hst hj hz hj8 hq e1 hz2 hlt hk hown hb
   go_wp2_with (at_builtin;refine wpList_append_own _ rfl _ _ 74 rfl w.heap.size 5 i0 (.int .u8 0) 1 1 Tryz.underlying74 hi hz0 hz1 hz2 rfl (by decide) _ _ _ rfl HO.out ⟨wr.heap.size,0,none⟩ 1 1 [.int .u8 ((m:Int)%256)] rfl rfl ?c1 ?c2 ?c3 ?c4 ?c5 ?_)
   case c1=>intro j u hj;cases j<;>simp at hj;subst hj;exact World.cell?_alloc_at _ _ _ _ rfl
   case c2=>intro u hu;simp at hu;subst hu;rfl
   case c3=>have:=HK.out;unfold maxLen;omega
   case c4=>have:=HK.out;omega
   case c5=>simp;omega
   intro v' w1 hown' hgrow _
   have hb':Below w.heap.size w w1:=(HB.out.alloc hbs _).grown hgrow (by simp;omega) (fun j hj=>OL.out j hj)
   have hown2:w1.ownsRow w.heap.size 5 1 v' (k+1) ((be (n / 256^(c - (k+1))) (k+1)).map u8v):=by
    rw[HM.out,HS.out];simpa [u8v] using hown'
   have HB2:=Lib.hid hb'
   have HO2:=Lib.hid hown2
   clear hown' hgrow hown2 hb'
   go_wp2_with fail
   go_roundg (c - (k+1))
   case measure=>have:=HL.out;omega
   case rel=>exact⟨k+1,by have:=HL.out;omega,rfl,by rw[HZ.out],HO2.out,HB2.out⟩
  ·obtain rfl:k=c:=by omega
   have hz:(k:Int) - 1 - (k:Int)= -1:=by omega
   rw[hz]
   have hcv:=q3j9 _ hown
   have e0:n / 256^(k - k)=n:=by simp
   rw[e0] at hcv
   have HB:=Lib.hid hb
   clear hown hb hz hlt hk e0
   go_wp2_with fail
   go_ret
   exact⟨rfl,HB.out⟩
end Go.Proofs.YthhdhagenmcbeaaGreat
