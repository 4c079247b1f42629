/- The contract of polyglotref06.May. No condition. -/
import Derived.Test.YtbklidpadffpgaaK33
import Derived.Test.YtbklidpadffpgaaK02
set_option maxRecDepth 100000
set_option maxHeartbeats 1000000
namespace Go.Proofs.Ytbklidpadffpgaa
open Go.RowKit
theorem qktc{W:World}{B:Nat}{v:Value}{l:List Nat}(h:W.ownsRow B 3 1 v l.length (l.map iv)) :
 (l=[]∧v = .slice none 0 0)∨∃g c,v = .slice (some ⟨g,0,none⟩) l.length c∧g < W.heap.size∧∀(i x:Nat),l[i]? = some x→W.cell? ⟨g,i,none⟩=some (.int .i64 (x:Int)):=by
 rcases h.2 with ⟨rfl,hn⟩ | ⟨g,cap,cur,rfl,hbg,hg,hrest⟩
 ·exact .inl ⟨List.eq_nil_of_length_eq_zero hn,rfl⟩
 ·refine .inr ⟨g,cap,rfl,lt_of_block hg,fun i x hx=>?_⟩
  have hc:=h.cells (g:=g) rfl i (iv x) (by rw[List.getElem?_map,hx];rfl)
  have hadd:(⟨g,0,none⟩:Addr).add i=⟨g,i,none⟩:=by unfold Addr.add;split<;>simp_all
  rw[hadd] at hc
  exact hc
theorem qao6(l:List Nat)(code:Int):(l.any fun x=>(x:Int)==code)=(decide (0≤code)&&l.contains code.toNat):=by
 induction l with
 | nil=>simp
 | cons x l ih=>
  rw[List.any_cons,ih,List.contains_cons]
  by_cases h0:0≤code
  ·have:((x:Int)==code)=(code.toNat==x):=by rw[Bool.eq_iff_iff];simp;omega
   simp[this,h0]
  ·have:((x:Int)==code)=false:=by simp;omega
   simp[this,h0]
theorem q6m7:∀g < 8,(qedv g).length≤29:=by decide
theorem q6zo(kind code:Int)(w:World) :
 Calls Try.prog 8 #[.int .i64 kind,.int .i64 code] w fun e w'=>e = .returned (.bool (mayR kind code))∧Below w.heap.size w w':=by
 have RA:=Lib.hid (qez7 kind w)
 have HE:=Lib.hid (show((qedv (grp kind)).any fun x=>(x:Int)==code)=mayR kind code from qao6 _ _)
 have hlen:=q6m7 _ (qljz kind)
 generalize qedv (grp kind)=l at *
 have HLN:=Lib.hid hlen
 clear hlen
 go_enter Try.func8,Try.ntmps8
 go_wp2_with fail
 refine RA.out.mono ?_
 rintro e w1 ⟨v,rfl,ho,hb⟩
 have LB:=Lib.hid hb
 clear hb
 rcases qktc ho with ⟨rfl,rfl⟩ | ⟨g,c,rfl,_,hc⟩
 ·have HX:=Lib.hid (show mayR kind code=false from HE.out.symm)
  clear ho HE
  go_wp2_with fail
  go_loopg [6] 0 (fun gk s6 wx=>gk=0∧s6 = .int .i64 0∧w1=wx)
  case atStart=>exact⟨rfl,rfl,rfl⟩
  case round=>
   obtain⟨rfl,rfl,rfl⟩:=hrel
   go_wp2_with fail
   go_ret
   exact⟨by rw[HX.out];rfl,LB.out⟩
 ·have HC:=Lib.hid hc
  clear ho hc
  obtain⟨n,hn⟩:∃n,l.length=n:=⟨_,rfl⟩
  rw[hn]
  have HN:=Lib.hid hn
  have n1:(n:Int)≤29:=by have:=HLN.out;omega
  clear hn
  go_wp2_with fail
  go_loopg [6] n (fun gk s6 wx=>∃k:Nat,k≤n∧gk=n - k∧s6 = .int .i64 (k:Int)∧((l.take k).any fun x=>(x:Int)==code)=false∧w1=wx)
  case atStart=>exact⟨0,Nat.zero_le _,rfl,rfl,rfl,rfl⟩
  case round=>
   obtain⟨k,hk,rfl,rfl,hN,rfl⟩:=hrel
   have HM:=Lib.hid hN
   clear hN
   by_cases hlt:k < n
   ·have HK:=Lib.hid hlt
    have hkl:k < l.length:=by rw[HN.out];exact hlt
    obtain⟨x,hx⟩:∃x,l[k]? = some x:=⟨_,List.getElem?_eq_getElem hkl⟩
    have htk:l.take (k+1)=l.take k++[x]:=by rw[List.take_add_one,hx];rfl
    have hce:=HC.out k x hx
    have k1:(k:Int) < (n:Int):=by omega
    by_cases he:(x:Int)=code
    ·have HT:=Lib.hid (show mayR kind code=true by
      rw[←HE.out,List.any_eq_true]
      exact⟨x,List.mem_of_getElem? hx,by simpa using he⟩)
     subst he
     clear htk hx hkl
     go_wp2_with fail
     go_ret
     exact⟨by rw[HT.out];rfl,LB.out⟩
    ·have hb:((x:Int)==code)=false:=by simpa using he
     have HT:=Lib.hid (show((l.take (k+1)).any fun x=>(x:Int)==code)=false by
      rw[htk,List.any_append,HM.out]
      simp[hb])
     clear htk hx hkl
     go_wp2_with fail
     go_roundg (n - (k+1))
     case measure=>have:=HK.out;omega
     case rel=>exact⟨k+1,HK.out,rfl,by go_num,HT.out,rfl⟩
   ·obtain rfl:k=n:=by omega
    have HT:=Lib.hid (show mayR kind code=false by
     rw[←HE.out]
     have:=HM.out
     rw[List.take_of_length_le (by rw[HN.out];omega)] at this
     exact this)
    clear hlt
    go_wp2_with fail
    go_ret
    exact⟨by rw[HT.out];rfl,LB.out⟩
theorem qhho(n m:Int)(w:World)(h0:0 < m)(h1:m≤1000000000) :
 Calls Try.prog 6 #[.int .i64 n,.int .i64 m] w fun e w'=>e = .returned (.int .i64 (n%m))∧w=w':=by
 have hm:¬m < 1:=by omega
 have hz:¬m=0:=by omega
 have b1:=Int.tmod_lt_of_pos n (show 0 < m by omega)
 have b2:=Int.lt_tmod_of_pos n (show 0 < m by omega)
 have b3:=Int.emod_nonneg n hz
 have b4:=Int.emod_lt_of_pos n (show 0 < m by omega)
 have e0:=@Int.tmod_eq_emod n m
 by_cases hk:n.tmod m < 0
 ·have e1:n.tmod m+m=n%m:=by split at e0<;>omega
  have E1:=Lib.hid e1
  clear e1 e0 b3 b4
  go_enter Try.func6,Try.ntmps6
  go_wp2
  go_ret
  exact⟨by rw[←E1.out];rfl,rfl⟩
 ·have e1:n.tmod m=n%m:=by split at e0<;>omega
  have E1:=Lib.hid e1
  clear e1 e0 b3 b4
  go_enter Try.func6,Try.ntmps6
  go_wp2
  go_ret
  exact⟨by rw[←E1.out];rfl,rfl⟩
end Go.Proofs.Ytbklidpadffpgaa
