/- The contracts of subscribe's known, asks, bare, bits and bit. Condition: none. -/
import Derived.Test.YtbecggefmbpnoaaGreatDoorK02
import Derived.Test.YtbecggefmbpnoaaGreatDoorK04
namespace Go.Proofs.YtbecggefmbpnoaaGreatDoor
open Go.RowKit
theorem q7hd(v k:Int)(w:World):Calls Tryz.prog 35 #[.int .i64 v,.int .i64 k] w fun e w'=>e = .returned (.bool (versC v&&qfws k))∧w=w':=by
 unfold versC qfws
 have hv:v=4∨v=5∨((v==4)=false∧(v==5)=false):=by
  by_cases h4:v=4
  ·exact .inl h4
  by_cases h5:v=5
  ·exact .inr (.inl h5)
  exact .inr (.inr ⟨beq_eq_false_iff_ne.2 h4,beq_eq_false_iff_ne.2 h5⟩)
 have hk:decide (8≤k)=true∨decide (8≤k)=false:=by cases decide (8≤k)<;>simp
 rcases hv with rfl | rfl | ⟨h4,h5⟩
 ·rcases hk with k1 | k1
  all_goals
   rw[k1]
   go_enter Tryz.func35,Tryz.ntmps35
   go_wp2
   go_ret
   exact⟨by first | rfl | simp,rfl⟩
 ·rcases hk with k1 | k1
  all_goals
   rw[k1]
   go_enter Tryz.func35,Tryz.ntmps35
   go_wp2
   go_ret
   exact⟨by first | rfl | simp,rfl⟩
 ·rw[h4,h5]
  go_enter Tryz.func35,Tryz.ntmps35
  go_wp2
  go_ret
  exact⟨by first | rfl | simp,rfl⟩
theorem qczm(k:Int)(w:World):Calls Tryz.prog 44 #[.int .i64 k] w fun e w'=>e = .returned (.bool (qsfj k))∧w=w':=by
 unfold qsfj
 have hk:(k==8)=true∨(k==8)=false:=by cases (k==8)<;>simp
 rcases hk with k1 | k1
 all_goals
  rw[k1]
  go_enter Tryz.func44,Tryz.ntmps44
  go_wp2
  go_ret
  exact⟨by first | rfl | simp,rfl⟩
def qojk(v k:Int):Bool:=v==4&&k==11
theorem q1kd(v k:Int)(w:World):Calls Tryz.prog 45 #[.int .i64 v,.int .i64 k] w fun e w'=>e = .returned (.bool (qojk v k))∧w=w':=by
 unfold qojk
 have hk:(v==4)=true∨(v==4)=false:=by cases (v==4)<;>simp
 rcases hk with k1 | k1
 all_goals
  rw[k1]
  go_enter Tryz.func45,Tryz.ntmps45
  go_wp2
  go_ret
  exact⟨by first | rfl | simp,rfl⟩
def qyb2(v:Int):Nat:=if v=4 then 3 else 63
theorem qqd6(v:Int)(w:World):Calls Tryz.prog 135 #[.int .i64 v] w fun e w'=>e = .returned (.int .i64 (qyb2 v:Nat))∧w=w':=by
 unfold qyb2
 by_cases h:v=4
 ·subst h
  go_enter Tryz.func135,Tryz.ntmps135
  go_wp2
  go_ret
  exact⟨rfl,rfl⟩
 ·rw[if_neg h]
  have h':(v==4)=false:=beq_eq_false_iff_ne.2 h
  clear h
  go_enter Tryz.func135,Tryz.ntmps135
  go_wp2
  go_ret
  exact⟨rfl,rfl⟩
theorem q6cn(b:Bool)(k:Nat)(w:World):Calls Tryz.prog 43 #[.bool b,.int .i64 (k:Nat)] w fun e w'=>e = .returned (.int .i64 (bitC b k:Nat))∧w=w':=by
 unfold bitC
 cases b
 all_goals
  go_enter Tryz.func43,Tryz.ntmps43
  go_wp2
  go_ret
  exact⟨rfl,rfl⟩
end Go.Proofs.YtbecggefmbpnoaaGreatDoor
