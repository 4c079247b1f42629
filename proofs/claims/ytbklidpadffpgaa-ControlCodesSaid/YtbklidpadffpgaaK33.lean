/- The document's lists of codes (polyglotref06.All). Condition: none. -/
import Derived.Test.YtbklidpadffpgaaK32
set_option maxRecDepth 100000
set_option maxHeartbeats 1000000
namespace Go.Proofs.Ytbklidpadffpgaa
open Go.RowKit
theorem qhlg(w:World):Calls Try.prog 14 #[.int .i64 4] w fun e w'=>∃v,e = .returned v∧w'.ownsRow w.heap.size 3 1 v (qedv 2).length ((qedv 2).map iv)∧Below w.heap.size w w':=by
 have HO:=Lib.hid (qwz9 w w.heap.size 9 [0,16,128,131,135,144,145,151,153] #[.int .i64 0,.int .i64 16,.int .i64 128,.int .i64 131,.int .i64 135,.int .i64 144,.int .i64 145,.int .i64 151,.int .i64 153] (Nat.le_refl _) rfl (by decide) rfl)
 have HL:=Lib.hid (show Below w.heap.size w (w.alloc (.cells #[.int .i64 0,.int .i64 16,.int .i64 128,.int .i64 131,.int .i64 135,.int .i64 144,.int .i64 145,.int .i64 151,.int .i64 153] 3)) from(Below.refl _ _).alloc (Nat.le_refl _) _)
 go_enter Try.func14,Try.ntmps14
 go_wp2_with fail
 go_ret
 exact⟨_,rfl,HO.out,HL.out⟩
theorem qrap(w:World):Calls Try.prog 14 #[.int .i64 5] w fun e w'=>∃v,e = .returned v∧w'.ownsRow w.heap.size 3 1 v (qedv 2).length ((qedv 2).map iv)∧Below w.heap.size w w':=by
 have HO:=Lib.hid (qwz9 w w.heap.size 9 [0,16,128,131,135,144,145,151,153] #[.int .i64 0,.int .i64 16,.int .i64 128,.int .i64 131,.int .i64 135,.int .i64 144,.int .i64 145,.int .i64 151,.int .i64 153] (Nat.le_refl _) rfl (by decide) rfl)
 have HL:=Lib.hid (show Below w.heap.size w (w.alloc (.cells #[.int .i64 0,.int .i64 16,.int .i64 128,.int .i64 131,.int .i64 135,.int .i64 144,.int .i64 145,.int .i64 151,.int .i64 153] 3)) from(Below.refl _ _).alloc (Nat.le_refl _) _)
 go_enter Try.func14,Try.ntmps14
 go_wp2_with fail
 go_ret
 exact⟨_,rfl,HO.out,HL.out⟩
theorem qhmc(w:World):Calls Try.prog 14 #[.int .i64 6] w fun e w'=>∃v,e = .returned v∧w'.ownsRow w.heap.size 3 1 v (qedv 3).length ((qedv 3).map iv)∧Below w.heap.size w w':=by
 have HO:=Lib.hid (qwz9 w w.heap.size 2 [0,146] #[.int .i64 0,.int .i64 146] (Nat.le_refl _) rfl (by decide) rfl)
 have HL:=Lib.hid (show Below w.heap.size w (w.alloc (.cells #[.int .i64 0,.int .i64 146] 3)) from(Below.refl _ _).alloc (Nat.le_refl _) _)
 go_enter Try.func14,Try.ntmps14
 go_wp2_with fail
 go_ret
 exact⟨_,rfl,HO.out,HL.out⟩
theorem q7yj(w:World):Calls Try.prog 14 #[.int .i64 7] w fun e w'=>∃v,e = .returned v∧w'.ownsRow w.heap.size 3 1 v (qedv 3).length ((qedv 3).map iv)∧Below w.heap.size w w':=by
 have HO:=Lib.hid (qwz9 w w.heap.size 2 [0,146] #[.int .i64 0,.int .i64 146] (Nat.le_refl _) rfl (by decide) rfl)
 have HL:=Lib.hid (show Below w.heap.size w (w.alloc (.cells #[.int .i64 0,.int .i64 146] 3)) from(Below.refl _ _).alloc (Nat.le_refl _) _)
 go_enter Try.func14,Try.ntmps14
 go_wp2_with fail
 go_ret
 exact⟨_,rfl,HO.out,HL.out⟩
theorem qow2(w:World):Calls Try.prog 14 #[.int .i64 9] w fun e w'=>∃v,e = .returned v∧w'.ownsRow w.heap.size 3 1 v (qedv 4).length ((qedv 4).map iv)∧Below w.heap.size w w':=by
 have HO:=Lib.hid (qwz9 w w.heap.size 12 [0,1,2,128,131,135,143,145,151,158,161,162] #[.int .i64 0,.int .i64 1,.int .i64 2,.int .i64 128,.int .i64 131,.int .i64 135,.int .i64 143,.int .i64 145,.int .i64 151,.int .i64 158,.int .i64 161,.int .i64 162] (Nat.le_refl _) rfl (by decide) rfl)
 have HL:=Lib.hid (show Below w.heap.size w (w.alloc (.cells #[.int .i64 0,.int .i64 1,.int .i64 2,.int .i64 128,.int .i64 131,.int .i64 135,.int .i64 143,.int .i64 145,.int .i64 151,.int .i64 158,.int .i64 161,.int .i64 162] 3)) from(Below.refl _ _).alloc (Nat.le_refl _) _)
 go_enter Try.func14,Try.ntmps14
 go_wp2_with fail
 go_ret
 exact⟨_,rfl,HO.out,HL.out⟩
theorem qljn(w:World):Calls Try.prog 14 #[.int .i64 11] w fun e w'=>∃v,e = .returned v∧w'.ownsRow w.heap.size 3 1 v (qedv 5).length ((qedv 5).map iv)∧Below w.heap.size w w':=by
 have HO:=Lib.hid (qwz9 w w.heap.size 7 [0,17,128,131,135,143,145] #[.int .i64 0,.int .i64 17,.int .i64 128,.int .i64 131,.int .i64 135,.int .i64 143,.int .i64 145] (Nat.le_refl _) rfl (by decide) rfl)
 have HL:=Lib.hid (show Below w.heap.size w (w.alloc (.cells #[.int .i64 0,.int .i64 17,.int .i64 128,.int .i64 131,.int .i64 135,.int .i64 143,.int .i64 145] 3)) from(Below.refl _ _).alloc (Nat.le_refl _) _)
 go_enter Try.func14,Try.ntmps14
 go_wp2_with fail
 go_ret
 exact⟨_,rfl,HO.out,HL.out⟩
theorem qkxj(w:World):Calls Try.prog 14 #[.int .i64 15] w fun e w'=>∃v,e = .returned v∧w'.ownsRow w.heap.size 3 1 v (qedv 7).length ((qedv 7).map iv)∧Below w.heap.size w w':=by
 have HO:=Lib.hid (qwz9 w w.heap.size 3 [0,24,25] #[.int .i64 0,.int .i64 24,.int .i64 25] (Nat.le_refl _) rfl (by decide) rfl)
 have HL:=Lib.hid (show Below w.heap.size w (w.alloc (.cells #[.int .i64 0,.int .i64 24,.int .i64 25] 3)) from(Below.refl _ _).alloc (Nat.le_refl _) _)
 go_enter Try.func14,Try.ntmps14
 go_wp2_with fail
 go_ret
 exact⟨_,rfl,HO.out,HL.out⟩
theorem qs4u(W:World)(l:List Value)(t:TypeId):∀j u,l[j]? = some u→(W.alloc (.cells l.toArray t)).cell? ((⟨W.heap.size,0,none⟩:Addr).add j)=some u:=fun j u h=>by
 have hadd:(⟨W.heap.size,0,none⟩:Addr).add j=⟨W.heap.size,j,none⟩:=by unfold Addr.add;split<;>simp_all
 rw[hadd,World.cell?_alloc_at _ _ _ _ rfl]
 simpa using h
theorem qoeu(w:World):Calls Try.prog 14 #[.int .i64 2] w fun e w'=>∃v,e = .returned v∧w'.ownsRow w.heap.size 3 1 v (qedv 1).length ((qedv 1).map iv)∧Below w.heap.size w w':=by
 obtain⟨i0,hi,hz0,hz1,hz2⟩:=info_parts qfwd
 have HO:=Lib.hid (qwz9 w w.heap.size 1 [0] #[.int .i64 0] (Nat.le_refl _) rfl (by decide) rfl)
 have HL0:=Lib.hid (show Below w.heap.size w (w.alloc (.cells #[.int .i64 0] 3)) from(Below.refl _ _).alloc (Nat.le_refl _) _)
 go_enter Try.func14,Try.ntmps14
 go_wp2_with fail
 refine(qa73 w.heap.size _ [0] 1 128 11 138 _ (by simp) rfl HO.out (by decide) (by decide) (by decide)).mono ?_
 rintro e w1 ⟨v1,rfl,ho1,hb⟩
 have HL1:=Lib.hid (HL0.out.trans hb)
 have hs1:=HL1.out.size
 clear hb HO HL0
 go_wp2_with (at_builtin;refine wpList_append_own _ rfl _ _ 27 rfl w.heap.size 3 i0 (.int .i64 0) 1 8 Try.underlying27 hi hz0 hz1 hz2 rfl (by decide) _ _ _ rfl (ho1.alloc _) ⟨w1.heap.size,0,none⟩ 4 4 [.int .i64 140,.int .i64 144,.int .i64 149,.int .i64 151] rfl rfl ?c1 ?c2 ?c3 ?c4 ?c5 ?_)
 case c1=>exact qs4u _ _ _
 case c2=>decide
 case c3=>unfold maxLen;omega
 case c4=>omega
 case c5=>simp only[World.size_alloc];omega
 intro v2 w2 ho2 hg2 _
 have HL2:=Lib.hid (HL1.out.trans (qrw1 (by omega) ho1 _ hg2))
 have hs2:=HL2.out.size
 clear hg2
 have ho2':=Lib.hid (show w2.ownsRow w.heap.size 3 1 v2 16 (([0,128,129,130,131,132,133,134,135,136,137,138,140,144,149,151]:List Nat).map iv) from ho2)
 clear ho1 ho2
 go_wp2_with fail
 refine(qa73 w.heap.size _ [0,128,129,130,131,132,133,134,135,136,137,138,140,144,149,151] 16 153 5 157 _ hs2 rfl ho2'.out (by decide) (by decide) (by decide)).mono ?_
 rintro e w3 ⟨v3,rfl,ho3,hb⟩
 have HL3:=Lib.hid (HL2.out.trans hb)
 have hs3:=HL3.out.size
 clear hb ho2'
 go_wp2_with (at_builtin;refine wpList_append_own _ rfl _ _ 27 rfl w.heap.size 3 i0 (.int .i64 0) 1 8 Try.underlying27 hi hz0 hz1 hz2 rfl (by decide) _ _ _ rfl (ho3.alloc _) ⟨w3.heap.size,0,none⟩ 1 1 [.int .i64 159] rfl rfl ?c1 ?c2 ?c3 ?c4 ?c5 ?_)
 case c1=>exact qs4u _ _ _
 case c2=>decide
 case c3=>unfold maxLen;omega
 case c4=>omega
 case c5=>simp only[World.size_alloc];omega
 intro v4 w4 ho4 hg4 _
 have HL4:=Lib.hid (HL3.out.trans (qrw1 (by omega) ho3 _ hg4))
 have hs4:=HL4.out.size
 clear hg4
 have HO4:=Lib.hid ho4
 clear ho3 ho4
 go_wp2_with fail
 go_ret
 exact⟨_,rfl,HO4.out,HL4.out⟩
theorem qq1s(w:World):Calls Try.prog 14 #[.int .i64 14] w fun e w'=>∃v,e = .returned v∧w'.ownsRow w.heap.size 3 1 v (qedv 6).length ((qedv 6).map iv)∧Below w.heap.size w w':=by
 obtain⟨i0,hi,hz0,hz1,hz2⟩:=info_parts qfwd
 have HO:=Lib.hid (qwz9 w w.heap.size 2 [0,4] #[.int .i64 0,.int .i64 4] (Nat.le_refl _) rfl (by decide) rfl)
 have HL0:=Lib.hid (show Below w.heap.size w (w.alloc (.cells #[.int .i64 0,.int .i64 4] 3)) from(Below.refl _ _).alloc (Nat.le_refl _) _)
 go_enter Try.func14,Try.ntmps14
 go_wp2_with fail
 refine(qa73 w.heap.size _ [0,4] 2 128 4 131 _ (by simp) rfl HO.out (by decide) (by decide) (by decide)).mono ?_
 rintro e w1 ⟨v1,rfl,ho1,hb⟩
 have HL1:=Lib.hid (HL0.out.trans hb)
 have hs1:=HL1.out.size
 clear hb HO HL0
 go_wp2_with (at_builtin;refine wpList_append_own _ rfl _ _ 27 rfl w.heap.size 3 i0 (.int .i64 0) 1 8 Try.underlying27 hi hz0 hz1 hz2 rfl (by decide) _ _ _ rfl (ho1.alloc _) ⟨w1.heap.size,0,none⟩ 7 7 [.int .i64 135,.int .i64 137,.int .i64 139,.int .i64 141,.int .i64 142,.int .i64 143,.int .i64 144] rfl rfl ?c1 ?c2 ?c3 ?c4 ?c5 ?_)
 case c1=>exact qs4u _ _ _
 case c2=>decide
 case c3=>unfold maxLen;omega
 case c4=>omega
 case c5=>simp only[World.size_alloc];omega
 intro v2 w2 ho2 hg2 _
 have HL2:=Lib.hid (HL1.out.trans (qrw1 (by omega) ho1 _ hg2))
 have hs2:=HL2.out.size
 clear hg2
 have ho2':=Lib.hid (show w2.ownsRow w.heap.size 3 1 v2 13 (([0,4,128,129,130,131,135,137,139,141,142,143,144]:List Nat).map iv) from ho2)
 clear ho1 ho2
 go_wp2_with fail
 refine(qa73 w.heap.size _ [0,4,128,129,130,131,135,137,139,141,142,143,144] 13 147 16 162 _ hs2 rfl ho2'.out (by decide) (by decide) (by decide)).mono ?_
 rintro e w3 ⟨v3,rfl,ho3,hb⟩
 have HL3:=Lib.hid (HL2.out.trans hb)
 have hs3:=HL3.out.size
 clear hb ho2'
 have HO4:=Lib.hid ho3
 clear ho3
 go_wp2_with fail
 go_ret
 exact⟨_,rfl,HO4.out,HL3.out⟩
theorem qhce(kind:Int)(w:World)(h:grp kind=0):Calls Try.prog 14 #[.int .i64 kind] w fun e w'=>∃v,e = .returned v∧w'.ownsRow w.heap.size 3 1 v (qedv 0).length ((qedv 0).map iv)∧Below w.heap.size w w':=by
 unfold grp at h
 have a1:¬kind=2:=fun e=>by subst e;simp at h
 have a4:¬kind=4:=fun e=>by subst e;simp at h
 have a5:¬kind=5:=fun e=>by subst e;simp at h
 have a6:¬kind=6:=fun e=>by subst e;simp at h
 have a7:¬kind=7:=fun e=>by subst e;simp at h
 have a9:¬kind=9:=fun e=>by subst e;simp at h
 have a11:¬kind=11:=fun e=>by subst e;simp at h
 have a14:¬kind=14:=fun e=>by subst e;simp at h
 have a15:¬kind=15:=fun e=>by subst e;simp at h
 clear h
 go_enter Try.func14,Try.ntmps14
 go_wp2_with fail
 go_ret
 exact⟨_,rfl,World.ownsRow_nil _ _ _ _,Below.refl _ _⟩
theorem qez7(kind:Int)(w:World):Calls Try.prog 14 #[.int .i64 kind] w fun e w'=>∃v,e = .returned v∧w'.ownsRow w.heap.size 3 1 v (qedv (grp kind)).length ((qedv (grp kind)).map iv)∧Below w.heap.size w w':=by
 by_cases k2:kind=2
 ·subst k2;exact qoeu w
 by_cases k4:kind=4
 ·subst k4;exact qhlg w
 by_cases k5:kind=5
 ·subst k5;exact qrap w
 by_cases k6:kind=6
 ·subst k6;exact qhmc w
 by_cases k7:kind=7
 ·subst k7;exact q7yj w
 by_cases k9:kind=9
 ·subst k9;exact qow2 w
 by_cases k11:kind=11
 ·subst k11;exact qljn w
 by_cases k14:kind=14
 ·subst k14;exact qq1s w
 by_cases k15:kind=15
 ·subst k15;exact qkxj w
 have hg:grp kind=0:=by
  unfold grp
  simp[k2,k4,k5,k6,k7,k9,k11,k14,k15]
 rw[hg]
 exact qhce kind w hg
end Go.Proofs.Ytbklidpadffpgaa
