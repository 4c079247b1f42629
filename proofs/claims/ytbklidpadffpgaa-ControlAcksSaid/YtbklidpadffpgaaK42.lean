/- The contracts of prop.fixed and prop.size: how many bytes a property has. Condition: its strings are no longer than a string may be. -/
import Derived.Test.YtbklidpadffpgaaK41
import Derived.Test.YtbklidpadffpgaaK15
set_option maxHeartbeats 1000000
namespace Go.Proofs.Ytbklidpadffpgaa
open Go.RowKit
def qvy9(s n:Nat):Nat:=if s=1 then 1 else if s=2∨s=5∨s=6 then 2 else if s=3∨s=7 then 4 else sz n
theorem qrv6(s n:Nat):qvy9 s n≤4:=by
 unfold qvy9 sz
 repeat (first | omega | split)
theorem q65n(s n:Nat)(w:World)(hs:s < 100)(hn:n < 4294967296) :
 Calls Try.prog 41 #[.int .i64 s,.int .u32 n] w fun e w'=>e = .returned (.int .i64 ((qvy9 s n:Nat):Int))∧w=w':=by
 unfold qvy9
 by_cases s1:s=1
 ·subst s1
  go_enter Try.func41,Try.ntmps41
  go_wp2
  go_ret
  exact⟨rfl,rfl⟩
 by_cases s2:s=2
 ·subst s2
  go_enter Try.func41,Try.ntmps41
  go_wp2
  go_ret
  exact⟨rfl,rfl⟩
 by_cases s5:s=5
 ·subst s5
  go_enter Try.func41,Try.ntmps41
  go_wp2
  go_ret
  exact⟨rfl,rfl⟩
 by_cases s6:s=6
 ·subst s6
  go_enter Try.func41,Try.ntmps41
  go_wp2
  go_ret
  exact⟨rfl,rfl⟩
 by_cases s3:s=3
 ·subst s3
  go_enter Try.func41,Try.ntmps41
  go_wp2
  go_ret
  exact⟨rfl,rfl⟩
 by_cases s7:s=7
 ·subst s7
  go_enter Try.func41,Try.ntmps41
  go_wp2
  go_ret
  exact⟨rfl,rfl⟩
 rw[if_neg s1,if_neg (by omega),if_neg (by omega)]
 have g1:((s:Int)==1)=false:=by simp;omega
 have g2:((s:Int)==2)=false:=by simp;omega
 have g3:((s:Int)==3)=false:=by simp;omega
 have g5:((s:Int)==5)=false:=by simp;omega
 have g6:((s:Int)==6)=false:=by simp;omega
 have g7:((s:Int)==7)=false:=by simp;omega
 have SZ:=Lib.hid (fun W=>qk0d (n:Int) W)
 have hw:IntKind.i64.wrap (n:Int)=(n:Int):=by simp only[IntKind.wrap_i64];omega
 clear hn s1 s2 s3 s5 s6 s7
 go_enter Try.func41,Try.ntmps41
 go_wp2_with fail
 refine(SZ.out _).mono ?_
 rintro e w' ⟨rfl,rfl⟩
 go_wp2_with fail
 go_ret
 exact⟨rfl,rfl⟩
def qboz(s:Nat)(p:Pr):Nat:=1+qvy9 s p.n+p.text.length+p.value.length
theorem qytc(s:Nat)(p:Pr)(w:World)(hs:s < 100)(hn:p.n < 4294967296)(h1:p.text.length≤70000)(h2:p.value.length≤70000) :
 Calls Try.prog 37 #[.int .i64 s,qbhk p] w fun e w'=>e = .returned (.int .i64 ((qboz s p:Nat):Int))∧Below w.heap.size w w':=by
 have FX:=fun W=>q65n s p.n W hs hn
 have hf:=qrv6 s p.n
 unfold qboz
 have M:=Lib.hid (qrxu.made w p)
 have hB:Below w.heap.size w (w.alloc (.cells #[.int .i64 p.id,.int .u32 p.n,.string (bs p.text),.string (bs p.value)] 62)):=(Below.refl _ _).alloc (Nat.le_refl _) _
 have HB:=Lib.hid (fun n=>qnpu hB n)
 have c1:=M.out.c1
 have c2:=M.out.c2
 have c3:=M.out.c3
 have z1:=q5zk p.text
 have z2:=q5zk p.value
 generalize qvy9 s p.n=f at *
 obtain⟨a,ha⟩:∃a:Int,((p.text.length:Nat):Int)=a:=⟨_,rfl⟩
 obtain⟨b,hb⟩:∃a:Int,((p.value.length:Nat):Int)=a:=⟨_,rfl⟩
 have l1:((bs p.text).size:Int)=a:=by rw[z1];exact ha
 have l2:((bs p.value).size:Int)=b:=by rw[z2];exact hb
 have hr:((1+f+p.text.length+p.value.length:Nat):Int)=1+(f:Int)+a+b:=by omega
 rw[hr]
 have a0:0≤a:=by omega
 have a1:a≤70000:=by omega
 have b0:0≤b:=by omega
 have b1:b≤70000:=by omega
 obtain⟨f',hf'⟩:∃a:Int,(f:Int)=a:=⟨_,rfl⟩
 rw[hf'] at FX
 rw[hf']
 have f0:0≤f':=by omega
 have f1:f'≤4:=by omega
 clear ha hb z1 z2 hr h1 h2 hf hf' hB hn
 have w1:IntKind.i64.wrap (1+f')=1+f':=by simp only[IntKind.wrap_i64];omega
 have w2:IntKind.i64.wrap (1+f'+a)=1+f'+a:=by simp only[IntKind.wrap_i64];omega
 have w3:IntKind.i64.wrap (1+f'+a+b)=1+f'+a+b:=by simp only[IntKind.wrap_i64];omega
 have QF:∀n,Calls Try.prog 41 #[.int .i64 s,.int .u32 p.n] ((w.alloc (.cells #[.int .i64 p.id,.int .u32 p.n,.string (bs p.text),.string (bs p.value)] 62)).drewN n) fun e w'=>e = .returned (.int .i64 f')∧∃m,w'=(w.alloc (.cells #[.int .i64 p.id,.int .u32 p.n,.string (bs p.text),.string (bs p.value)] 62)).drewN m:=fun n=>(FX _).mono fun _ _ h=>⟨h.1,n,h.2.symm⟩
 have QF1:=Lib.hid QF
 clear QF FX
 unfold qbhk
 go_enter Try.func37,Try.ntmps37
 go_wp2_with fail
 go_quiet (first | (go_at_call 41;exact QF1.out _))
 go_wp2_with fail
 go_ret
 exact⟨rfl,HB.out _⟩
theorem qttn{kind:Int}{p:Pr}(h:qr4y kind p=0):qboz (qwgc p.id) p=(oneP p).length∧p.text.length≤65535∧p.value.length≤65535∧(oneP p).length≤131075:=by
 obtain⟨hm,h4,h5⟩:=qo1o h
 obtain⟨r1,r2,f1,f2,f3,f4,_⟩:=qznl hm
 have key:qboz (qwgc p.id) p=(oneP p).length∧p.text.length≤65535∧p.value.length≤65535:=by
  rw[qnrl]
  unfold qboz qvy9 qgdb
  by_cases s4:qwgc p.id≤4
  ·obtain⟨e1,e2,_,hn⟩:=h4 s4
   rw[e1,e2]
   have:qwgc p.id=1∨qwgc p.id=2∨qwgc p.id=3∨qwgc p.id=4:=by omega
   rcases this with h | h | h | h<;>rw[h]<;>simp[q0rl,q8sw]<;>omega
  ·obtain⟨e1,hv7,hv6,hvt⟩:=h5 (by omega)
   have:qwgc p.id=5∨qwgc p.id=6∨qwgc p.id=7:=by omega
   rcases this with h | h | h
   ·have e2:=hv7 (by omega)
    have l1:=((qbv6 _).1 (hvt (by omega)).1).1
    rw[h,e2];simp[qnp6];omega
   ·have e2:=hv7 (by omega)
    have l1:=hv6 h
    rw[h,e2];simp[qnp6];omega
   ·have l1:=((qbv6 _).1 (hvt (by omega)).1).1
    have l2:=((qbv6 _).1 (hvt (by omega)).2).1
    rw[h];simp[qnp6];omega
 refine⟨key.1,key.2.1,key.2.2,?_⟩
 rw[←key.1]
 unfold qboz
 have:=qrv6 (qwgc p.id) p.n
 omega
theorem q2ss(kind:Int)(pre:List Pr)(p:Pr)(l:List Pr):q09m kind pre (p::l)=if qx3j kind pre p≠0 then qx3j kind pre p else q09m kind (pre++[p]) l:=by
 rw[q09m]
 unfold qx3j
 by_cases h:qr4y kind p≠0
 ·rw[if_pos h,if_pos h,if_pos h]
 ·rw[if_neg h,if_neg h]
  by_cases h2:qxv1 kind pre p.id=true
  ·rw[if_pos h2,if_pos h2];rfl
  ·rw[if_neg h2,if_neg h2];rfl
theorem qbq1{kind:Int}{pre:List Pr}{p:Pr}(h:qx3j kind pre p=0):qr4y kind p=0:=by
 unfold qx3j at h
 by_cases hc:qr4y kind p=0
 ·exact hc
 ·rw[if_pos hc] at h;exact h
theorem TalL.lt{W:World}{b mb:Nat}{kind:Int}{l:List Pr}(h:TalL W b mb kind l):b < W.heap.size∧mb < W.heap.size:=by obtain⟨s,h1,_⟩:=h;exact⟨h1.lt,h1.mlt⟩
theorem TalL.below{W W':World}{b mb:Nat}{kind:Int}{l:List Pr}(h:TalL W b mb kind l)(hb:Below W.heap.size W W'):TalL W' b mb kind l:=by obtain⟨s,h1,h2⟩:=h;exact⟨s,h1.below hb h1.lt h1.mlt,h2⟩
theorem TalL.alloc{W:World}{b mb:Nat}{kind:Int}{l:List Pr}(h:TalL W b mb kind l)(o:Obj):TalL (W.alloc o) b mb kind l:=h.below ((Below.refl _ _).alloc (Nat.le_refl _) _)
theorem TalL.draws{W:World}{b mb:Nat}{kind:Int}{l:List Pr}(h:TalL W b mb kind l)(n:Nat):TalL (W.drewN n) b mb kind l:=h
def MeS(w:World)(b mb v:Nat)(kind:Int)(p:Pr)(pre:List Pr)(W:World):Prop:=
 W.cell? ⟨v,0,none⟩=some (.int .i64 p.id)∧W.cell? ⟨v,1,none⟩=some (.int .u32 p.n)∧W.cell? ⟨v,2,none⟩=some (.string (bs p.text))∧W.cell? ⟨v,3,none⟩=some (.string (bs p.value))∧
 W.cell? ⟨b,1,none⟩=some (.map (some mb))∧
 (Instr.lookup 66 (.map (some mb)) (.int .i64 p.id) false).run Try.prog W = .ok (q3al (qwgc p.id) (qavf p.id) (prow p.id).least) W∧
 (qrxu W v p∧TalL W b mb kind pre∧w.grownBy W (some b))
theorem MeS.mk{w W:World}{b mb v:Nat}{kind:Int}{p:Pr}{pre:List Pr}(ok:PrOk p)(h1:qrxu W v p)(h2:TalL W b mb kind pre)(h3:w.grownBy W (some b)):MeS w b mb v kind p pre W:=by
 obtain⟨s,t1,t2⟩:=h2
 exact⟨h1.c0,h1.c1,h1.c2,h1.c3,t1.c1,t1.2.look ok.lo ok.hi,h1,⟨s,t1,t2⟩,h3⟩
theorem MeS.call{w W W':World}{b mb v:Nat}{kind:Int}{p:Pr}{pre:List Pr}(ok:PrOk p)(h:MeS w b mb v kind p pre W)(hb:Below W.heap.size W W'):MeS w b mb v kind p pre W':=by
 obtain⟨_,_,_,_,_,_,h1,h2,h3⟩:=h
 exact MeS.mk ok (h1.below hb h1.lt) (h2.below hb) (qo6d h3 (q9cp hb _))
theorem MeS.drew{w W:World}{b mb v:Nat}{kind:Int}{p:Pr}{pre:List Pr}(ok:PrOk p)(h:MeS w b mb v kind p pre W):MeS w b mb v kind p pre W.drew:=by
 obtain⟨_,_,_,_,_,_,h1,h2,h3⟩:=h
 exact MeS.mk ok h1 (h2.draws 1) h3.drew'
end Go.Proofs.Ytbklidpadffpgaa
