/- A cursor and what its plain counterpart says: Take, Number, Left, Fail, Err. Condition: the bytes are no more than an int says. -/
import Derived.Test.YtbklidpadffpgaaGreatK45
import Derived.Test.YtbklidpadffpgaaGreatK13
import Derived.Test.YtbklidpadffpgaaGreatK47
import Derived.Test.YtbklidpadffpgaaGreatK17
import Derived.Test.YtbklidpadffpgaaGreatK38
namespace Go.Proofs.YtbklidpadffpgaaGreat
open Go.RowKit
def CsAt(W:World)(cb:Nat)(s:ByteArray)(x:Cs):Prop:=∃i,i≤s.size∧Cur W cb s i (x.e:Nat)∧s.data.toList.drop i=x.r
section
variable{w W W':World}{cb:Nat}{s:ByteArray}{x:Cs}
theorem CsAt.lt(h:CsAt W cb s x):cb < W.heap.size:=by obtain⟨i,_,hc,_⟩:=h;exact hc.lt
theorem CsAt.of_block(h:CsAt W cb s x)(hb:W'.heap[cb]? = W.heap[cb]?):CsAt W' cb s x:=by obtain⟨i,hi,hc,hr⟩:=h;exact⟨i,hi,hc.of_block hb,hr⟩
theorem CsAt.alloc(h:CsAt W cb s x)(o:Obj):CsAt (W.alloc o) cb s x:=h.of_block (heap_alloc_old _ _ h.lt)
theorem CsAt.below(h:CsAt W cb s x)(hb:Below W.heap.size W W'):CsAt W' cb s x:=h.of_block (hb.block cb h.lt)
theorem CsAt.draws(h:CsAt W cb s x)(n:Nat):CsAt (W.drewN n) cb s x:=h
theorem CsAt.len(h:CsAt W cb s x):x.r.length≤s.size:=by
 obtain⟨i,hi,_,hr⟩:=h
 rw[←hr,List.length_drop,←q4ad];omega
theorem q31q(s:ByteArray)(i n:Nat):s.extract i (i+n)=bs ((s.data.toList.drop i).take n):=by
 apply ByteArray.ext
 apply Array.ext'
 simp[bs,List.extract_eq_take_drop]
theorem q8yf(n:Nat)(hn8:n≤8)(hm:s.size≤9223372036854775807)(h:CsAt w cb s x) :
 Calls Tryz.prog 46 #[.pointer (some ⟨cb,0,none⟩),.int .i64 n] w fun e w'=>e = .returned (.int .u64 ((x.num n).1:Nat))∧CsAt w' cb s (x.num n).2∧w.grownBy w' (some cb):=by
 obtain⟨i,hi,hc,hr⟩:=h
 have hl:x.r.length=s.size - i:=by rw[←hr,List.length_drop,←q4ad]
 unfold Cs.num Cs.take
 by_cases he:x.e=0
 ·rw[if_neg (by simpa using he)]
  rw[he] at hc
  by_cases hn:x.r.length < n
  ·rw[if_pos hn]
   refine(q6bm (n:Int) hc hi hm (by omega)).mono fun e w' ⟨h1,h2,h3⟩=>⟨h1,⟨i,hi,h2,hr⟩,h3⟩
  ·rw[if_neg hn]
   refine(qvi6 n hc (by omega) hm).mono fun e w' ⟨h1,h2,h3⟩=>⟨?_,⟨i+n,by omega,h2,?_⟩,h3⟩
   ·rw[h1,qelx s i n (by omega) hn8,hr]
   ·rw[←hr,List.drop_drop]
 ·rw[if_pos he]
  refine(qgl9 (n:Int) hc (by simp;omega)).mono fun e w' ⟨h1,h2⟩=>⟨h1,h2▸⟨i,hi,hc,hr⟩,h2▸World.grownBy.refl _ _⟩
theorem qjtm(hm:s.size≤9223372036854775807)(h:CsAt w cb s x) :
 Calls Tryz.prog 45 #[.pointer (some ⟨cb,0,none⟩)] w fun e w'=>e = .returned (.int .i64 (x.r.length:Nat))∧∃n,w'=w.drewN n:=by
 obtain⟨i,hi,hc,hr⟩:=h
 have hl:x.r.length=s.size - i:=by rw[←hr,List.length_drop,←q4ad]
 rw[hl]
 exact qog8 hc hi hm
theorem qzrp(hm:s.size≤9223372036854775807)(h:CsAt w cb s x) :
 Calls Tryz.prog 48 #[.pointer (some ⟨cb,0,none⟩)] w fun e w'=>e = .returned (.string (bs x.r))∧∃n,w'=w.drewN n:=by
 obtain⟨i,hi,hc,hr⟩:=h
 have e:s.extract i s.size=bs x.r:=by
  have h1:=q31q s i (s.size - i)
  rw[show i+(s.size - i)=s.size by omega,hr] at h1
  rw[h1,List.take_of_length_le]
  rw[←hr,List.length_drop,←q4ad];exact Nat.le_refl _
 rw[←e]
 exact qdvc hc hi hm
theorem qazj(f:Nat)(h:CsAt w cb s x) :
 Calls Tryz.prog 49 #[.pointer (some ⟨cb,0,none⟩),.int .i64 (f:Nat)] w fun e w'=>e = .returned (.tuple #[])∧CsAt w' cb s (x.fail f)∧w.grownBy w' (some cb):=by
 obtain⟨i,hi,hc,hr⟩:=h
 unfold Cs.fail
 by_cases he:x.e=0
 ·rw[if_neg (by simpa using he)]
  rw[he] at hc
  exact(qxdm (f:Int) hc).mono fun e w' ⟨h1,h2,h3⟩=>⟨h1,⟨i,hi,h2,hr⟩,h3⟩
 ·rw[if_pos he]
  exact(fail_no (f:Int) hc (by simp;omega)).mono fun e w' ⟨h1,h2⟩=>⟨h1,h2▸⟨i,hi,hc,hr⟩,h2▸World.grownBy.refl _ _⟩
theorem q3gp(h:CsAt w cb s x) :
 Calls Tryz.prog 50 #[.pointer (some ⟨cb,0,none⟩)] w fun e w'=>e = .returned (.int .i64 (x.e:Nat))∧w=w':=by
 obtain⟨i,hi,hc,hr⟩:=h
 exact q29p hc
end
structure KcS(w:World)(cb:Nat)(s:ByteArray)(B:Nat)(y:Cs)(P:Pk)(a:Ad)(W:World):Prop where
 low:Below w.heap.size w W
 rs:W.heap[w.heap.size]? = some (.cells pkZ 35 (0,0))
 lt:w.heap.size < cb
 hB:cb < B
 pk:W.heap[B]? = some (.cells (pkC P a) 35 (0,0))
 cs:CsAt W cb s y
 ps:PL W a.ps P.props
 pc:P.props.length≤a.pc
 pf:∀g i,a.ps=some ⟨g,i,none⟩→B < g
section
variable{w W W':World}{cb:Nat}{s:ByteArray}{x y y':Cs}{B:Nat}{P P':Pk}{a a':Ad}
theorem KcS.call(h:KcS w cb s B y P a W)(hc:CsAt W' cb s y')(hg:W.grownBy W' (some cb)):KcS w cb s B y' P a W':=by
 have lt:=h.lt
 have hB:=h.hB
 exact⟨h.low.grown hg h.low.size (fun k e=>by have:=Option.some.inj e;omega),(hg.block _ (lt_of_block h.rs) (fun e=>by have:=Option.some.inj e;omega)).trans h.rs,lt,hB,
  (hg.block _ (lt_of_block h.pk) (fun e=>by have:=Option.some.inj e;omega)).trans h.pk,hc,h.ps.grown hg (fun g i e=>by have:=h.pf g i e;omega),h.pc,h.pf⟩
theorem KcS.below(h:KcS w cb s B y P a W)(hb:Below W.heap.size W W'):KcS w cb s B y P a W':=h.call (h.cs.below hb) (q9cp hb _)
theorem KcS.draws(h:KcS w cb s B y P a W)(n:Nat):KcS w cb s B y P a (W.drewN n):=h.below (qnpu (Below.refl _ _) n)
theorem KcS.cell(h:KcS w cb s B y P a W)(j:Nat):W.cell? ⟨B,j,none⟩=(pkC P a)[j]? := cell_of_row _ _ j _ _ _ h.pk
theorem KcS.fr(h:KcS w cb s B y P a W)(j:Nat):W.frozen? ⟨B,j,none⟩=false:=frozen_of_row _ _ _ _ _ h.pk
theorem KcS.set(h:KcS w cb s B y P a W)(j:Nat)(u:Value)(he:(pkC P a).setIfInBounds j u=pkC P' a')(ps:PL W a'.ps P'.props)(pc:P'.props.length≤a'.pc)(pf:∀g i,a'.ps=some ⟨g,i,none⟩→B < g):KcS w cb s B y P' a' (W.setCell ⟨B,j,none⟩ u):=by
 have o:∀k,k≠B→(W.setCell ⟨B,j,none⟩ u).heap[k]? = W.heap[k]? := fun k hk=>heap_setCell_other W ⟨B,j,none⟩ k u hk
 have lt:=h.lt
 have hB:=h.hB
 exact⟨h.low.setCell (by show _≤B;omega) u,(o _ (by omega)).trans h.rs,lt,hB,by have:=qlvy h.pk j u;rw[he] at this;exact this,h.cs.of_block (o _ (by omega)),
  ps.kept (q99v W B j u).size (fun g i e _=>o g (by have:=pf g i e;omega)),pc,pf⟩
theorem KcS.laid(low:Below w.heap.size w W)(rs:W.heap[w.heap.size]? = some (.cells pkZ 35 (0,0)))(lt:w.heap.size < cb)(cs:CsAt W cb s y){D:Array Value}(hD:pkC P adZ=D)(hp:P.props=[]):KcS w cb s W.heap.size y P adZ ((W.alloc (.cells pkZ 35)).setRow W.heap.size D):=by
 have hb:Below W.heap.size W ((W.alloc (.cells pkZ 35)).setRow W.heap.size D):=q8xz (qybm _) (Nat.le_refl _) D
 refine⟨qxh2 low hb,(hb.block _ (lt_of_block rs)).trans rs,lt,cs.lt,by rw[hD];exact setRow_heap _ _ _ D _ _ (heap_alloc_new W _),cs.below hb,?_,by rw[hp];exact Nat.zero_le _,fun g i e=>(by cases e)⟩
 rw[hp];exact PL.nil
end
end Go.Proofs.YtbklidpadffpgaaGreat
