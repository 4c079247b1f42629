/- Plain facts: what a stream is told by its header, and by chunks. No condition. -/
import Derived.Lib.Walk
import Derived.Lib.Tables
import Derived.Test.YtefmhbioggcfaaaGreatDoorK02
namespace Go.Proofs.YtefmhbioggcfaaaGreatDoor
theorem qpw8(v:Int)(l:List UInt8):qday v (l.take 5)=qday v l:=by
 by_cases h:(qday v (l.take 5)).2.2=3
 ·have hl:l.length<5:=by
   apply Classical.byContradiction;intro hc;cases l with
   |nil=>simp at hc
   |cons b r=>
    rw[List.take_succ_cons,qr52] at h;by_cases c1:q9d8 v (q1f7 b)≠0
    ·rw[if_pos c1] at h;unfold q9d8 at h;split at h
     ·cases h
     split at h
     ·cases h
     split at h
     ·cases h
     split at h<;>cases h
    rw[if_neg c1] at h;by_cases c2:rdE (r.take 4)≠0
    ·rw[if_pos c2] at h;have hz:(run 0 0 (r.take 4)).2.2=0:=by
      unfold rdE at h;by_cases hz:(run 0 0 (r.take 4)).2.2=0
      ·exact hz
      ·simp only[if_neg hz] at h;split at h<;>cases h
     obtain⟨⟨x,y,z⟩,hx⟩:∃z,run 0 0 (r.take 4)=z:=⟨_,rfl⟩
     rw[hx] at hz;obtain rfl:z=0:=hz
     have:=qeqk (r.take 4) 0 0 x y (by decide) (by decide) hx
     rw[List.length_take] at this;rw[List.length_cons] at hc;omega
    ·rw[if_neg c2] at h;cases h
  rw[List.take_of_length_le (by omega)]
 ·have:=qivj (l.drop 5) h
  rw[List.take_append_drop] at this;exact this.symm
def qexp(v:Int)(m:Nat)(l:List UInt8):Nat:=
 if (qday v l).2.2=0/\((qday v l).2.1:Int)+(qday v l).1.length<=(m:Int) then(qday v l).2.1+(qday v l).1.length.toNat else 0
theorem qvu1(v:Int)(m:Nat)(l:List UInt8):qexp v m l<=m:=by
 unfold qexp;split
 ·rename_i h;obtain⟨_,_,h3⟩:=qajd h.1;omega
 ·exact Nat.zero_le _
theorem qrm4{v:Int}{m:Nat}{l:List UInt8}(h:qexp v m l=0):¬((qday v l).2.2=0/\((qday v l).2.1:Int)+(qday v l).1.length<=(m:Int)):=fun hc=>by
 unfold qexp at h;rw[if_pos hc] at h
 have:=qajd hc.1
 omega
theorem qelz{v:Int}{m:Nat}{l:List UInt8}(h:qexp v m l≠0):(qday v l).2.2=0/\((qday v l).2.1:Int)+(qday v l).1.length<=(m:Int)/\qexp v m l=(qday v l).2.1+(qday v l).1.length.toNat/\q7ku v m l=qyib v l:=by
 unfold qexp at h ⊢;split at h
 ·rename_i hc;rw[if_pos hc];refine⟨hc.1,hc.2,rfl,?_⟩;unfold q7ku;rw[if_neg (by rw[hc.1];simp),if_neg (by omega)]
 ·exact absurd rfl h
theorem qjow{v:Int}{m:Nat}{l:List UInt8}(c:List UInt8)(h:qexp v m l≠0):qexp v m (l++c)=qexp v m l:=by obtain⟨h1,-,-,-⟩:=qelz h;unfold qexp;rw[qivj c (by rw[h1];decide)]
theorem q237{v:Int}{m:Nat}{l:List UInt8}(h:qexp v m l≠0)(hl:l.length<qexp v m l):q7ku v m l=(Pk.zero,0,3):=by obtain⟨h1,h2,h3,h4⟩:=qelz h;obtain⟨a1,a2,a3⟩:=qajd h1;rw[h4];unfold qyib;simp only;rw[if_neg (by rw[h1];simp),if_pos (by omega)]
theorem qzs6{v:Int}{m:Nat}{l:List UInt8}(h:qexp v m l≠0)(hl:qexp v m l<=l.length):qyib v (l.take (qexp v m l))=q7ku v m l/\(q7ku v m l).2.2≠3/\((q7ku v m l).2.2=0->(q7ku v m l).2.1=qexp v m l):=by
 obtain⟨h1,h2,h3,h4⟩:=qelz h;obtain⟨a1,a2,a3⟩:=qajd h1;obtain⟨b1,b2,b3⟩:=qu5k h1;obtain⟨t,ht⟩:∃t,(l.drop (qday v l).2.1).take (qexp v m l-(qday v l).2.1)=t:=⟨_,rfl⟩
 have hT:l.take (qexp v m l)=rawH (qday v l).1++t:=by
  rw[b3,<-ht]
  conv=>lhs;rw[show qexp v m l=(qday v l).2.1+(qexp v m l-(qday v l).2.1) by omega,List.take_add]
 have hlen:(rawH (qday v l).1).length=(qday v l).2.1:=by rw[b3,List.length_take];omega
 have hH:qday v (l.take (qexp v m l))=qday v l:=by rw[hT,qzlb b1 t,hlen,<-h1]
 have hN:(qyib v (l.take (qexp v m l))).2.2≠3:=by
  unfold qyib;simp only;rw[hH,if_neg (by rw[h1];simp),if_neg (by rw[List.length_take];omega)];split
  ·simp only;split
   ·simp
   ·assumption
  ·simp
 have hA:=q2j8 (l.drop (qexp v m l)) hN;rw[List.take_append_drop] at hA;refine⟨by rw[h4,hA],by rw[h4,hA];exact hN,fun h0=>?_⟩;rw[h4] at h0 ⊢;rw[(qwwt h0).2.2.2,h3]
theorem qdul{v:Int}{m:Nat}{l:List UInt8}(h:(qday v l).2.2≠0):q7ku v m l=(Pk.zero,0,(qday v l).2.2)/\qexp v m l=0:=by unfold q7ku qexp;rw[if_pos h,if_neg (fun hc=>h hc.1)];exact⟨rfl,rfl⟩
theorem qe5z{v:Int}{m:Nat}{l:List UInt8}(h:(qday v l).2.2=0)(h2:(m:Int)<((qday v l).2.1:Int)+(qday v l).1.length):q7ku v m l=(Pk.zero,0,4)/\qexp v m l=0:=by unfold q7ku qexp;rw[if_neg (by rw[h];simp),if_pos h2,if_neg (fun hc=>by omega)];exact⟨rfl,rfl⟩
theorem qnyoi{v:Int}{m:Nat}{l:List UInt8}(h:(q7ku v m l).2.2=0):qexp v m l≠0/\qexp v m l<=l.length/\(q7ku v m l).2.1=qexp v m l/\1<=qexp v m l:=by
 have h0:qexp v m l≠0:=by
  intro h0;by_cases h1:(qday v l).2.2=0
  ·have h2:=qrm4 h0;rw[(qe5z h1 (by omega)).1] at h;cases h
  ·rw[(qdul h1).1] at h;exact h1 h
 by_cases hl:l.length<qexp v m l
 ·rw[q237 h0 hl] at h;cases h
 ·exact⟨h0,by omega,(qzs6 h0 (by omega)).2.2 h,by omega⟩
theorem q2fk{v:Int}{m:Nat}:∀(n:Nat) (l:List UInt8),l.length<=n->(goW v m l).2.2.2=0->(q7ku v m (goW v m l).2.1).2.2=3:=by
 intro n
 induction n with
 |zero=>
  intro l hl;obtain rfl:l=[]:=List.length_eq_zero_iff.1 (by omega);by_cases h3:(q7ku v m []).2.2=3
  ·rw[qc57 h3];intro _;exact h3
  ·by_cases h0:(q7ku v m []).2.2=0
   ·obtain⟨a1,a2,_⟩:=qdsm h0;simp at a2;omega
   ·rw[qcgl h3 h0];intro h;exact absurd h h0
 |succ n ih=>
  intro l hl;by_cases h3:(q7ku v m l).2.2=3
  ·rw[qc57 h3];intro _;exact h3
  by_cases h0:(q7ku v m l).2.2=0
  ·obtain⟨a1,a2,_⟩:=qdsm h0;rw[q6ca h0];exact ih _ (by rw[List.length_drop];omega)
  ·rw[qcgl h3 h0];intro h;exact absurd h h0
theorem qlnb{v:Int}{m:Nat}:∀(n:Nat) (l:List UInt8),l.length<=n->(goW v m l).2.2.2≠0->(goW v m l).2.1=[]:=by
 intro n
 induction n with
 |zero=>
  intro l hl;obtain rfl:l=[]:=List.length_eq_zero_iff.1 (by omega);by_cases h3:(q7ku v m []).2.2=3
  ·rw[qc57 h3];intro _;rfl
  ·by_cases h0:(q7ku v m []).2.2=0
   ·obtain⟨a1,a2,_⟩:=qdsm h0;simp at a2;omega
   ·rw[qcgl h3 h0];intro _;rfl
 |succ n ih=>
  intro l hl;by_cases h3:(q7ku v m l).2.2=3
  ·rw[qc57 h3];intro h;exact absurd rfl h
  by_cases h0:(q7ku v m l).2.2=0
  ·obtain⟨a1,a2,_⟩:=qdsm h0;rw[q6ca h0];exact ih _ (by rw[List.length_drop];omega)
  ·rw[qcgl h3 h0];intro _;rfl
theorem qkiq{v:Int}{m n q:Nat}{l K:List UInt8}{L:List Pk}(h:goW v m l=(L,K,n,q))(hq:q≠0):K=[]:=by
 have:=qlnb (v:=v) (m:=m) _ l (Nat.le_refl _)
 rw[h] at this;exact this hq
theorem qqsp{v:Int}{m:Nat}:∀(n:Nat) (l:List UInt8),l.length<=n->(goW v m l).2.1.length+(goW v m l).2.2.1<=l.length/\(goW v m l).1.length<=(goW v m l).2.2.1:=by
 intro n
 induction n with
 |zero=>
  intro l hl;obtain rfl:l=[]:=List.length_eq_zero_iff.1 (by omega);by_cases h3:(q7ku v m []).2.2=3
  ·rw[qc57 h3];simp
  ·by_cases h0:(q7ku v m []).2.2=0
   ·obtain⟨a1,a2,_⟩:=qdsm h0;simp at a2;omega
   ·rw[qcgl h3 h0];simp
 |succ n ih=>
  intro l hl;by_cases h3:(q7ku v m l).2.2=3
  ·rw[qc57 h3];simp
  by_cases h0:(q7ku v m l).2.2=0
  ·obtain⟨a1,a2,_⟩:=qdsm h0
   have:=ih (l.drop (q7ku v m l).2.1) (by rw[List.length_drop];omega)
   rw[List.length_drop] at this;rw[q6ca h0];simp only[List.length_cons];omega
  ·rw[qcgl h3 h0];simp
end Go.Proofs.YtefmhbioggcfaaaGreatDoor
namespace Go.Proofs.YtefmhbioggcfaaaGreatDoor
open Go.RowKit
theorem qnlew{fn:Func}{p u v:Tmp}{ty:TypeId}(h:fn.results=#[.cell p ty,.tmp u,.tmp v])(tmps:Array Value)(P:Program)(w:World) :
 (results fn tmps).run P w=
  ((asAddr (tmps.getD p undef)).run P w).andThen fun a w₁=>((loadVar ty a).run P w₁).andThen fun x w₂ => .ok (.tuple #[x,tmps.getD u undef,tmps.getD v undef]) w₂:=by
 simp only[results,h];simp[Sem.run_bind,Result.andThen]
section
variable{P:Program}{fn:Func}{R:Ending->World->Prop}{a:Act}{W:World}{p u v:Tmp}{ty t:TypeId}{B:Nat}{cs:Array Value}{x y:Value}{d:TypeDesc}
theorem q7wi(h:fn.results=#[.cell p ty])(hp:a.tmps.getD p undef=.pointer (some ⟨B,0,none⟩))(hd:a.defers=[])
 (hu:P.underlying ty=some d) (hs:(match d with|.struct _|.array _ _=>true|_=>false)=true) (hi:(P.info? ty).map (·.size)=some cs.size)
 (hg:W.heap[B]?=some (.cells cs t (0,0))) (hR:R (.returned (.agg cs)) W):bodyPost P fn R .ret a W:=
 bodyPost_ret (results_cell_row h a.tmps W B t cs (0,0) _ hp hg hu hs hi) hd hR
theorem q8iy(h:fn.results=#[.cell p ty,.tmp u])(hp:a.tmps.getD p undef=.pointer (some ⟨B,0,none⟩))(h1:a.tmps.getD u undef=x)(hd:a.defers=[])
 (hu:P.underlying ty=some d) (hs:(match d with|.struct _|.array _ _=>true|_=>false)=true) (hi:(P.info? ty).map (·.size)=some cs.size)
 (hg:W.heap[B]?=some (.cells cs t (0,0))) (hR:R (.returned (.tuple #[.agg cs,x])) W):bodyPost P fn R .ret a W:=by
 refine bodyPost_ret (v := .tuple #[.agg cs,x]) ?_ hd hR;rw[results_cell_tmp h,hp,h1]
 have:=run_loadVar_row (P:=P) W B t ty cs (0,0) _ hg hu hs hi
 simp[asAddr,this,Result.andThen]
theorem qabx(h:fn.results=#[.cell p ty,.tmp u,.tmp v])(hp:a.tmps.getD p undef=.pointer (some ⟨B,0,none⟩))(h1:a.tmps.getD u undef=x)(h2:a.tmps.getD v undef=y)(hd:a.defers=[])
 (hu:P.underlying ty=some d) (hs:(match d with|.struct _|.array _ _=>true|_=>false)=true) (hi:(P.info? ty).map (·.size)=some cs.size)
 (hg:W.heap[B]?=some (.cells cs t (0,0))) (hR:R (.returned (.tuple #[.agg cs,x,y])) W):bodyPost P fn R .ret a W:=by
 refine bodyPost_ret (v := .tuple #[.agg cs,x,y]) ?_ hd hR;rw[qnlew h,hp,h1,h2]
 have:=run_loadVar_row (P:=P) W B t ty cs (0,0) _ hg hu hs hi
 simp[asAddr,this,Result.andThen]
end
theorem q8xz{w W:World}{B k:Nat}(h:Below B w W)(hB:B<=k)(cs:Array Value):Below B w (W.setRow k cs):=
 ⟨h.os,h.tape,h.output,by have:=h.size;simpa [World.setRow] using this,fun m hm=>(setRow_other _ _ _ _ (by omega)).trans (h.block m hm)⟩
theorem qybm{w:World}(o:Obj):Below w.heap.size w (w.alloc o):=(Below.refl _ _).alloc (Nat.le_refl _) _
theorem qxh2{w a b:World}(h:Below w.heap.size w a)(k:Below a.heap.size a b):Below w.heap.size w b:=h.trans (k.mono h.size)
end Go.Proofs.YtefmhbioggcfaaaGreatDoor
