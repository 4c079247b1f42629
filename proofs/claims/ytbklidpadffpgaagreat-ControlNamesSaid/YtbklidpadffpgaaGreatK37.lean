/- The contracts of prop.Check and of what it calls. Condition: a kind, an id and lengths are ints. -/
import Derived.Deep.RegionHeld3
import Derived.Test.YtbklidpadffpgaaGreatK05
import Derived.Test.YtbklidpadffpgaaGreatK32
import Derived.Test.YtbklidpadffpgaaGreatK36
set_option maxHeartbeats 1000000
namespace Go.Proofs.YtbklidpadffpgaaGreat
open Go.RowKit
def qfph(s:Nat)(p:Pr):Bool:=
 if s=5∨s=6 then decide (p.n≠0) || decide (p.value≠[]) else if s=7 then decide (p.n≠0) else decide (p.text≠[]) || decide (p.value≠[])
theorem qh7y(l:List UInt8):((bs l).toList==[])=decide (l=[]):=by rw[q0c6,Bool.eq_iff_iff];simp
theorem qak0(s:Nat)(_p:Pr)(w:World)(hs:s < 100)(n:Int)(st sv:ByteArray)(b1 b2 b3 R:Bool)(h1:(n != 0)=b1)(h10:b1=false→n=0)(h2:(st.toList==[])=b2)(k2:st.toList.isEmpty=b2)(h3:(sv.toList==[])=b3)(k3:sv.toList.isEmpty=b3)
 (id:Int) (hR:R=if s=5∨s=6 then b1 || !b3 else if s=7 then b1 else !b2 || !b3) :
 Calls Tryz.prog 149 #[.int .i64 s,.agg #[.int .i64 id,.int .u32 n,.string st,.string sv]] w fun e w'=>e = .returned (.bool R)∧Below w.heap.size w w':=by
 have e1:b1=true→(n==0)=false:=fun h=>by rw[h] at h1;simp at h1;simpa using h1
 by_cases s5:s=5
 ·subst s5
  rw[if_pos (by decide)] at hR
  cases b1 with
  | true=>
   obtain rfl:R=true:=hR
   have e1:=e1 rfl
   clear h10
   go_enter Tryz.func149,Tryz.ntmps149
   go_wp2
   go_ret
   exact⟨rfl,(Below.refl _ _).alloc (Nat.le_refl _) _⟩
  | false=>
   obtain rfl:=h10 rfl
   cases b3<;>
   ·subst hR
    clear e1 h1 h10
    go_enter Tryz.func149,Tryz.ntmps149
    go_wp2
    go_ret
    exact⟨rfl,(Below.refl _ _).alloc (Nat.le_refl _) _⟩
 by_cases s6:s=6
 ·subst s6
  rw[if_pos (by decide)] at hR
  cases b1 with
  | true=>
   obtain rfl:R=true:=hR
   have e1:=e1 rfl
   clear h10
   go_enter Tryz.func149,Tryz.ntmps149
   go_wp2
   go_ret
   exact⟨rfl,(Below.refl _ _).alloc (Nat.le_refl _) _⟩
  | false=>
   obtain rfl:=h10 rfl
   cases b3<;>
   ·subst hR
    clear e1 h1 h10
    go_enter Tryz.func149,Tryz.ntmps149
    go_wp2
    go_ret
    exact⟨rfl,(Below.refl _ _).alloc (Nat.le_refl _) _⟩
 rw[if_neg (by omega)] at hR
 have g5:((s:Int)==5)=false:=by simp;omega
 have g6:((s:Int)==6)=false:=by simp;omega
 by_cases s7:s=7
 ·subst s7
  rw[if_pos rfl] at hR
  subst hR
  have h1:=Lib.hid h1
  clear e1 h10
  go_enter Tryz.func149,Tryz.ntmps149
  go_wp2
  go_ret
  exact⟨rfl,(Below.refl _ _).alloc (Nat.le_refl _) _⟩
 ·rw[if_neg s7] at hR
  have g7:((s:Int)==7)=false:=by simp;omega
  clear e1 h1 h10
  cases b2<;>cases b3<;>
  ·subst hR
   go_enter Tryz.func149,Tryz.ntmps149
   go_wp2
   go_ret
   exact⟨rfl,(Below.refl _ _).alloc (Nat.le_refl _) _⟩
theorem qxna(s:Nat)(p:Pr)(w:World)(hs:s < 100) :
 Calls Tryz.prog 149 #[.int .i64 s,qbhk p] w fun e w'=>e = .returned (.bool (qfph s p))∧Below w.heap.size w w':=by
 have k2:(bs p.text).toList.isEmpty=decide (p.text=[]):=by rw[q0c6];cases p.text<;>simp
 have k3:(bs p.value).toList.isEmpty=decide (p.value=[]):=by rw[q0c6];cases p.value<;>simp
 refine qak0 s p w hs p.n (bs p.text) (bs p.value) (decide (p.n≠0)) (decide (p.text=[])) (decide (p.value=[])) _ ?_ ?_ (qh7y _) k2 (qh7y _) k3 p.id ?_
 ·rw[Bool.eq_iff_iff];simp
 ·intro h;simp at h;omega
 ·unfold qfph
  simp
def qd60(s:Nat):Nat:=if s=1 then 1 else if s=2 then 65535 else if s=4 then 268435455 else 4294967295
theorem q5q1(s:Nat)(w:World)(hs:s < 100) :
 Calls Tryz.prog 150 #[.int .i64 s] w fun e w'=>e = .returned (.int .u32 (qd60 s))∧w=w':=by
 unfold qd60
 by_cases s1:s=1
 ·subst s1
  go_enter Tryz.func150,Tryz.ntmps150
  go_wp2
  go_ret
  exact⟨rfl,rfl⟩
 by_cases s2:s=2
 ·subst s2
  go_enter Tryz.func150,Tryz.ntmps150
  go_wp2
  go_ret
  exact⟨rfl,rfl⟩
 by_cases s4:s=4
 ·subst s4
  go_enter Tryz.func150,Tryz.ntmps150
  go_wp2
  go_ret
  exact⟨rfl,rfl⟩
 rw[if_neg s1,if_neg s2,if_neg s4]
 have g1:((s:Int)==1)=false:=by simp;omega
 have g2:((s:Int)==2)=false:=by simp;omega
 have g4:((s:Int)==4)=false:=by simp;omega
 go_enter Tryz.func150,Tryz.ntmps150
 go_wp2
 go_ret
 exact⟨rfl,rfl⟩
theorem q8gp(l:List UInt8)(w:World)(hl:l.length≤9223372036854775807) :
 Calls Tryz.prog 151 #[.string (bs l)] w fun e w'=>e = .returned (.int .i64 ((if 65535 < l.length then 2 else 0:Nat):Int))∧w=w':=by
 have hsz:=q5zk l
 generalize bs l=s at *
 by_cases h:65535 < l.length
 ·rw[if_pos h]
  have:65535 < s.size:=by omega
  go_enter Tryz.func151,Tryz.ntmps151
  go_wp2
  go_ret
  exact⟨rfl,rfl⟩
 ·rw[if_neg h]
  have:¬65535 < s.size:=by omega
  go_enter Tryz.func151,Tryz.ntmps151
  go_wp2
  go_ret
  exact⟨rfl,rfl⟩
def qbvt(p:Pr):Nat:=if qecx p.text=false∨qecx p.value=false then 6 else if p.id=8∧q95c p.text=false then 9 else 0
theorem qsy3(p:Pr)(w:World)(h:PrOk p) :
 Calls Tryz.prog 152 #[qbhk p] w fun e w'=>e = .returned (.int .i64 ((qbvt p:Nat):Int))∧Below w.heap.size w w':=by
 have V1:=fun W=>qkls (bs p.text) W (by rw[q5zk];exact h.text)
 have V2:=fun W=>qkls (bs p.value) W (by rw[q5zk];exact h.value)
 have NM:=fun W=>qqsh (bs p.text) W (by rw[q5zk];exact h.text)
 rw[qkd1] at V1 V2 NM
 have M:=Lib.hid (qrxu.made w p)
 have hB:Below w.heap.size w (w.alloc (.cells #[.int .i64 p.id,.int .u32 p.n,.string (bs p.text),.string (bs p.value)] 25)):=(Below.refl _ _).alloc (Nat.le_refl _) _
 have hB:=Lib.hid hB
 have c0:=M.out.c0
 have c2:=M.out.c2
 have c3:=M.out.c3
 unfold qbhk
 obtain⟨R,hR⟩:∃R,qbvt p=R:=⟨_,rfl⟩
 rw[hR]
 unfold qbvt at hR
 have V1:=Lib.hid V1
 have V2:=Lib.hid V2
 have NM:=Lib.hid NM
 generalize qecx p.text=v1 at *
 generalize qecx p.value=v2 at *
 generalize q95c p.text=nm at *
 have HR:=Lib.hid hR
 clear h hR
 go_enter Tryz.func152,Tryz.ntmps152
 cases v1 with
 | false=>
  have hr:=HR.out
  rw[if_pos (.inl rfl)] at hr
  subst hr
  clear HR
  go_wp2_with fail
  refine(V1.out _).mono ?_
  rintro e w2 ⟨rfl,hb⟩
  go_wp2_with fail
  go_ret
  exact⟨rfl,hB.out.trans (hb.mono hB.out.size)⟩
 | true=>
  go_wp2_with fail
  refine(V1.out _).mono ?_
  rintro e w2 ⟨rfl,hb⟩
  have M2:=Lib.hid (M.out.below hb M.out.lt)
  have B2:=Lib.hid (hB.out.trans (hb.mono hB.out.size))
  clear c0 c2 c3 hb
  have c3:=M2.out.c3
  go_wp2_with fail
  refine(V2.out _).mono ?_
  rintro e w3 ⟨rfl,hb⟩
  have M3:=Lib.hid (M2.out.below hb M2.out.lt)
  have B3:=Lib.hid (B2.out.trans (hb.mono B2.out.size))
  clear c3 hb
  have c0:=M3.out.c0
  have c2:=M3.out.c2
  cases v2 with
  | false=>
   have hr:=HR.out
   rw[if_pos (.inr rfl)] at hr
   subst hr
   clear HR
   go_wp2_with fail
   go_ret
   exact⟨rfl,B3.out⟩
  | true=>
   by_cases h8:p.id=8
   ·rw[h8] at c0
    go_wp2_with fail
    refine(NM.out _).mono ?_
    rintro e w4 ⟨rfl,hb⟩
    have B4:=Lib.hid (B3.out.trans (hb.mono B3.out.size))
    cases nm with
    | false=>
     have hr:=HR.out
     rw[if_neg (by simp),if_pos ⟨h8,rfl⟩] at hr
     subst hr
     clear HR
     go_wp2_with fail
     go_ret
     exact⟨rfl,B4.out⟩
    | true=>
     have hr:=HR.out
     rw[if_neg (by simp),if_neg (by simp)] at hr
     subst hr
     clear HR
     go_wp2_with fail
     go_ret
     exact⟨rfl,B4.out⟩
   ·have hr:=HR.out
    rw[if_neg (by simp),if_neg (fun x=>h8 x.1)] at hr
    subst hr
    clear HR
    have g8:(p.id==8)=false:=by simpa using h8
    go_wp2_with fail
    go_ret
    exact⟨rfl,B3.out⟩
def qdxo(W:World)(b s k l:Nat):Prop:=W.heap[b]? = some (.cells #[.int .i64 s,.int .u32 k,.int .u32 l] 92 (0,0))
section
variable{W W':World}{b s k l:Nat}
theorem qdxo.lt(h:qdxo W b s k l):b < W.heap.size:=lt_of_block h
theorem qdxo.cell(h:qdxo W b s k l)(j:Nat):W.cell? ⟨b,j,none⟩=(#[.int .i64 s,.int .u32 k,.int .u32 l]:Array Value)[j]? := cell_of_row W b j _ _ (0,0) h
theorem qdxo.c0(h:qdxo W b s k l):W.cell? ⟨b,0,none⟩=some (.int .i64 s):=h.cell 0
theorem qdxo.c1(h:qdxo W b s k l):W.cell? ⟨b,1,none⟩=some (.int .u32 k):=h.cell 1
theorem qdxo.c2(h:qdxo W b s k l):W.cell? ⟨b,2,none⟩=some (.int .u32 l):=h.cell 2
theorem qdxo.of_block(h:qdxo W b s k l)(hb:W'.heap[b]? = W.heap[b]?):qdxo W' b s k l:=hb.trans h
theorem qdxo.below(h:qdxo W b s k l){B:Nat}(hb:Below B W W')(hB:b < B):qdxo W' b s k l:=h.of_block (hb.block b hB)
end
def qxpj(s k l:Nat)(kind:Int)(p:Pr):Nat:=
 if bitP k kind=false then 9 else if qfph s p=true then 2 else if p.n < l then 9 else if qd60 s < p.n then 9 else if s=6 then(if 65535 < p.text.length then 2 else 0) else qbvt p
def CkS(w W:World)(s k l:Nat)(p:Pr):Prop:=Below w.heap.size w W∧qdxo W w.heap.size s k l∧qrxu W (w.heap.size+1) p
section
variable{w W W':World}{s k l:Nat}{p:Pr}
theorem CkS.made(w:World)(s k l:Nat)(p:Pr):CkS w ((w.alloc (.cells #[.int .i64 s,.int .u32 k,.int .u32 l] 92)).alloc (.cells #[.int .i64 p.id,.int .u32 p.n,.string (bs p.text),.string (bs p.value)] 25)) s k l p:=by
 refine⟨((Below.refl _ _).alloc (Nat.le_refl _) _).alloc (by simp) _,(heap_alloc_old _ _ (by simp)).trans (heap_alloc_new w _),?_⟩
 have:=qrxu.made (w.alloc (.cells #[.int .i64 s,.int .u32 k,.int .u32 l] 92)) p
 rwa [World.size_alloc] at this
theorem CkS.call(h:CkS w W s k l p)(hb:Below W.heap.size W W'):CkS w W' s k l p:=
 ⟨h.1.trans (hb.mono h.1.size),h.2.1.below hb h.2.1.lt,h.2.2.below hb h.2.2.lt⟩
theorem CkS.draws(h:CkS w W s k l p)(n:Nat):CkS w (W.drewN n) s k l p:=⟨qnpu h.1 n,h.2.1,h.2.2⟩
end
theorem qhiu(s k l:Nat)(kind:Int)(p:Pr)(w:World)(hs:s < 100)(hk:k < 4294967296)(hi:-9223372036854775808≤kind)(hj:kind≤9223372036854775807)(h:PrOk p) :
 Calls Tryz.prog 120 #[q3al s k l,.int .i64 kind,qbhk p] w fun e w'=>e = .returned (.int .i64 ((qxpj s k l kind p:Nat):Int))∧Below w.heap.size w w':=by
 have MY:=fun W=>qkta s k l kind W hk hi hj
 have EX:=fun W=>qxna s p W hs
 have MO:=Lib.hid (fun W=>q5q1 s W hs)
 have BC:=Lib.hid (fun W=>q8gp p.text W h.text)
 have TC:=Lib.hid (fun W=>qsy3 p W h)
 have S0:=Lib.hid (CkS.made w s k l p)
 have c0:=S0.out.2.1.c0
 have c1:=S0.out.2.1.c1
 have c2:=S0.out.2.1.c2
 have d0:=S0.out.2.2.c0
 have d1:=S0.out.2.2.c1
 have d2:=S0.out.2.2.c2
 have d3:=S0.out.2.2.c3
 obtain⟨R,hR⟩:∃R,qxpj s k l kind p=R:=⟨_,rfl⟩
 rw[hR]
 unfold qxpj at hR
 generalize bitP k kind=my at *
 generalize qfph s p=ex at *
 have HR:=Lib.hid hR
 have MY:=Lib.hid MY
 have EX:=Lib.hid EX
 unfold q3al at MY
 unfold qbhk at EX TC
 unfold q3al qbhk
 clear h hR
 go_enter Tryz.func120,Tryz.ntmps120
 cases my with
 | false=>
  have hr:=HR.out
  rw[if_pos rfl] at hr
  subst hr
  clear HR
  go_wp2_with fail
  refine(MY.out _).mono ?_
  rintro e w2 ⟨rfl,hb⟩
  have S1:=Lib.hid (S0.out.call hb)
  clear hb
  go_wp2_with fail
  go_ret
  exact⟨rfl,S1.out.1⟩
 | true=>
  go_wp2_with fail
  refine(MY.out _).mono ?_
  rintro e w2 ⟨rfl,hb⟩
  have S1:=Lib.hid (S0.out.call hb)
  clear hb c0 c1 c2 d0 d1 d2 d3
  have c0:=S1.out.2.1.c0
  have d0:=S1.out.2.2.c0
  have d1:=S1.out.2.2.c1
  have d2:=S1.out.2.2.c2
  have d3:=S1.out.2.2.c3
  go_wp2_with fail
  refine(EX.out _).mono ?_
  rintro e w3 ⟨rfl,hb⟩
  have S2:=Lib.hid (S1.out.call hb)
  clear hb c0 d0 d1 d2 d3
  have c0:=S2.out.2.1.c0
  have c2:=S2.out.2.1.c2
  have d0:=S2.out.2.2.c0
  have d1:=S2.out.2.2.c1
  have d2:=S2.out.2.2.c2
  have d3:=S2.out.2.2.c3
  cases ex with
  | true=>
   have hr:=HR.out
   rw[if_neg (by simp),if_pos rfl] at hr
   subst hr
   clear HR
   go_wp2_with fail
   go_ret
   exact⟨rfl,S2.out.1⟩
  | false=>
   have hr:=HR.out
   clear HR
   rw[if_neg (by simp),if_neg (by simp)] at hr
   generalize qd60 s=m at *
   by_cases g1:p.n < l
   ·rw[if_pos g1] at hr
    subst hr
    go_wp2_with fail
    go_quiet (first | (go_at_call 150;exact(MO.out _).mono fun _ _ h=>⟨h.1,_,h.2.symm⟩))
    go_wp2_with fail
    go_ret
    exact⟨rfl,qnpu S2.out.1 _⟩
   rw[if_neg g1] at hr
   by_cases g2:m < p.n
   ·rw[if_pos g2] at hr
    subst hr
    go_wp2_with fail
    go_quiet (first | (go_at_call 150;exact(MO.out _).mono fun _ _ h=>⟨h.1,_,h.2.symm⟩))
    go_wp2_with fail
    go_ret
    exact⟨rfl,qnpu S2.out.1 _⟩
   rw[if_neg g2] at hr
   by_cases g3:s=6
   ·subst g3
    rw[if_pos rfl] at hr
    rw[hr] at BC
    have S3:=Lib.hid (fun n=>S2.out.draws n)
    clear hr
    go_wp2_with fail
    go_quiet (first | (go_at_call 150;exact(MO.out _).mono fun _ _ h=>⟨h.1,_,h.2.symm⟩))
    go_wp2_with fail
    refine(BC.out _).mono ?_
    rintro e w4 ⟨rfl,rfl⟩
    go_wp2_with fail
    go_ret
    exact⟨rfl,(S3.out _).1⟩
   ·rw[if_neg g3] at hr
    rw[hr] at TC
    have g3:((s:Int)==6)=false:=by simp;omega
    have S3:=Lib.hid (fun n=>S2.out.draws n)
    clear hr
    go_wp2_with fail
    go_quiet (first | (go_at_call 150;exact(MO.out _).mono fun _ _ h=>⟨h.1,_,h.2.symm⟩))
    go_wp2_with fail
    refine(TC.out _).mono ?_
    rintro e w4 ⟨rfl,hb⟩
    have S4:=Lib.hid ((S3.out _).call hb)
    clear hb
    go_wp2_with fail
    go_ret
    exact⟨rfl,S4.out.1⟩
theorem qu2z(kind:Int)(p:Pr)(_h:mayP kind p.id=true→qwgc p.id≤7):qxpj (qwgc p.id) (qavf p.id) (prow p.id).least kind p=qr4y kind p:=by
 unfold qxpj qr4y
 rw[qqfu]
 by_cases hm:mayP kind p.id=false
 ·rw[if_pos hm,if_pos hm]
 rw[if_neg hm,if_neg hm]
 have hm:mayP kind p.id=true:=by simpa using hm
 obtain⟨r1,r2,f1,f2,f3,f4,f5⟩:=qznl hm
 have rest:=qoa5 (fun _ r=>r.kinds.isEmpty || ((decide (4 < r.shape) || decide (qd60 r.shape=r.most))&&(decide (r.shape≤4) || decide (r.least=0)))) (by decide+kernel) (qilb hm)
 have hk:=q06q hm
 simp only[Bool.or_eq_true,Bool.and_eq_true,decide_eq_true_eq,List.isEmpty_iff] at rest
 rcases rest with e | ⟨q1,q2⟩
 ·exact absurd e hk
 unfold qfph qbvt
 change 4 < qwgc p.id∨_ at q1
 change qwgc p.id≤4∨_ at q2
 by_cases h4:qwgc p.id≤4
 ·have q1:qd60 (qwgc p.id)=(prow p.id).most:=by
   rcases q1 with h | h
   ·omega
   ·exact h
  rw[if_pos h4,if_neg (show ¬(qwgc p.id=5∨qwgc p.id=6) by omega),if_neg (show ¬qwgc p.id=7 by omega),q1]
  by_cases ht:p.text≠[]∨p.value≠[]
  ·rw[if_pos ht,if_pos (by simpa using ht)]
  ·rw[if_neg ht,if_neg (by simpa using ht)]
   simp only[not_or,Decidable.not_not] at ht
   by_cases g1:p.n < (prow p.id).least
   ·rw[if_pos g1,if_pos (.inl g1)]
   rw[if_neg g1]
   by_cases g2:(prow p.id).most < p.n
   ·rw[if_pos g2,if_pos (.inr g2)]
   rw[if_neg g2,if_neg (show ¬qwgc p.id=6 by omega),if_neg (show ¬(p.n < (prow p.id).least∨(prow p.id).most < p.n) by omega),ht.1,ht.2,if_neg (by decide),if_neg (fun x=>by have:=f5 x.1;omega)]
 ·have q2:(prow p.id).least=0:=by
   rcases q2 with h | h
   ·omega
   ·exact h
  rw[if_neg h4,q2]
  have hex:((if qwgc p.id=5∨qwgc p.id=6 then decide (p.n≠0) || decide (p.value≠[]) else if qwgc p.id=7 then decide (p.n≠0) else decide (p.text≠[]) || decide (p.value≠[]))=true)↔(p.n≠0∨(qwgc p.id≠7∧p.value≠[])):=by
   by_cases h7:qwgc p.id=7
   ·rw[if_neg (by omega),if_pos h7];simp[h7]
   ·rw[if_pos (by omega)];simp[h7]
  by_cases he:p.n≠0∨(qwgc p.id≠7∧p.value≠[])
  ·rw[if_pos he,if_pos (hex.2 he)]
  ·rw[if_neg he,if_neg (fun x=>he (hex.1 x))]
   rw[if_neg (by omega),if_neg (by unfold qd60;simp only[not_or] at he;have:=he.1;split<;>(try split)<;>(try split)<;>omega)]
theorem qyyb(id:Int):qwgc id < 100:=by
 rcases Int.lt_or_le id 1 with h1 | h1
 ·unfold qwgc;rw[q0dw (.inl h1)];decide
 ·rcases Int.lt_or_le 42 id with h2 | h2
  ·unfold qwgc;rw[q0dw (.inr h2)];decide
  ·exact of_decide_eq_true (qoa5 (fun _ r=>decide (r.shape < 100)) (by decide) ⟨h1,h2⟩)
def PrS(w:World)(b:Nat)(p:Pr)(W:World):Prop:=
 W.cell? ⟨b,0,none⟩=some (.int .i64 p.id)∧W.cell? ⟨b,1,none⟩=some (.int .u32 p.n)∧W.cell? ⟨b,2,none⟩=some (.string (bs p.text))∧W.cell? ⟨b,3,none⟩=some (.string (bs p.value))∧(Below w.heap.size w W∧qrxu W b p)
theorem PrS.mk{w W:World}{b:Nat}{p:Pr}(hb:Below w.heap.size w W)(h:qrxu W b p):PrS w b p W:=⟨h.c0,h.c1,h.c2,h.c3,hb,h⟩
theorem PrS.call{w W W':World}{b:Nat}{p:Pr}(h:PrS w b p W)(hb:Below W.heap.size W W'):PrS w b p W':=
 PrS.mk (h.2.2.2.2.1.trans (hb.mono h.2.2.2.2.1.size)) (h.2.2.2.2.2.below hb h.2.2.2.2.2.lt)
end Go.Proofs.YtbklidpadffpgaaGreat
