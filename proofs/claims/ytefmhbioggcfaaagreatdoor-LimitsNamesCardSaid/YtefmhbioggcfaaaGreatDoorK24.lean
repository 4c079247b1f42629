/- The contracts of prop.Check and of what it calls. Condition: a kind, an id and lengths are ints. -/
import Derived.Deep.RegionHeld3
import Derived.Test.YtefmhbioggcfaaaGreatDoorK23
import Derived.Test.YtefmhbioggcfaaaGreatDoorK17
set_option maxHeartbeats 2000000
set_option maxRecDepth 100000
namespace Go.Proofs.YtefmhbioggcfaaaGreatDoor
open Lib(hid)
open Proofs.Tryz
open Go.RowKit
def qfph(s:Nat)(p:Pr):Bool:=
 if s=5\/s=6 then decide (p.n≠0) || decide (p.value≠[]) else if s=7 then decide (p.n≠0) else decide (p.text≠[]) || decide (p.value≠[])
theorem qh7y(l:List UInt8):((bs l).toList==[])=decide (l=[]):=by rw[q0c6,Bool.eq_iff_iff];simp
theorem qak0(s:Nat)(_p:Pr)(w:World)(hs:s<100)(n:Int)(st sv:ByteArray)(b1 b2 b3 R:Bool)(h1:(n != 0)=b1)(h10:b1=false->n=0)(h2:(st.toList==[])=b2)(k2:st.toList.isEmpty=b2)(h3:(sv.toList==[])=b3)(k3:sv.toList.isEmpty=b3)
 (id:Int) (hR:R=if s=5\/s=6 then b1 || !b3 else if s=7 then b1 else !b2 || !b3) :
 Calls prog 270 #[.int .i64 s,.agg #[.int .i64 id,.int .u32 n,.string st,.string sv]] w fun e w'=>e=.returned (.bool R)/\Below w.heap.size w w':=by
 have e1:b1=true->(n==0)=false:=fun h=>by rw[h] at h1;simp at h1;simpa using h1
 by_cases s5:s=5
 ·subst s5;rw[if_pos (by decide)] at hR;cases b1 with
  |true=>obtain rfl:R=true:=hR;have e1:=e1 rfl;clear h10;go_in;go_wp2;go_ret;exact⟨rfl,(Below.refl _ _).alloc (Nat.le_refl _) _⟩
  |false=>
   obtain rfl:=h10 rfl;cases b3<;>
   ·subst hR;clear e1 h1 h10;go_in;go_wp2;go_ret;exact⟨rfl,(Below.refl _ _).alloc (Nat.le_refl _) _⟩
 by_cases s6:s=6
 ·subst s6;rw[if_pos (by decide)] at hR;cases b1 with
  |true=>obtain rfl:R=true:=hR;have e1:=e1 rfl;clear h10;go_in;go_wp2;go_ret;exact⟨rfl,(Below.refl _ _).alloc (Nat.le_refl _) _⟩
  |false=>
   obtain rfl:=h10 rfl;cases b3<;>
   ·subst hR;clear e1 h1 h10;go_in;go_wp2;go_ret;exact⟨rfl,(Below.refl _ _).alloc (Nat.le_refl _) _⟩
 rw[if_neg (by omega)] at hR;have g5:((s:Int)==5)=false:=by simp;omega
 have g6:((s:Int)==6)=false:=by simp;omega
 by_cases s7:s=7
 ·subst s7;rw[if_pos rfl] at hR;subst hR;have h1:=hid h1;clear e1 h10;go_in;go_wp2;go_ret;exact⟨rfl,(Below.refl _ _).alloc (Nat.le_refl _) _⟩
 ·rw[if_neg s7] at hR;have g7:((s:Int)==7)=false:=by simp;omega
  clear e1 h1 h10;cases b2<;>cases b3<;>
  ·subst hR;go_in;go_wp2;go_ret;exact⟨rfl,(Below.refl _ _).alloc (Nat.le_refl _) _⟩
theorem qxna(s:Nat)(p:Pr)(w:World)(hs:s<100) :
 Calls prog 270 #[.int .i64 s,qbhk p] w fun e w'=>e=.returned (.bool (qfph s p))/\Below w.heap.size w w':=by
 have k2:(bs p.text).toList.isEmpty=decide (p.text=[]):=by rw[q0c6];cases p.text<;>simp
 have k3:(bs p.value).toList.isEmpty=decide (p.value=[]):=by rw[q0c6];cases p.value<;>simp
 refine qak0 s p w hs p.n (bs p.text) (bs p.value) (decide (p.n≠0)) (decide (p.text=[])) (decide (p.value=[])) _ ?_ ?_ (qh7y _) k2 (qh7y _) k3 p.id ?_
 ·rw[Bool.eq_iff_iff];simp
 ·intro h;simp at h;omega
 ·unfold qfph;simp
def qd60(s:Nat):Nat:=if s=1 then 1 else if s=2 then 65535 else if s=4 then 268435455 else 4294967295
theorem q5q1(s:Nat)(w:World)(hs:s<100) :
 Calls prog 271 #[.int .i64 s] w fun e w'=>e=.returned (.int .u32 (qd60 s))/\w=w':=by
 unfold qd60;by_cases s1:s=1
 ·subst s1;go_in;go_wp2;go_ret;exact⟨rfl,rfl⟩
 by_cases s2:s=2
 ·subst s2;go_in;go_wp2;go_ret;exact⟨rfl,rfl⟩
 by_cases s4:s=4
 ·subst s4;go_in;go_wp2;go_ret;exact⟨rfl,rfl⟩
 rw[if_neg s1,if_neg s2,if_neg s4];have g1:((s:Int)==1)=false:=by simp;omega
 have g2:((s:Int)==2)=false:=by simp;omega
 have g4:((s:Int)==4)=false:=by simp;omega
 go_in;go_wp2;go_ret;exact⟨rfl,rfl⟩
theorem q8gp(l:List UInt8)(w:World)(hl:l.length<=9223372036854775807) :
 Calls prog 272 #[.string (bs l)] w fun e w'=>e=.returned (.int .i64 ((if 65535<l.length then 2 else 0:Nat):Int))/\w=w':=by
 have hsz:=q5zk l;generalize bs l=s at *;by_cases h:65535<l.length
 ·rw[if_pos h]
  have:65535<s.size:=by omega
  go_in;go_wp2;go_ret;exact⟨rfl,rfl⟩
 ·rw[if_neg h]
  have:¬65535<s.size:=by omega
  go_in;go_wp2;go_ret;exact⟨rfl,rfl⟩
def qbvt(p:Pr):Nat:=if qecx p.text=false\/qecx p.value=false then 6 else if p.id=8/\q95c p.text=false then 9 else 0
theorem qsy3(p:Pr)(w:World)(h:PrOk p) :
 Calls prog 273 #[qbhk p] w fun e w'=>e=.returned (.int .i64 ((qbvt p:Nat):Int))/\Below w.heap.size w w':=by
 have V1:=fun W=>qkls (bs p.text) W (by rw[q5zk];exact h.text);have V2:=fun W=>qkls (bs p.value) W (by rw[q5zk];exact h.value);have NM:=fun W=>qqsh (bs p.text) W (by rw[q5zk];exact h.text);rw[qkd1] at V1 V2 NM;have M:=hid (qrxu.made w p);have hB:Below w.heap.size w (w.alloc (.cells #[.int .i64 p.id,.int .u32 p.n,.string (bs p.text),.string (bs p.value)] 82)):=(Below.refl _ _).alloc (Nat.le_refl _) _;have hB:=hid hB;have c0:=M.out.c0;have c2:=M.out.c2;have c3:=M.out.c3;unfold qbhk;obtain⟨R,hR⟩:∃R,qbvt p=R:=⟨_,rfl⟩
 rw[hR];unfold qbvt at hR;have V1:=hid V1;have V2:=hid V2;have NM:=hid NM;generalize qecx p.text=v1 at *;generalize qecx p.value=v2 at *;generalize q95c p.text=nm at *;have HR:=hid hR;clear h hR;go_in;cases v1 with
 |false=>have hr:=HR.out;rw[if_pos (.inl rfl)] at hr;subst hr;clear HR;go_wp2_with fail;refine(V1.out _).mono ?_;rintro e w2 ⟨rfl,hb⟩;go_wp2;go_ret;exact⟨rfl,hB.out.trans (hb.mono hB.out.size)⟩
 |true=>
  go_wp2_with fail;refine(V1.out _).mono ?_;rintro e w2 ⟨rfl,hb⟩;have M2:=hid (M.out.below hb M.out.lt);have B2:=hid (hB.out.trans (hb.mono hB.out.size));clear c0 c2 c3 hb;have c3:=M2.out.c3;go_wp2_with fail;refine(V2.out _).mono ?_;rintro e w3 ⟨rfl,hb⟩;have M3:=hid (M2.out.below hb M2.out.lt);have B3:=hid (B2.out.trans (hb.mono B2.out.size));clear c3 hb;have c0:=M3.out.c0;have c2:=M3.out.c2;cases v2 with
  |false=>have hr:=HR.out;rw[if_pos (.inr rfl)] at hr;subst hr;clear HR;go_wp2;go_ret;exact⟨rfl,B3.out⟩
  |true=>
   by_cases h8:p.id=8
   ·rw[h8] at c0;go_wp2_with fail;refine(NM.out _).mono ?_;rintro e w4 ⟨rfl,hb⟩;have B4:=hid (B3.out.trans (hb.mono B3.out.size));cases nm with
    |false=>have hr:=HR.out;rw[if_neg (by simp),if_pos ⟨h8,rfl⟩] at hr;subst hr;clear HR;go_wp2;go_ret;exact⟨rfl,B4.out⟩
    |true=>have hr:=HR.out;rw[if_neg (by simp),if_neg (by simp)] at hr;subst hr;clear HR;go_wp2;go_ret;exact⟨rfl,B4.out⟩
   ·have hr:=HR.out;rw[if_neg (by simp),if_neg (fun x=>h8 x.1)] at hr;subst hr;clear HR;have g8:(p.id==8)=false:=by simpa using h8
    go_wp2;go_ret;exact⟨rfl,B3.out⟩
def qdxo(W:World)(b s k l:Nat):Prop:=W.heap[b]?=some (.cells #[.int .i64 s,.int .u32 k,.int .u32 l] 203 (0,0))
section
variable{W W':World}{b s k l:Nat}
theorem qdxo.lt(h:qdxo W b s k l):b<W.heap.size:=lt_of_block h
theorem qdxo.cell(h:qdxo W b s k l)(j:Nat):W.cell? ⟨b,j,none⟩=(#[.int .i64 s,.int .u32 k,.int .u32 l]:Array Value)[j]? := cell_of_row W b j _ _ (0,0) h
theorem qdxo.c0(h:qdxo W b s k l):W.cell? ⟨b,0,none⟩=some (.int .i64 s):=h.cell 0
theorem qdxo.c1(h:qdxo W b s k l):W.cell? ⟨b,1,none⟩=some (.int .u32 k):=h.cell 1
theorem qdxo.c2(h:qdxo W b s k l):W.cell? ⟨b,2,none⟩=some (.int .u32 l):=h.cell 2
theorem qdxo.of_block(h:qdxo W b s k l)(hb:W'.heap[b]?=W.heap[b]?):qdxo W' b s k l:=hb.trans h
theorem qdxo.below(h:qdxo W b s k l){B:Nat}(hb:Below B W W')(hB:b<B):qdxo W' b s k l:=h.of_block (hb.block b hB)
end
def qxpj(s k l:Nat)(kind:Int)(p:Pr):Nat:=
 if bitP k kind=false then 9 else if qfph s p=true then 2 else if p.n<l then 9 else if qd60 s<p.n then 9 else if s=6 then(if 65535<p.text.length then 2 else 0) else qbvt p
def CkS(w W:World)(s k l:Nat)(p:Pr):Prop:=Below w.heap.size w W/\qdxo W w.heap.size s k l/\qrxu W (w.heap.size+1) p
section
variable{w W W':World}{s k l:Nat}{p:Pr}
theorem CkS.made(w:World)(s k l:Nat)(p:Pr):CkS w ((w.alloc (.cells #[.int .i64 s,.int .u32 k,.int .u32 l] 203)).alloc (.cells #[.int .i64 p.id,.int .u32 p.n,.string (bs p.text),.string (bs p.value)] 82)) s k l p:=by
 refine⟨((Below.refl _ _).alloc (Nat.le_refl _) _).alloc (by simp) _,(heap_alloc_old _ _ (by simp)).trans (heap_alloc_new w _),?_⟩
 have:=qrxu.made (w.alloc (.cells #[.int .i64 s,.int .u32 k,.int .u32 l] 203)) p
 rwa [World.size_alloc] at this
theorem CkS.call(h:CkS w W s k l p)(hb:Below W.heap.size W W'):CkS w W' s k l p:=
 ⟨h.1.trans (hb.mono h.1.size),h.2.1.below hb h.2.1.lt,h.2.2.below hb h.2.2.lt⟩
theorem CkS.draws(h:CkS w W s k l p)(n:Nat):CkS w (W.drewN n) s k l p:=⟨qnpu h.1 n,h.2.1,h.2.2⟩
end
theorem qhiu(s k l:Nat)(kind:Int)(p:Pr)(w:World)(hs:s<100)(hk:k<4294967296)(hi:-9223372036854775808<=kind)(hj:kind<=9223372036854775807)(h:PrOk p) :
 Calls prog 246 #[q3al s k l,.int .i64 kind,qbhk p] w fun e w'=>e=.returned (.int .i64 ((qxpj s k l kind p:Nat):Int))/\Below w.heap.size w w':=by
 have MY:=fun W=>qkta s k l kind W hk hi hj;have EX:=fun W=>qxna s p W hs;have MO:=hid (fun W=>q5q1 s W hs);have BC:=hid (fun W=>q8gp p.text W h.text);have TC:=hid (fun W=>qsy3 p W h);have S0:=hid (CkS.made w s k l p);have c0:=S0.out.2.1.c0;have c1:=S0.out.2.1.c1;have c2:=S0.out.2.1.c2;have d0:=S0.out.2.2.c0;have d1:=S0.out.2.2.c1;have d2:=S0.out.2.2.c2;have d3:=S0.out.2.2.c3;obtain⟨R,hR⟩:∃R,qxpj s k l kind p=R:=⟨_,rfl⟩
 rw[hR];unfold qxpj at hR;generalize bitP k kind=my at *;generalize qfph s p=ex at *;have HR:=hid hR;have MY:=hid MY;have EX:=hid EX;unfold q3al at MY;unfold qbhk at EX TC;unfold q3al qbhk;clear h hR;go_in;cases my with
 |false=>have hr:=HR.out;rw[if_pos rfl] at hr;subst hr;clear HR;go_wp2_with fail;refine(MY.out _).mono ?_;rintro e w2 ⟨rfl,hb⟩;have S1:=hid (S0.out.call hb);clear hb;go_wp2;go_ret;exact⟨rfl,S1.out.1⟩
 |true=>
  go_wp2_with fail;refine(MY.out _).mono ?_;rintro e w2 ⟨rfl,hb⟩;have S1:=hid (S0.out.call hb);clear hb c0 c1 c2 d0 d1 d2 d3;have c0:=S1.out.2.1.c0;have d0:=S1.out.2.2.c0;have d1:=S1.out.2.2.c1;have d2:=S1.out.2.2.c2;have d3:=S1.out.2.2.c3;go_wp2_with fail;refine(EX.out _).mono ?_;rintro e w3 ⟨rfl,hb⟩;have S2:=hid (S1.out.call hb);clear hb c0 d0 d1 d2 d3;have c0:=S2.out.2.1.c0;have c2:=S2.out.2.1.c2;have d0:=S2.out.2.2.c0;have d1:=S2.out.2.2.c1;have d2:=S2.out.2.2.c2;have d3:=S2.out.2.2.c3;cases ex with
  |true=>have hr:=HR.out;rw[if_neg (by simp),if_pos rfl] at hr;subst hr;clear HR;go_wp2;go_ret;exact⟨rfl,S2.out.1⟩
  |false=>
   have hr:=HR.out;clear HR;rw[if_neg (by simp),if_neg (by simp)] at hr;generalize qd60 s=m at *;by_cases g1:p.n<l
   ·rw[if_pos g1] at hr;subst hr;go_wp2_with fail;go_quiet (first|(go_at_call 271;exact(MO.out _).mono fun _ _ h=>⟨h.1,_,h.2.symm⟩));go_wp2;go_ret;exact⟨rfl,qnpu S2.out.1 _⟩
   rw[if_neg g1] at hr;by_cases g2:m<p.n
   ·rw[if_pos g2] at hr;subst hr;go_wp2_with fail;go_quiet (first|(go_at_call 271;exact(MO.out _).mono fun _ _ h=>⟨h.1,_,h.2.symm⟩));go_wp2;go_ret;exact⟨rfl,qnpu S2.out.1 _⟩
   rw[if_neg g2] at hr;by_cases g3:s=6
   ·subst g3;rw[if_pos rfl] at hr;rw[hr] at BC;have S3:=hid (fun n=>S2.out.draws n);clear hr;go_wp2_with fail;go_quiet (first|(go_at_call 271;exact(MO.out _).mono fun _ _ h=>⟨h.1,_,h.2.symm⟩));go_wp2_with fail;refine(BC.out _).mono ?_;rintro e w4 ⟨rfl,rfl⟩;go_wp2;go_ret;exact⟨rfl,(S3.out _).1⟩
   ·rw[if_neg g3] at hr;rw[hr] at TC;have g3:((s:Int)==6)=false:=by simp;omega
    have S3:=hid (fun n=>S2.out.draws n);clear hr;go_wp2_with fail;go_quiet (first|(go_at_call 271;exact(MO.out _).mono fun _ _ h=>⟨h.1,_,h.2.symm⟩));go_wp2_with fail;refine(TC.out _).mono ?_;rintro e w4 ⟨rfl,hb⟩;have S4:=hid ((S3.out _).call hb);clear hb;go_wp2;go_ret;exact⟨rfl,S4.out.1⟩
theorem qu2z(kind:Int)(p:Pr)(_h:mayP kind p.id=true->qwgc p.id<=7):qxpj (qwgc p.id) (qavf p.id) (prow p.id).least kind p=qr4y kind p:=by
 unfold qxpj qr4y;rw[qqfu];by_cases hm:mayP kind p.id=false
 ·rw[if_pos hm,if_pos hm]
 rw[if_neg hm,if_neg hm];have hm:mayP kind p.id=true:=by simpa using hm
 obtain⟨r1,r2,f1,f2,f3,f4,f5⟩:=qznl hm;have rest:=qoa5 (fun _ r=>r.kinds.isEmpty || ((decide (4<r.shape) || decide (qd60 r.shape=r.most))&&(decide (r.shape<=4) || decide (r.least=0)))) (by decide+kernel) (qilb hm);have hk:=q06q hm;simp only[Bool.or_eq_true,Bool.and_eq_true,decide_eq_true_eq,List.isEmpty_iff] at rest;rcases rest with e|⟨q1,q2⟩
 ·exact absurd e hk
 unfold qfph qbvt;change 4<qwgc p.id\/_ at q1;change qwgc p.id<=4\/_ at q2;by_cases h4:qwgc p.id<=4
 ·have q1:qd60 (qwgc p.id)=(prow p.id).most:=by
   rcases q1 with h|h
   ·omega
   ·exact h
  rw[if_pos h4,if_neg (show ¬(qwgc p.id=5\/qwgc p.id=6) by omega),if_neg (show ¬qwgc p.id=7 by omega),q1];by_cases ht:p.text≠[]\/p.value≠[]
  ·rw[if_pos ht,if_pos (by simpa using ht)]
  ·rw[if_neg ht,if_neg (by simpa using ht)];simp only[not_or,Decidable.not_not] at ht;by_cases g1:p.n<(prow p.id).least
   ·rw[if_pos g1,if_pos (.inl g1)]
   rw[if_neg g1];by_cases g2:(prow p.id).most<p.n
   ·rw[if_pos g2,if_pos (.inr g2)]
   rw[if_neg g2,if_neg (show ¬qwgc p.id=6 by omega),if_neg (show ¬(p.n<(prow p.id).least\/(prow p.id).most<p.n) by omega),ht.1,ht.2,if_neg (by decide),if_neg (fun x=>by have:=f5 x.1;omega)]
 ·have q2:(prow p.id).least=0:=by
   rcases q2 with h|h
   ·omega
   ·exact h
  rw[if_neg h4,q2];have hex:((if qwgc p.id=5\/qwgc p.id=6 then decide (p.n≠0) || decide (p.value≠[]) else if qwgc p.id=7 then decide (p.n≠0) else decide (p.text≠[]) || decide (p.value≠[]))=true)↔(p.n≠0\/(qwgc p.id≠7/\p.value≠[])):=by
   by_cases h7:qwgc p.id=7
   ·rw[if_neg (by omega),if_pos h7];simp[h7]
   ·rw[if_pos (by omega)];simp[h7]
  by_cases he:p.n≠0\/(qwgc p.id≠7/\p.value≠[])
  ·rw[if_pos he,if_pos (hex.2 he)]
  ·rw[if_neg he,if_neg (fun x=>he (hex.1 x))];rw[if_neg (by omega),if_neg (by unfold qd60;simp only[not_or] at he;have:=he.1;split<;>(try split)<;>(try split)<;>omega)]
theorem qyyb(id:Int):qwgc id<100:=by
 rcases Int.lt_or_le id 1 with h1|h1
 ·unfold qwgc;rw[q0dw (.inl h1)];decide
 ·rcases Int.lt_or_le 42 id with h2|h2
  ·unfold qwgc;rw[q0dw (.inr h2)];decide
  ·exact of_decide_eq_true (qoa5 (fun _ r=>decide (r.shape<100)) (by decide) ⟨h1,h2⟩)
def PrS(w:World)(b:Nat)(p:Pr)(W:World):Prop:=
 W.cell? ⟨b,0,none⟩=some (.int .i64 p.id)/\W.cell? ⟨b,1,none⟩=some (.int .u32 p.n)/\W.cell? ⟨b,2,none⟩=some (.string (bs p.text))/\W.cell? ⟨b,3,none⟩=some (.string (bs p.value))/\(Below w.heap.size w W/\qrxu W b p)
theorem PrS.mk{w W:World}{b:Nat}{p:Pr}(hb:Below w.heap.size w W)(h:qrxu W b p):PrS w b p W:=⟨h.c0,h.c1,h.c2,h.c3,hb,h⟩
theorem PrS.call{w W W':World}{b:Nat}{p:Pr}(h:PrS w b p W)(hb:Below W.heap.size W W'):PrS w b p W':=
 PrS.mk (h.2.2.2.2.1.trans (hb.mono h.2.2.2.2.1.size)) (h.2.2.2.2.2.below hb h.2.2.2.2.2.lt)
def q9fj(W:World)(b mb:Nat)(kind:Int)(seen:Nat):Prop:=
 W.heap[b]?=some (.cells #[.int .i64 kind,.map (some mb),.int .u64 seen] 206 (0,0))/\q88l W mb
section
variable{W W':World}{b mb:Nat}{kind:Int}{seen:Nat}
theorem q9fj.lt(h:q9fj W b mb kind seen):b<W.heap.size:=lt_of_block h.1
theorem q9fj.mlt(h:q9fj W b mb kind seen):mb<W.heap.size:=qmfc.lt h.2
theorem q9fj.ne(h:q9fj W b mb kind seen):mb≠b:=by rintro rfl;obtain⟨h1,D,⟨es,c,h2,_⟩,_⟩:=h;rw[h1] at h2;cases h2
theorem q9fj.cell(h:q9fj W b mb kind seen)(j:Nat):W.cell? ⟨b,j,none⟩=(#[.int .i64 kind,.map (some mb),.int .u64 seen]:Array Value)[j]? := cell_of_row W b j _ _ (0,0) h.1
theorem q9fj.c0(h:q9fj W b mb kind seen):W.cell? ⟨b,0,none⟩=some (.int .i64 kind):=h.cell 0
theorem q9fj.c1(h:q9fj W b mb kind seen):W.cell? ⟨b,1,none⟩=some (.map (some mb)):=h.cell 1
theorem q9fj.c2(h:q9fj W b mb kind seen):W.cell? ⟨b,2,none⟩=some (.int .u64 seen):=h.cell 2
theorem q9fj.fr(h:q9fj W b mb kind seen)(j:Nat):W.frozen? ⟨b,j,none⟩=false:=by have h1:=h.1;simp[World.frozen?,h1]
theorem q9fj.of_block(h:q9fj W b mb kind seen)(hb:W'.heap[b]?=W.heap[b]?)(hm:W'.heap[mb]?=W.heap[mb]?):q9fj W' b mb kind seen:=⟨hb.trans h.1,h.2.of_block hm⟩
theorem q9fj.below(h:q9fj W b mb kind seen){B:Nat}(hb:Below B W W')(hB:b<B)(hM:mb<B):q9fj W' b mb kind seen:=h.of_block (hb.block b hB) (hb.block mb hM)
theorem q9fj.draws(h:q9fj W b mb kind seen)(n:Nat):q9fj (W.drewN n) b mb kind seen:=h
theorem q9fj.see(h:q9fj W b mb kind seen)(s:Nat):q9fj (W.setCell ⟨b,2,none⟩ (.int .u64 s)) b mb kind s:=
 ⟨qlvy h.1 2 _,h.2.of_block (by rw[Below.heap_setCell _ _ _ _ (fun e=>h.ne e)])⟩
end
theorem qkou(kind:Int)(w:World) :
 Calls prog 170 #[.int .i64 kind] w fun e w'=>∃b mb,e=.returned (.pointer (some ⟨b,0,none⟩))/\q9fj w' b mb kind 0/\Below w.heap.size w w'/\w.heap.size<=b/\w.heap.size<=mb:=by
 go_in;go_wp2_with fail;refine(qwvk w).mono ?_;rintro e w' ⟨rfl,hR,hb⟩;go_wp2;go_ret;have hs:=hb.size;refine⟨w'.heap.size,w.heap.size,rfl,⟨heap_alloc_new w' _,hR.of_block (heap_alloc_old _ _ (qmfc.lt hR))⟩,hb.alloc hs _,hs,Nat.le_refl _⟩
theorem qv9y(seen i:Nat)(hs:seen<18446744073709551616)(_hi:i<=63) :
 (bits BinOp.and IntKind.u64 ((seen:Int) / 2^i) 1 != 0)=seen.testBit i:=by
 have e0:(seen:Int) / 2^i=((seen / 2^i:Nat):Int):=by simp
 have hlt:seen / 2^i<18446744073709551616:=Nat.lt_of_le_of_lt (Nat.div_le_self _ _) hs;rw[e0,show(1:Int)=((1:Nat):Int) from rfl,bits_and_u64_nat _ _ hlt (by decide),Nat.and_one_is_mod];rw[Nat.testBit_eq_decide_div_mod_eq];rcases Nat.mod_two_eq_zero_or_one (seen / 2^i) with h|h
 ·rw[h];rfl
 ·rw[h];rfl
theorem q5ti{w:World}{b mb:Nat}{kind:Int}{seen:Nat}(h:q9fj w b mb kind seen)(i:Nat)(hs:seen<18446744073709551616)(hi:i<=63) :
 Calls prog 247 #[.pointer (some ⟨b,0,none⟩),.int .i64 i] w fun e w'=>e=.returned (.bool (seen.testBit i))/\w=w':=by
 have hb:=hid (qv9y seen i hs hi);have c2:=h.c2;have hm:min i 64=i:=by omega
 have hsh:Op.shift .shr .u64 (seen:Int) .i64 (i:Int)=pure (.int .u64 ((seen:Int) / 2^i)):=by
  rw[shift_shr_any _ _ _ _ (by omega)]
  congr 2
  show(seen:Int) / 2^min (i:Int).toNat 64=_;rw[show(i:Int).toNat=i by omega,hm]
 have hsh:=hsh;clear hm h;go_in;go_wp2;go_ret;exact⟨congrArg (fun b=>Ending.returned (Value.bool b)) hb.out,rfl⟩
def q6mr(seen:Nat)(l:List Pr):Prop:=seen<18446744073709551616/\∀i:Nat,i<=42->seen.testBit i=hasP l i
theorem q6mr.nil:q6mr 0 []:=⟨by decide,fun i _=>by rw[Nat.zero_testBit];rfl⟩
theorem q6mr.snoc{seen:Nat}{l:List Pr}(h:q6mr seen l){p:Pr}{i:Nat}(hp:p.id=i)(hi:i<=42):q6mr (seen ||| 2^i) (l++[p]):=by
 refine⟨Nat.or_lt_two_pow (n:=64) h.1 (Nat.pow_lt_pow_right (by decide) (by omega)),fun j hj=>?_⟩;rw[Nat.testBit_or,h.2 j hj,Nat.testBit_two_pow];unfold hasP;rw[List.any_append];simp only[List.any_cons,List.any_nil,Bool.or_false]
 congr 1
 rw[hp,Bool.eq_iff_iff];simp;omega
def TalL(W:World)(b mb:Nat)(kind:Int)(l:List Pr):Prop:=∃seen,q9fj W b mb kind seen/\q6mr seen l
theorem qtn3{w:World}{b mb:Nat}{kind:Int}{l:List Pr}(h:TalL w b mb kind l) :
 Calls prog 214 #[.pointer (some ⟨b,0,none⟩)] w fun e w'=>e=.returned (.int .i64 ((if qwyx l then 9 else 0:Nat):Int))/\w=w':=by
 obtain⟨seen,h1,h2⟩:=h;have H22:=q5ti h1 22 h2.1 (by decide);have H21:=q5ti h1 21 h2.1 (by decide);rw[h2.2 22 (by decide)] at H22;rw[h2.2 21 (by decide)] at H21;unfold qwyx;change Calls _ _ _ _ (fun e w'=>e=Ending.returned (.bool (hasP l 22))/\_) at H22;change Calls _ _ _ _ (fun e w'=>e=Ending.returned (.bool (hasP l 21))/\_) at H21;generalize hasP l 22=b22 at *;generalize hasP l 21=b21 at *;have H22:=hid H22;have H21:=hid H21;clear h1 h2;cases b22 with
 |false=>go_in;go_wp2_with fail;refine(H22.out).mono ?_;rintro e w' ⟨rfl,rfl⟩;go_wp2;go_ret;exact⟨rfl,rfl⟩
 |true=>
  cases b21<;>
  ·go_in;go_wp2_with fail;refine(H22.out).mono ?_;rintro e w' ⟨rfl,rfl⟩;go_wp2_with fail;refine(H21.out).mono ?_;rintro e w' ⟨rfl,rfl⟩;go_wp2;go_ret;exact⟨rfl,rfl⟩
theorem q9cp{w W:World}(h:Below w.heap.size w W)(r:Option Nat):w.grownBy W r:=⟨h.os,h.tape,h.output,h.size,fun i hi _=>h.block i hi⟩
theorem _root_.Go.World.grownBy.drew'{w W:World}{r:Option Nat}(h:w.grownBy W r):w.grownBy W.drew r:=⟨h.os,h.tape,h.output,h.size,h.block⟩
def qx3j(kind:Int)(pre:List Pr)(p:Pr):Nat:=if qr4y kind p≠0 then qr4y kind p else if qxv1 kind pre p.id then 9 else 0
def AdS(w:World)(b mb:Nat)(kind:Int)(seen:Nat)(p:Pr)(W:World):Prop:=
 W.cell? ⟨w.heap.size,0,none⟩=some (.int .i64 p.id)/\W.cell? ⟨w.heap.size,1,none⟩=some (.int .u32 p.n)/\W.cell? ⟨w.heap.size,2,none⟩=some (.string (bs p.text))/\W.cell? ⟨w.heap.size,3,none⟩=some (.string (bs p.value))/\
 W.cell? ⟨b,0,none⟩=some (.int .i64 kind)/\W.cell? ⟨b,1,none⟩=some (.map (some mb))/\
 (Instr.lookup 204 (.map (some mb)) (.int .i64 p.id) false).run prog W=.ok (q3al (qwgc p.id) (qavf p.id) (prow p.id).least) W/\
 (Below w.heap.size w W/\qrxu W w.heap.size p/\q9fj W b mb kind seen)
theorem AdS.mk{w W:World}{b mb:Nat}{kind:Int}{seen:Nat}{p:Pr}(ok:PrOk p)(h1:Below w.heap.size w W)(h2:qrxu W w.heap.size p)(h3:q9fj W b mb kind seen):AdS w b mb kind seen p W:=
 ⟨h2.c0,h2.c1,h2.c2,h2.c3,h3.c0,h3.c1,h3.2.look ok.lo ok.hi,h1,h2,h3⟩
theorem AdS.call{w W W':World}{b mb:Nat}{kind:Int}{seen:Nat}{p:Pr}(ok:PrOk p)(h:AdS w b mb kind seen p W)(hb:Below W.heap.size W W'):AdS w b mb kind seen p W':=by obtain⟨_,_,_,_,_,_,_,h1,h2,h3⟩:=h;exact AdS.mk ok (h1.trans (hb.mono h1.size)) (h2.below hb h2.lt) (h3.below hb h3.lt h3.mlt)
theorem AdS.draws{w W:World}{b mb:Nat}{kind:Int}{seen:Nat}{p:Pr}(ok:PrOk p)(h:AdS w b mb kind seen p W)(n:Nat):AdS w b mb kind seen p (W.drewN n):=by obtain⟨_,_,_,_,_,_,_,h1,h2,h3⟩:=h;exact AdS.mk ok (qnpu h1 n) h2 (h3.draws n)
theorem qsyg(i:Nat)(hi:i<=42):Op.shift .shl .u64 1 .i64 (i:Int)=pure (.int .u64 ((2^i:Nat):Int)):=by
 have:∀n:Nat,n<=42->Op.shift .shl .u64 1 .i64 (n:Int)=pure (.int .u64 ((2^n:Nat):Int)):=by
  intro n hn
  match n,hn with
  |0,_|1,_|2,_|3,_|4,_|5,_|6,_|7,_|8,_|9,_|10,_|11,_|12,_|13,_|14,_|15,_|16,_|17,_|18,_|19,_|20,_|21,_|22,_|23,_|24,_|25,_|26,_|27,_|28,_|29,_|30,_|31,_|32,_|33,_|34,_|35,_|36,_|37,_|38,_|39,_|40,_|41,_|42,_=>rfl
  |n+43,h=>exact absurd h (by omega)
 exact this i hi
theorem q42n{w:World}{b mb:Nat}{kind:Int}{pre:List Pr}(p:Pr)(h:TalL w b mb kind pre)(hi:-9223372036854775808<=kind)(hj:kind<=9223372036854775807)(ok:PrOk p) :
 Calls prog 212 #[.pointer (some ⟨b,0,none⟩),qbhk p] w fun e w'=>e=.returned (.int .i64 ((qx3j kind pre p:Nat):Int))/\w.grownBy w' (some b)/\(qx3j kind pre p=0->TalL w' b mb kind (pre++[p])):=by
 obtain⟨seen,h1,h2⟩:=h;have CK:=fun W=>qhiu (qwgc p.id) (qavf p.id) (prow p.id).least kind p W (qyyb _) (Nat.lt_trans (qa46 _) (by decide)) hi hj ok;rw[qu2z kind p (fun hm=>(qznl hm).2.1)] at CK;have hbw:=h1.lt;have hmw:=h1.mlt;have hB:Below w.heap.size w (w.alloc (.cells #[.int .i64 p.id,.int .u32 p.n,.string (bs p.text),.string (bs p.value)] 82)):=(Below.refl _ _).alloc (Nat.le_refl _) _;have hS:AdS w b mb kind seen p (w.alloc (.cells #[.int .i64 p.id,.int .u32 p.n,.string (bs p.text),.string (bs p.value)] 82)).drew:=
  AdS.mk ok hB.drew (qrxu.made w p) ((h1.below hB hbw hmw).draws 1)
 obtain⟨C,hC⟩:∃C,qr4y kind p=C:=⟨_,rfl⟩
 obtain⟨s,hs⟩:∃s,qwgc p.id=s:=⟨_,rfl⟩
 obtain⟨k,hk⟩:∃k,qavf p.id=k:=⟨_,rfl⟩
 obtain⟨l,hl⟩:∃l,(prow p.id).least=l:=⟨_,rfl⟩
 have AC:=hid (fun W W' h hb=>AdS.call (w:=w) (W:=W) (W':=W') (b:=b) (mb:=mb) (kind:=kind) (seen:=seen) (p:=p) ok h hb);have LK:=hid (fun W (h:AdS w b mb kind seen p W)=>h.2.2.2.2.2.2.1);rw[hC,hs,hk,hl] at CK;rw[hs,hk,hl] at LK;have T0:qx3j kind pre p=(if C≠0 then C else if qxv1 kind pre p.id then 9 else 0):=by unfold qx3j;rw[hC]
 generalize qx3j kind pre p=tp at *;have T:=hid T0;clear T0;have HC:=hid hC;have H2:=hid h2;have OK:=hid ok;unfold qbhk q3al at *;have CK:=hid CK;clear hC hs hk hl h1 h2 ok hB;go_in;go_wp2_with fail
 go_region_held3 (fun w'=>w'.cell? ⟨w.heap.size,0,none⟩=some (.int .i64 p.id)/\w'.cell? ⟨w.heap.size,1,none⟩=some (.int .u32 p.n)/\w'.cell? ⟨w.heap.size,2,none⟩=some (.string (bs p.text))/\w'.cell? ⟨w.heap.size,3,none⟩=some (.string (bs p.value))/\w'.cell? ⟨b,0,none⟩=some (.int .i64 kind)/\w'.cell? ⟨b,1,none⟩=some (.map (some mb))/\
  (Instr.lookup 204 (.map (some mb)) (.int .i64 p.id) false).run prog w'=.ok (.agg #[.int .i64 s,.int .u32 k,.int .u32 l]) w'/\(Below w.heap.size w w'/\qrxu w' w.heap.size p/\q9fj w' b mb kind seen))
  (exact⟨hS.1,hS.2.1,hS.2.2.1,hS.2.2.2.1,hS.2.2.2.2.1,hS.2.2.2.2.2.1,LK.out _ hS,hS.2.2.2.2.2.2.2⟩)
  (first
   |(go_at_call 246;with_reducible refine(CK.out _).mono ?_;rintro e w1 ⟨rfl,hb⟩;have hS:=AC.out _ _ hS hb;clear hb))
 rename_i hHeld;clear hHeld CK AC LK;by_cases hC:C=0
 ·subst hC;have ck:=HC.out;obtain⟨i,hp⟩:∃i:Nat,p.id=(i:Int):=Int.eq_ofNat_of_zero_le (by have:=qilb (qo1o ck).1;omega);have hi42:i<=42:=by have:=qilb (qo1o ck).1;omega
  have hm:=(qo1o ck).1;have e1:qxv1 kind pre p.id=(hasP pre p.id&&!q5n9 kind p.id):=by unfold qxv1 quux;rw[hm,Bool.true_and];rfl
  have t:=T.out;rw[if_neg (by simp),e1] at t;have HA:=fun n=>q5ti (hS.2.2.2.2.2.2.2.2.2.draws n) i H2.out.1 (by omega);rw[H2.out.2 i hi42,<-hp] at HA;have RE:=fun W=>qfvw kind p.id W;generalize q5n9 kind p.id=r at *;generalize hasP pre p.id=a at *;have HS:=hid hS;have c0:=hS.1;have t0:=hS.2.2.2.2.1;have SH:Op.shift .shl .u64 1 .i64 p.id=pure (.int .u64 ((2^i:Nat):Int)):=by rw[hp];exact qsyg i hi42
  have SO:=H2.out.snoc hp hi42;have OR:bits BinOp.or IntKind.u64 (seen:Int) ((2^i:Nat):Int)=((seen ||| 2^i:Nat):Int):=bits_or_u64_nat _ _ H2.out.1 (Nat.lt_of_le_of_lt (Nat.pow_le_pow_right (by decide) hi42) (by decide));generalize seen ||| 2^i=seen2 at *
  generalize 2^i=q at *;have SO:=hid SO;have HI:=hid hi42;clear hi42;clear hS T ck hm e1 hp;have QA0:∀n,Calls prog 247 #[.pointer (some ⟨b,0,none⟩),.int .i64 p.id] (w1.drewN n) fun e w'=>e=.returned (.bool a)/\∃m,w'=w1.drewN m:=fun n=>(HA n).mono fun _ _ h=>⟨h.1,n,h.2.symm⟩
  have QR0:∀n,Calls prog 248 #[.int .i64 kind,.int .i64 p.id] (w1.drewN n) fun e w'=>e=.returned (.bool r)/\∃m,w'=w1.drewN m:=fun n=>(RE _).mono fun _ _ h=>⟨h.1,n,h.2.symm⟩
  have QA:=hid QA0;have QR:=hid QR0;have HB:=hid (fun n=>qnpu HS.out.2.2.2.2.2.2.2.1 n);clear HA RE QA0 QR0;cases a with
  |true=>
   cases r with
   |false=>rw[if_pos (by decide)] at t;subst t;go_wp2_with fail;go_quiet (first|(go_at_call 247;exact QA.out _)|(go_at_call 248;exact QR.out _));go_wp2;go_ret;exact⟨rfl,q9cp (HB.out _) _,fun h=>by cases h⟩
   |true=>
    rw[if_neg (by decide)] at t;subst t;go_wp2_with fail;go_quiet (first|(go_at_call 247;exact QA.out _)|(go_at_call 248;exact QR.out _));go_wp2_with fail;have HW:=hid (AdS.draws OK.out HS.out nq);generalize w1.drewN nq=W at *;clear c0 t0 HS QA QR HB;have c0:=HW.out.1;have t2:=HW.out.2.2.2.2.2.2.2.2.2.c2;have f2:=HW.out.2.2.2.2.2.2.2.2.2.fr 2
    go_region
    go_wp2;go_ret;exact⟨rfl,(qo6d (q9cp HW.out.2.2.2.2.2.2.2.1 (some b)) (q99v W b 2 _)).drew',⟨seen2,(HW.out.2.2.2.2.2.2.2.2.2.see seen2).draws 1,SO.out⟩⟩
  |false=>
   rw[if_neg (by simp)] at t;subst t;go_wp2_with fail;go_quiet (first|(go_at_call 247;exact QA.out _)|(go_at_call 248;exact QR.out _));go_wp2_with fail;have HW:=hid (AdS.draws OK.out HS.out nq);generalize w1.drewN nq=W at *;clear c0 t0 HS QA QR HB;have c0:=HW.out.1;have t2:=HW.out.2.2.2.2.2.2.2.2.2.c2;have f2:=HW.out.2.2.2.2.2.2.2.2.2.fr 2
   go_region
   go_wp2;go_ret;exact⟨rfl,(qo6d (q9cp HW.out.2.2.2.2.2.2.2.1 (some b)) (q99v W b 2 _)).drew',⟨seen2,(HW.out.2.2.2.2.2.2.2.2.2.see seen2).draws 1,SO.out⟩⟩
 ·have g1:((C:Int)==0)=false:=by simp;omega
  have g2:((C:Int) != 0)=true:=by simp;omega
  have t:=T.out;rw[if_pos hC] at t;subst t;have hb:=hS.2.2.2.2.2.2.2.1;go_wp2;go_ret;exact⟨rfl,q9cp hb _,fun h=>absurd h hC⟩
def qvy9(s n:Nat):Nat:=if s=1 then 1 else if s=2\/s=5\/s=6 then 2 else if s=3\/s=7 then 4 else sz n
theorem qrv6(s n:Nat):qvy9 s n<=4:=by
 unfold qvy9 sz
 repeat (first|omega|split)
theorem q65n(s n:Nat)(w:World)(hs:s<100)(hn:n<4294967296) :
 Calls prog 216 #[.int .i64 s,.int .u32 n] w fun e w'=>e=.returned (.int .i64 ((qvy9 s n:Nat):Int))/\w=w':=by
 unfold qvy9;by_cases s1:s=1
 ·subst s1;go_in;go_wp2;go_ret;exact⟨rfl,rfl⟩
 by_cases s2:s=2
 ·subst s2;go_in;go_wp2;go_ret;exact⟨rfl,rfl⟩
 by_cases s5:s=5
 ·subst s5;go_in;go_wp2;go_ret;exact⟨rfl,rfl⟩
 by_cases s6:s=6
 ·subst s6;go_in;go_wp2;go_ret;exact⟨rfl,rfl⟩
 by_cases s3:s=3
 ·subst s3;go_in;go_wp2;go_ret;exact⟨rfl,rfl⟩
 by_cases s7:s=7
 ·subst s7;go_in;go_wp2;go_ret;exact⟨rfl,rfl⟩
 rw[if_neg s1,if_neg (by omega),if_neg (by omega)];have g1:((s:Int)==1)=false:=by simp;omega
 have g2:((s:Int)==2)=false:=by simp;omega
 have g3:((s:Int)==3)=false:=by simp;omega
 have g5:((s:Int)==5)=false:=by simp;omega
 have g6:((s:Int)==6)=false:=by simp;omega
 have g7:((s:Int)==7)=false:=by simp;omega
 have SZ:=hid (fun W=>qk0d (n:Int) W);have hw:IntKind.i64.wrap (n:Int)=(n:Int):=by simp only[IntKind.wrap_i64];omega
 clear hn s1 s2 s3 s5 s6 s7;go_in;go_wp2_with fail;refine(SZ.out _).mono ?_;rintro e w' ⟨rfl,rfl⟩;go_wp2;go_ret;exact⟨rfl,rfl⟩
def qboz(s:Nat)(p:Pr):Nat:=1+qvy9 s p.n+p.text.length+p.value.length
theorem qytc(s:Nat)(p:Pr)(w:World)(hs:s<100)(hn:p.n<4294967296)(h1:p.text.length<=70000)(h2:p.value.length<=70000) :
 Calls prog 213 #[.int .i64 s,qbhk p] w fun e w'=>e=.returned (.int .i64 ((qboz s p:Nat):Int))/\Below w.heap.size w w':=by
 have FX:=fun W=>q65n s p.n W hs hn;have hf:=qrv6 s p.n;unfold qboz;have M:=hid (qrxu.made w p);have hB:Below w.heap.size w (w.alloc (.cells #[.int .i64 p.id,.int .u32 p.n,.string (bs p.text),.string (bs p.value)] 82)):=(Below.refl _ _).alloc (Nat.le_refl _) _;have HB:=hid (fun n=>qnpu hB n);have c1:=M.out.c1;have c2:=M.out.c2;have c3:=M.out.c3;have z1:=q5zk p.text;have z2:=q5zk p.value;generalize qvy9 s p.n=f at *;obtain⟨a,ha⟩:∃a:Int,((p.text.length:Nat):Int)=a:=⟨_,rfl⟩
 obtain⟨b,hb⟩:∃a:Int,((p.value.length:Nat):Int)=a:=⟨_,rfl⟩
 have l1:((bs p.text).size:Int)=a:=by rw[z1];exact ha
 have l2:((bs p.value).size:Int)=b:=by rw[z2];exact hb
 have hr:((1+f+p.text.length+p.value.length:Nat):Int)=1+(f:Int)+a+b:=by omega
 rw[hr];have a0:0<=a:=by omega
 have a1:a<=70000:=by omega
 have b0:0<=b:=by omega
 have b1:b<=70000:=by omega
 obtain⟨f',hf'⟩:∃a:Int,(f:Int)=a:=⟨_,rfl⟩
 rw[hf'] at FX;rw[hf'];have f0:0<=f':=by omega
 have f1:f'<=4:=by omega
 clear ha hb z1 z2 hr h1 h2 hf hf' hB hn;have w1:IntKind.i64.wrap (1+f')=1+f':=by simp only[IntKind.wrap_i64];omega
 have w2:IntKind.i64.wrap (1+f'+a)=1+f'+a:=by simp only[IntKind.wrap_i64];omega
 have w3:IntKind.i64.wrap (1+f'+a+b)=1+f'+a+b:=by simp only[IntKind.wrap_i64];omega
 have QF:∀n,Calls prog 216 #[.int .i64 s,.int .u32 p.n] ((w.alloc (.cells #[.int .i64 p.id,.int .u32 p.n,.string (bs p.text),.string (bs p.value)] 82)).drewN n) fun e w'=>e=.returned (.int .i64 f')/\∃m,w'=(w.alloc (.cells #[.int .i64 p.id,.int .u32 p.n,.string (bs p.text),.string (bs p.value)] 82)).drewN m:=fun n=>(FX _).mono fun _ _ h=>⟨h.1,n,h.2.symm⟩
 have QF1:=hid QF;clear QF FX;unfold qbhk;go_in;go_wp2_with fail;go_quiet (first|(go_at_call 216;exact QF1.out _));go_wp2;go_ret;exact⟨rfl,HB.out _⟩
theorem qttn{kind:Int}{p:Pr}(h:qr4y kind p=0):qboz (qwgc p.id) p=(oneP p).length/\p.text.length<=65535/\p.value.length<=65535/\(oneP p).length<=131075:=by
 obtain⟨hm,h4,h5⟩:=qo1o h;obtain⟨r1,r2,f1,f2,f3,f4,_⟩:=qznl hm;have key:qboz (qwgc p.id) p=(oneP p).length/\p.text.length<=65535/\p.value.length<=65535:=by
  rw[qnrl];unfold qboz qvy9 qgdb;by_cases s4:qwgc p.id<=4
  ·obtain⟨e1,e2,_,hn⟩:=h4 s4;rw[e1,e2]
   have:qwgc p.id=1\/qwgc p.id=2\/qwgc p.id=3\/qwgc p.id=4:=by omega
   rcases this with h|h|h|h<;>rw[h]<;>simp[q0rl,q8sw]<;>omega
  ·obtain⟨e1,hv7,hv6,hvt⟩:=h5 (by omega)
   have:qwgc p.id=5\/qwgc p.id=6\/qwgc p.id=7:=by omega
   rcases this with h|h|h
   ·have e2:=hv7 (by omega);have l1:=((qbv6 _).1 (hvt (by omega)).1).1;rw[h,e2];simp[qnp6];omega
   ·have e2:=hv7 (by omega);have l1:=hv6 h;rw[h,e2];simp[qnp6];omega
   ·have l1:=((qbv6 _).1 (hvt (by omega)).1).1;have l2:=((qbv6 _).1 (hvt (by omega)).2).1;rw[h];simp[qnp6];omega
 refine⟨key.1,key.2.1,key.2.2,?_⟩;rw[<-key.1];unfold qboz
 have:=qrv6 (qwgc p.id) p.n
 omega
theorem q2ss(kind:Int)(pre:List Pr)(p:Pr)(l:List Pr):q09m kind pre (p::l)=if qx3j kind pre p≠0 then qx3j kind pre p else q09m kind (pre++[p]) l:=by
 rw[q09m];unfold qx3j;by_cases h:qr4y kind p≠0
 ·rw[if_pos h,if_pos h,if_pos h]
 ·rw[if_neg h,if_neg h];by_cases h2:qxv1 kind pre p.id=true
  ·rw[if_pos h2,if_pos h2];rfl
  ·rw[if_neg h2,if_neg h2];rfl
theorem qbq1{kind:Int}{pre:List Pr}{p:Pr}(h:qx3j kind pre p=0):qr4y kind p=0:=by
 unfold qx3j at h;by_cases hc:qr4y kind p=0
 ·exact hc
 ·rw[if_pos hc] at h;exact h
theorem TalL.lt{W:World}{b mb:Nat}{kind:Int}{l:List Pr}(h:TalL W b mb kind l):b<W.heap.size/\mb<W.heap.size:=by obtain⟨s,h1,_⟩:=h;exact⟨h1.lt,h1.mlt⟩
theorem TalL.below{W W':World}{b mb:Nat}{kind:Int}{l:List Pr}(h:TalL W b mb kind l)(hb:Below W.heap.size W W'):TalL W' b mb kind l:=by obtain⟨s,h1,h2⟩:=h;exact⟨s,h1.below hb h1.lt h1.mlt,h2⟩
theorem TalL.alloc{W:World}{b mb:Nat}{kind:Int}{l:List Pr}(h:TalL W b mb kind l)(o:Obj):TalL (W.alloc o) b mb kind l:=h.below ((Below.refl _ _).alloc (Nat.le_refl _) _)
theorem TalL.draws{W:World}{b mb:Nat}{kind:Int}{l:List Pr}(h:TalL W b mb kind l)(n:Nat):TalL (W.drewN n) b mb kind l:=h
def MeS(w:World)(b mb v:Nat)(kind:Int)(p:Pr)(pre:List Pr)(W:World):Prop:=
 W.cell? ⟨v,0,none⟩=some (.int .i64 p.id)/\W.cell? ⟨v,1,none⟩=some (.int .u32 p.n)/\W.cell? ⟨v,2,none⟩=some (.string (bs p.text))/\W.cell? ⟨v,3,none⟩=some (.string (bs p.value))/\
 W.cell? ⟨b,1,none⟩=some (.map (some mb))/\
 (Instr.lookup 204 (.map (some mb)) (.int .i64 p.id) false).run prog W=.ok (q3al (qwgc p.id) (qavf p.id) (prow p.id).least) W/\
 (qrxu W v p/\TalL W b mb kind pre/\w.grownBy W (some b))
theorem MeS.mk{w W:World}{b mb v:Nat}{kind:Int}{p:Pr}{pre:List Pr}(ok:PrOk p)(h1:qrxu W v p)(h2:TalL W b mb kind pre)(h3:w.grownBy W (some b)):MeS w b mb v kind p pre W:=by obtain⟨s,t1,t2⟩:=h2;exact⟨h1.c0,h1.c1,h1.c2,h1.c3,t1.c1,t1.2.look ok.lo ok.hi,h1,⟨s,t1,t2⟩,h3⟩
theorem MeS.call{w W W':World}{b mb v:Nat}{kind:Int}{p:Pr}{pre:List Pr}(ok:PrOk p)(h:MeS w b mb v kind p pre W)(hb:Below W.heap.size W W'):MeS w b mb v kind p pre W':=by obtain⟨_,_,_,_,_,_,h1,h2,h3⟩:=h;exact MeS.mk ok (h1.below hb h1.lt) (h2.below hb) (qo6d h3 (q9cp hb _))
theorem MeS.drew{w W:World}{b mb v:Nat}{kind:Int}{p:Pr}{pre:List Pr}(ok:PrOk p)(h:MeS w b mb v kind p pre W):MeS w b mb v kind p pre W.drew:=by obtain⟨_,_,_,_,_,_,h1,h2,h3⟩:=h;exact MeS.mk ok h1 (h2.draws 1) h3.drew'
theorem qyea{w:World}{b mb:Nat}{kind:Int}(g i c:Nat)(l:List Pr)(h:TalL w b mb kind [])(hi:-9223372036854775808<=kind)(hj:kind<=9223372036854775807)(hl:PL w (some ⟨g,i,none⟩) l)(_hg:g<w.heap.size)(hgb:g≠b)(hn:l.length<=1000)(hc:l.length<=c)(ok:∀p∈l,PrOk p) :
 Calls prog 171 #[.pointer (some ⟨b,0,none⟩),.slice (some ⟨g,i,none⟩) l.length c] w fun e w'=>e=.returned (.tuple #[.int .i64 ((if qpyu kind l=0 then(q636 l).length else 0:Nat):Int),.int .i64 ((qpyu kind l:Nat):Int)])/\w.grownBy w' (some b)/\(qpyu kind l=0->TalL w' b mb kind l):=by
 obtain⟨n,hN⟩:∃n,l.length=n:=⟨_,rfl⟩
 rw[hN] at hn hc ⊢;have HN:=hid hN;have HL:=hid hl;have OK:=hid ok;have H0:=hid h;have hn2:(n:Int)<=1000:=by omega
 clear hN hl ok h hn;obtain⟨V,hV⟩:∃V,qpyu kind l=V:=⟨_,rfl⟩
 obtain⟨T,hT⟩:∃T,(if V=0 then(q636 l).length else 0)=T:=⟨_,rfl⟩
 rw[hV,hT];have HV:=hid hV;have HT:=hid hT;clear hV hT;go_in;go_wp2_with fail
 go_loopg [16,6] n (fun gk s16 s6 wx=>∃k t:Nat,k<=n/\gk=n-k/\s16=.int .i64 (k:Int)/\s6=.int .i64 (t:Int)/\t=(q636 (l.take k)).length/\t<=131075*k/\q09m kind (l.take k) (l.drop k)=q09m kind [] l/\TalL wx b mb kind (l.take k)/\w.grownBy wx (some b))
 case atStart=>exact⟨0,0,by omega,by omega,rfl,rfl,rfl,by omega,rfl,H0.out,World.grownBy.refl _ _⟩
 case round=>
  obtain⟨k,t,hk,hgk,rfl,rfl,ht,ht2,hE,hTl,hG⟩:=hrel;by_cases hlt:k<n
  ·have hkl:k<l.length:=by rw[HN.out];exact hlt
   obtain⟨p,hp⟩:∃p,l[k]?=some p:=⟨_,List.getElem?_eq_getElem hkl⟩
   obtain⟨g',i',e',hg',c0,c1,c2,c3⟩:=(HL.out.grown hG (fun g' i' e=>by cases e;exact hgb)).at hp;cases e';have g1:(k:Int)<(n:Int):=by omega
   have hG:=hid hG;have okp:=OK.out p (List.mem_of_getElem? hp);have hdr:l.drop k=p::l.drop (k+1):=by rw[List.drop_eq_getElem_cons hkl];congr 1;rw[List.getElem?_eq_getElem hkl] at hp;exact Option.some.inj hp
   have htk:l.take (k+1)=l.take k++[p]:=by rw[List.take_add_one,hp];rfl
   rw[hdr,q2ss] at hE;have AD:=hid (q42n (w:=wr.alloc (.cells #[.int .i64 p.id,.int .u32 p.n,.string (bs p.text),.string (bs p.value)] 82)) p (hTl.alloc _) hi hj okp);have hv:wr.heap.size≠b:=by have:=hTl.lt.1;omega
   have G1:=hid (qo6d hG (World.grownBy_alloc wr (.cells #[.int .i64 p.id,.int .u32 p.n,.string (bs p.text),.string (bs p.value)] 82) (some b)));have P1:=hid (qrxu.made wr p);have HE:=hid hE;have HTK:=hid htk;have HT2:=hid ht2;have HTT:=hid ht;have OKP:=hid okp;clear hG hTl hE htk hdr ht ht2 okp;obtain⟨tp,htp⟩:∃tp,qx3j kind (l.take k) p=tp:=⟨_,rfl⟩
   rw[htp] at AD HE;have HTP:=hid htp;clear htp;unfold qbhk at AD;go_wp2_with fail;refine(AD.out).mono ?_;rintro e w2 ⟨rfl,hg2,ht3⟩;have htp:=HTP.out;by_cases hz:tp=0
   ·subst hz;have ck:=qbq1 htp;obtain⟨z1,z2,z3,z4⟩:=qttn ck;have hS:=MeS.drew OKP.out (MeS.mk OKP.out (P1.out.of_block (hg2.block _ P1.out.lt (fun x=>hv (Option.some.inj x)))) (ht3 rfl) (qo6d G1.out hg2));have PS:=fun W=>qytc (qwgc p.id) p W (qyyb _) OKP.out.n (by omega) (by omega);rw[z1] at PS;have h1:(q636 (l.take (k+1))).length=t+(oneP p).length:=by rw[HTK.out,qd67,List.length_append,<-HTT.out];show _=t+(oneP p).length;rw[qhx5,qodo,List.append_nil]
    have hE2:=HE.out;rw[if_neg (by simp)] at hE2;rw[<-HTK.out] at hS hE2;have MC:=hid (fun W W' h hb=>MeS.call (w:=w) (W:=W) (W':=W') (b:=b) (mb:=mb) (v:=wr.heap.size) (kind:=kind) (p:=p) (pre:=l.take (k+1)) OKP.out h hb);have LK:=hid (fun W (h:MeS w b mb wr.heap.size kind p (l.take (k+1)) W)=>h.2.2.2.2.2.1);have ht2:=HT2.out;generalize (oneP p).length=o at *;generalize qwgc p.id=s at *;generalize qavf p.id=kk at *;generalize (prow p.id).least=ll at *;have hw:IntKind.i64.wrap ((t:Int)+(o:Int))=((t+o:Nat):Int):=by simp only[IntKind.wrap_i64];omega
    have FD:=qyw9 s kk ll;unfold qbhk at PS;unfold q3al at LK FD;have PS1:=hid PS;have H1:=hid h1;have HE3:=hid hE2;have HZ4:=hid z4;clear PS h1 hE2 z4 ht2 z1 z2 z3 ck htp ht3 hg2 c0 c1 c2 c3 HTT HE HTK HTP G1 P1;go_wp2_with fail
    go_region_held3 (fun w'=>w'.cell? ⟨wr.heap.size,0,none⟩=some (.int .i64 p.id)/\w'.cell? ⟨wr.heap.size,1,none⟩=some (.int .u32 p.n)/\w'.cell? ⟨wr.heap.size,2,none⟩=some (.string (bs p.text))/\w'.cell? ⟨wr.heap.size,3,none⟩=some (.string (bs p.value))/\w'.cell? ⟨b,1,none⟩=some (.map (some mb))/\
     (Instr.lookup 204 (.map (some mb)) (.int .i64 p.id) false).run prog w'=.ok (.agg #[.int .i64 s,.int .u32 kk,.int .u32 ll]) w'/\(qrxu w' wr.heap.size p/\TalL w' b mb kind (l.take (k+1))/\w.grownBy w' (some b)))
     (exact⟨hS.1,hS.2.1,hS.2.2.1,hS.2.2.2.1,hS.2.2.2.2.1,LK.out _ hS,hS.2.2.2.2.2.2⟩)
     (first
      |(go_at_call 213;with_reducible refine(PS1.out _).mono ?_;rintro e w1 ⟨rfl,hb⟩;have hS:=MC.out _ _ hS hb;clear hb))
    rename_i hHeld;have hF:=hS.2.2.2.2.2.2;clear hHeld hS;have HF:=hid hF;clear hF;go_wp2_with fail
    go_roundg (n-(k+1))
    case measure=>omega
    case rel=>exact⟨k+1,t+o,by omega,rfl,by go_num,by go_num,H1.out.symm,by have:=HZ4.out;have:=HT2.out;omega,HE3.out,HF.out.2.1,HF.out.2.2⟩
   ·have hE2:=HE.out;rw[if_pos hz] at hE2;have g1:((tp:Int)==0)=false:=by simp;omega
    have g2:((tp:Int) != 0)=true:=by simp;omega
    have hv2:V=tp:=by rw[<-HV.out];unfold qpyu;rw[if_neg (by have:=HN.out;omega),<-hE2,if_pos hz]
    have ht4:T=0:=by rw[<-HT.out,if_neg (by rw[hv2];exact hz)]
    subst hv2;subst ht4;have G3:=hid (qo6d G1.out hg2);clear hg2 ht3 htp hE2;go_wp2
    go_ret2
    exact⟨rfl,G3.out,fun h=>absurd h hz⟩
  ·obtain rfl:k=n:=by omega
   have ht1:l.take k=l:=List.take_of_length_le (by rw[HN.out];omega);have hd1:l.drop k=[]:=List.drop_of_length_le (by rw[HN.out];omega);rw[ht1] at hTl ht hE;rw[hd1] at hE;have hE:q09m kind [] l=0:=hE.symm;have EN:=hid (qtn3 hTl);have hV:=HV.out;unfold qpyu at hV;rw[if_neg (by have:=HN.out;omega),if_neg (by simp[hE])] at hV;have HG:=hid hG;have HTL:=hid hTl;have h3:t<=131075000:=by omega
   clear hE hG hTl ht1 hd1;cases hlo:qwyx l with
   |true=>
    rw[hlo] at EN hV;rw[if_pos rfl] at hV;subst hV;have hT:T=0:=by rw[<-HT.out];rfl
    subst hT;clear HV HT ht2 ht;go_wp2_with fail;refine(EN.out).mono ?_;rintro e w2 ⟨rfl,rfl⟩;go_wp2
    go_ret2
    exact⟨rfl,HG.out,fun h=>by cases h⟩
   |false=>
    rw[hlo] at EN hV;rw[if_neg (by simp),if_neg (by omega)] at hV;subst hV;have hT:T=t:=by rw[<-HT.out,ht];rfl
    subst hT;have h4:(T:Int)<=131075000:=by omega
    clear HV HT ht2 ht h3;go_wp2_with fail;refine(EN.out).mono ?_;rintro e w2 ⟨rfl,rfl⟩;go_wp2
    go_ret2
    exact⟨rfl,HG.out,HTL.out⟩
theorem qwrj{B b:Nat}{W W':World}(hg:W.grownBy W' (some b))(hB:B<=W.heap.size)(hr:B<=b):Below B W W':=
 ⟨hg.os,hg.tape,hg.output,hg.size,fun k hk=>hg.block k (Nat.lt_of_lt_of_le hk hB) (fun e=>by have:=Option.some.inj e;omega)⟩
theorem qb0w{w:World}{b mb:Nat}{kind:Int}(A:Option Addr)(c:Nat)(h:TalL w b mb kind []) :
 Calls prog 171 #[.pointer (some ⟨b,0,none⟩),.slice A 0 c] w fun e w'=>e=.returned (.tuple #[.int .i64 0,.int .i64 0])/\w=w':=by
 have EN:=qtn3 h;change Calls _ _ _ _ (fun e w'=>e=Ending.returned (.int .i64 0)/\_) at EN;have EN:=hid EN;go_in;go_wp2_with fail;refine wp_loop_rounds 1 ?_;rw[rounds_succ];go_wp2_with fail;refine(EN.out).mono ?_;rintro e w2 ⟨rfl,rfl⟩;go_wp2
 go_ret2
 exact⟨rfl,rfl⟩
theorem qs4j{w:World}{b n:Nat}(A:Option Addr)(c:Nat)(hn:1000<n) :
 Calls prog 171 #[.pointer (some ⟨b,0,none⟩),.slice A n c] w fun e w'=>e=.returned (.tuple #[.int .i64 0,.int .i64 4])/\w=w':=by
 have h:(1000:Int)<(n:Int):=by omega
 clear hn;go_in;go_wp2
 go_ret2
 exact⟨rfl,rfl⟩
theorem q2yl{w:World}{b mb:Nat}{kind:Int}(A:Option Addr)(n c:Nat)(l:List Pr)(h:TalL w b mb kind [])(hi:-9223372036854775808<=kind)(hj:kind<=9223372036854775807)(hl:PL w A l)(hgb:∀g i,A=some ⟨g,i,none⟩->l≠[]->g≠b)(hn:l.length=n)(hc:n<=c)(ok:∀p∈l,PrOk p) :
 Calls prog 171 #[.pointer (some ⟨b,0,none⟩),.slice A n c] w fun e w'=>e=.returned (.tuple #[.int .i64 ((if qpyu kind l=0 then(q636 l).length else 0:Nat):Int),.int .i64 ((qpyu kind l:Nat):Int)])/\w.grownBy w' (some b)/\(qpyu kind l=0->TalL w' b mb kind l):=by
 subst hn;by_cases h0:l=[]
 ·subst h0;exact(qb0w A c h).mono fun e w' ⟨he,hw⟩=>⟨he,hw▸World.grownBy.refl _ _,fun _=>hw▸h⟩
 by_cases h1:1000<l.length
 ·have hv:qpyu kind l=4:=by unfold qpyu;rw[if_pos h1]
  rw[hv];exact(qs4j A c h1).mono fun e w' ⟨he,hw⟩=>⟨he,hw▸World.grownBy.refl _ _,fun h=>by cases h⟩
 ·obtain⟨g,i,rfl,hg⟩:=hl.addr h0;exact qyea g i c l h hi hj hl hg (hgb g i rfl h0) (by omega) hc ok
theorem qirc(kind:Int)(A:Option Addr)(n c:Nat)(l:List Pr)(w:World)(hi:-9223372036854775808<=kind)(hj:kind<=9223372036854775807)(hl:PL w A l)(hn:l.length=n)(hc:n<=c)(ok:∀p∈l,PrOk p) :
 Calls prog 151 #[.int .i64 kind,.slice A n c] w fun e w'=>e=.returned (.int .i64 ((qpyu kind l:Nat):Int))/\Below w.heap.size w w':=by
 have MS:=hid (fun W b mb (h:TalL W b mb kind []) hP hg=>q2yl (w:=W) (b:=b) (mb:=mb) A n c l h hi hj hP hg hn hc ok);have HL:=hid hl;generalize qpyu kind l=V at *;generalize hT:(if V=0 then(q636 l).length else 0:Nat)=T at *;clear hT hn hc ok hl;go_in;go_wp2_with fail;refine(qkou kind w).mono ?_;rintro e w1 ⟨b,mb,rfl,ht,hb,hb2,hm2⟩;have M1:=hid (MS.out w1 b mb ⟨0,ht,q6mr.nil⟩ (HL.out.below hb) (fun g i e hne=>by obtain⟨g',i',e',hg'⟩:=HL.out.addr hne;rw[e] at e';cases e';omega))
 have HB:=hid hb;have B2:=hid hb2;clear ht hb hm2 hb2 MS HL;go_wp2_with fail;refine(M1.out).mono ?_;rintro e w2 ⟨rfl,hg,_⟩;have HG:=hid (HB.out.trans (qwrj hg HB.out.size B2.out));clear hg;go_wp2;go_ret;exact⟨rfl,HG.out⟩
end Go.Proofs.YtefmhbioggcfaaaGreatDoor
