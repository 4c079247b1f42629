/- The chapter's example of layer 12: polyglotlaw12.lives; a packet that has only a kind and a code. No condition. -/
import Derived.Deep.DeepCutAuto
import Derived.Great.BuildSlice
import Derived.Deep.QuietTactic
import Derived.WalkSmall
import Derived.Maps.AppendAt
import Derived.Deep.AppendLies
import Derived.Test.YtbklidpadffpgaaGreatK39
import Derived.Test.YtbklidpadffpgaaGreatK19
import Derived.Test.YtbklidpadffpgaaGreatK08
import Derived.Test.YtbklidpadffpgaaGreatK07
import Derived.Test.YtbklidpadffpgaaGreatK11
import Derived.Test.YtbklidpadffpgaaGreatK23
import Derived.Test.YtbklidpadffpgaaGreatK17
import Derived.Test.YtbklidpadffpgaaGreatK21
set_option maxRecDepth 100000
set_option maxHeartbeats 2000000
namespace Go.Proofs.YtbklidpadffpgaaGreat
open Go.RowKit
theorem qd1l{k c:Int}(hk:0≤k∧k≤255):PkOk (numK k c):=by
 refine⟨by show _≤k∧k≤_;omega,by show _≤(0:Int)∧(0:Int)≤_;decide,fun t ht=>?_,fun x hx=>(nomatch hx),fun x hx=>(nomatch hx),fun x hx=>(nomatch hx)⟩
 have:t=[]:=by simpa [Pk.texts,Pk.zero,numK] using ht
 rw[this];decide
theorem qau5{k c:Int}(v:Int)(hk:0≤k∧k≤255)(w:World):Calls Tryz.prog 7 #[.int .i64 v,.agg (pkC (numK k c) adZ)] w fun e w'=>e = .returned (.tuple #[.string (bs (q2jl v (numK k c)).1),.int .i64 ((q2jl v (numK k c)).2:Nat)])∧Below w.heap.size w w':=
 qck4 v (numK k c) adZ w (qx9v _ w ⟨rfl,rfl,rfl,rfl⟩) ⟨Nat.zero_le _,Nat.zero_le _,Nat.zero_le _,Nat.zero_le _⟩ (qd1l hk) (Nat.zero_le _)
theorem qpnd(w:World):Calls Tryz.prog 6 #[] w fun e w'=>e = .returned (.bool true)∧Below w.heap.size w w':=by
 have B1:=fun W=>qau5 (k:=14) (c:=0) 5 (by decide) W
 have B2:=fun W=>qau5 (k:=14) (c:=4) 5 (by decide) W
 rw[qjrk] at B1
 rw[qlci] at B2
 obtain⟨D,hD⟩:∃D,pkC (numK 14 0) adZ=D:=⟨_,rfl⟩
 obtain⟨E,hE⟩:∃D,pkC (numK 14 4) adZ=D:=⟨_,rfl⟩
 rw[hD] at B1
 rw[hE] at B2
 have HD:=Lib.hid hD
 have HE:=Lib.hid hE
 replace B1:=Lib.hid B1
 replace B2:=Lib.hid B2
 have hzv:=qrai
 have hne:¬pkZ=#[]:=by intro h;have:=qbwp;rw[h] at this;cases this
 clear hD hE
 go_enter Tryz.func6,Tryz.ntmps6
 go_wp2_with (refine wpList_buildTo rfl 35 _ rfl (some _) rfl D (by rw[←HD.out];kernel_rfl) ?_)
 refine(B1.out _).mono ?_
 rintro e W ⟨rfl,hb⟩
 have L1:=Lib.hid hb
 clear hb
 go_wp2_with (refine wpList_buildTo rfl 35 _ rfl (some _) rfl E (by rw[←HE.out];kernel_rfl) ?_)
 refine(B2.out _).mono ?_
 rintro e W2 ⟨rfl,hb⟩
 have L2:=Lib.hid (qxh2 L1.out hb)
 clear hb
 have h1:((bs []).toList==[])=true:=by rw[q0c6];decide
 have h2:((bs [4]).toList==[4])=true:=by rw[q0c6];decide
 go_wp2_with fail
 go_ret
 exact⟨rfl,L2.out⟩
theorem qvch:(Tryz.prog.info? 25).map (fun i=>(i.zero,i.size,i.bytes))=some (some (.agg #[.int .i64 0,.int .u32 0,.string .empty,.string .empty]),4,48):=by kernel_rfl
theorem qi9z(A:Option Addr)(c:Nat)(w:World) :
 Calls Tryz.prog 32 #[.slice A 0 c] w fun e w'=>∃v,e = .returned v∧w'.ownsRow w.heap.size 25 4 v 0 (pcs [])∧Below w.heap.size w w':=by
 obtain⟨i0,hi,hz0,hz1,hz2⟩:=info_parts qvch
 cases A with
 | none=>
  go_enter Tryz.func32,Tryz.ntmps32
  go_wp2_with fail
  go_ret
  exact⟨_,rfl,World.ownsRow_made w #[] 0 (Nat.le_refl _) (by decide) rfl,(Below.refl _ _).alloc (Nat.le_refl _) _⟩
 | some a=>
  go_enter Tryz.func32,Tryz.ntmps32
  go_wp2_with (at_builtin;refine wpList_append_own _ rfl _ _ 26 rfl w.heap.size 25 i0 (.agg #[.int .i64 0,.int .u32 0,.string .empty,.string .empty]) 4 48 Tryz.underlying26 hi hz0 hz1 hz2 rfl (by decide) _ 0 [] rfl (World.ownsRow_made w #[] 0 (Nat.le_refl _) (by decide) rfl) a 0 c (pcs []) rfl (qv9di []) (fun j u hu=>by simp[pcs] at hu) (qtvz []) (by decide) (by decide) (by simp) ?_;intro v' w1 hown hgrow _)
  go_ret
  rw[Nat.zero_add,List.nil_append] at hown
  refine⟨_,rfl,hown,⟨hgrow.os,hgrow.tape,hgrow.output,by have:=hgrow.size;simp at this;omega,fun k hk=>?_⟩⟩
  rw[hgrow.block k (by rw[World.size_alloc];omega) (fun e=>by have e2:k=w.heap.size:=Option.some.inj e;omega)]
  exact(Below.heap_alloc w _ k hk)
theorem q5pb(g i c:Nat)(l:List Pr)(w:World)(ha:PL w (some ⟨g,i,none⟩) l)(hl:l.length≤2000) :
 Calls Tryz.prog 32 #[.slice (some ⟨g,i,none⟩) l.length c] w fun e w'=>∃v,e = .returned v∧w'.ownsRow w.heap.size 25 4 v l.length (pcs l)∧Below w.heap.size w w':=by
 obtain⟨i0,hi,hz0,hz1,hz2⟩:=info_parts qvch
 have src:∀j u,(pcs l)[j]? = some u→(w.alloc (.cells #[] 25)).cell? ((⟨g,i,none⟩:Addr).add j)=some u:=fun j u hu=>by
  have hj:j < l.length*4:=by
   have:=(List.getElem?_eq_some_iff.1 hu).1
   rwa [qv9di] at this
  obtain⟨p,hp⟩:∃p,l[j / 4]? = some p:=⟨_,List.getElem?_eq_getElem (by omega)⟩
  obtain⟨g',i',e',hg,a0,a1,a2,a3⟩:=ha.at hp
  cases e'
  have e1:j=j / 4*4+j%4:=by omega
  have hq:(pcs l)[j]? = (pc p)[j%4]? := by
   have:=qsrc l (j / 4) (j%4) p hp (by omega)
   rwa [←e1] at this
  rw[hu] at hq
  have hadd:(⟨g,i,none⟩:Addr).add j=⟨g,i+j,none⟩:=Addr.add_lit g i j
  rw[hadd,World.cell?_alloc_old _ _ _ (Nat.ne_of_lt hg)]
  have hr:j%4=0∨j%4=1∨j%4=2∨j%4=3:=by omega
  rcases hr with h | h | h | h
  ·rw[h] at hq;rw[show i+j=i+j / 4*4 by omega,a0];exact hq.symm
  ·rw[h] at hq;rw[show i+j=i+j / 4*4+1 by omega,a1];exact hq.symm
  ·rw[h] at hq;rw[show i+j=i+j / 4*4+2 by omega,a2];exact hq.symm
  ·rw[h] at hq;rw[show i+j=i+j / 4*4+3 by omega,a3];exact hq.symm
 have SRC:=Lib.hid src
 have HL:=Lib.hid hl
 clear src ha hl
 go_enter Tryz.func32,Tryz.ntmps32
 go_wp2_with (at_builtin;refine wpList_append_own _ rfl _ _ 26 rfl w.heap.size 25 i0 (.agg #[.int .i64 0,.int .u32 0,.string .empty,.string .empty]) 4 48 Tryz.underlying26 hi hz0 hz1 hz2 rfl (by decide) _ 0 [] rfl (World.ownsRow_made w #[] 0 (Nat.le_refl _) (by decide) rfl) ⟨g,i,none⟩ l.length c (pcs l) rfl (qv9di l) SRC.out (qtvz l) (by have:=HL.out;simp only[maxLen];omega) (by have:=HL.out;omega) (by simp) ?_;intro v' w1 hown hgrow _)
 go_ret
 rw[Nat.zero_add,List.nil_append] at hown
 refine⟨_,rfl,hown,⟨hgrow.os,hgrow.tape,hgrow.output,by have:=hgrow.size;simp at this;omega,fun k hk=>?_⟩⟩
 rw[hgrow.block k (by rw[World.size_alloc];omega) (fun e=>by have e2:k=w.heap.size:=Option.some.inj e;omega)]
 exact(Below.heap_alloc w _ k hk)
theorem q56q(A:Option Addr)(n c:Nat)(l:List Pr)(w:World)(ha:PL w A l)(hn:l.length=n)(hl:n≤2000) :
 Calls Tryz.prog 32 #[.slice A n c] w fun e w'=>∃v,e = .returned v∧w'.ownsRow w.heap.size 25 4 v n (pcs l)∧Below w.heap.size w w':=by
 subst hn
 by_cases h:l=[]
 ·subst h
  exact qi9z A c w
 ·obtain⟨g,i,rfl,_⟩:=ha.addr h
  exact q5pb g i c l w ha hl
theorem q58f{W W':World}{base n size:Nat}{t:TypeId}{v:Value}{xs:List Value}(h:W.ownsRow base t size v n xs)(hg:W.grownBy W' v.ownBlock)(hb:base≤W.heap.size):Below base W W':=by
 rcases h.2 with ⟨rfl,_⟩ | ⟨g,cap,cur,rfl,hbg,_⟩
 ·exact⟨hg.os,hg.tape,hg.output,hg.size,fun k hk=>hg.block k (Nat.lt_of_lt_of_le hk hb) (fun e=>by cases e)⟩
 ·exact qwrj hg hb hbg
theorem PL.cells{W:World}{g i:Nat}{l:List Pr}(h:PL W (some ⟨g,i,none⟩) l):∀j u,(pcs l)[j]? = some u→W.cell? ((⟨g,i,none⟩:Addr).add j)=some u:=fun j u hu=>by
 have hj:j < l.length*4:=by
  have:=(List.getElem?_eq_some_iff.1 hu).1
  rwa [qv9di] at this
 obtain⟨p,hp⟩:∃p,l[j / 4]? = some p:=⟨_,List.getElem?_eq_getElem (by omega)⟩
 obtain⟨g',i',e',hg,a0,a1,a2,a3⟩:=h.at hp
 cases e'
 have e1:j=j / 4*4+j%4:=by omega
 have hq:(pcs l)[j]? = (pc p)[j%4]? := by
  have:=qsrc l (j / 4) (j%4) p hp (by omega)
  rwa [←e1] at this
 rw[hu] at hq
 rw[Addr.add_lit g i j]
 have hr:j%4=0∨j%4=1∨j%4=2∨j%4=3:=by omega
 rcases hr with h | h | h | h
 ·rw[h] at hq;rw[show i+j=i+j / 4*4 by omega,a0];exact hq.symm
 ·rw[h] at hq;rw[show i+j=i+j / 4*4+1 by omega,a1];exact hq.symm
 ·rw[h] at hq;rw[show i+j=i+j / 4*4+2 by omega,a2];exact hq.symm
 ·rw[h] at hq;rw[show i+j=i+j / 4*4+3 by omega,a3];exact hq.symm
theorem qyqq{W:World}{v:Value}{base nA g i m c:Nat}{L M:List Pr}(ty:TypeId)(hown:W.ownsRow base 25 4 v nA (pcs L))(hM:PL W (some ⟨g,i,none⟩) M)(hm:M.length=m)(hn:nA+m≤3000)(hb:base≤W.heap.size) :
 ∃v' w',(Builtin.append_ #[26,26] ty #[v,.slice (some ⟨g,i,none⟩) m c]).run Tryz.prog W = .ok v' w'∧w'.ownsRow base 25 4 v' (nA+m) (pcs (L++M))∧Below base W w':=by
 obtain⟨i0,hi,hz0,hz1,hz2⟩:=info_parts qvch
 obtain⟨v',w',hr,h2,h3,_,_⟩:=run_append_own_at (P:=Tryz.prog) W base 26 ty 25 i0 (.agg #[.int .i64 0,.int .u32 0,.string .empty,.string .empty]) 4 48 Tryz.underlying26 hi hz0 hz1 hz2 rfl (by decide) v nA (pcs L) hown ⟨g,i,none⟩ m c (pcs M) (by rw[qv9di,hm]) hM.cells (qtvz M) (by simp only[maxLen];omega) (by omega) hb
 rw[←qdoo] at h2
 exact⟨v',w',hr,h2,q58f hown h3 hb⟩
theorem q2qx{P:Program}{W:World}{o:Oper}{a:Act}{K:Act→World→Prop}{Q:Exit→Act→World→Prop}(s x:Operand)(t:TypeId)
 (ho:o.op = .call {callee := .builtin .append,args:=#[s,x],argTypes:=#[t,t]}) {v sl v':Value} {w':World} (hs:a.eval s=v) (hx:a.eval x=sl)
 (hr:(Builtin.append_ #[t,t] o.type #[v,sl]).run P W = .ok v' w') (h:K (a.put o.dst v') w'):o.wp P a W K Q:=by
 unfold Oper.wp execOp
 simp only[ho,resolve,invoke,builtin,Sem.run_bind,Sem.run_pure,Result.andThen_ok,List.map_toArray,List.map_cons,List.map_nil,hs,hx,hr]
 exact h
theorem qvgk{W:World}{o:Oper}{a:Act}{K:Act→World→Prop}{Q:Exit→Act→World→Prop}(s x:Operand)
 (ho:o.op = .call {callee := .builtin .append,args:=#[s,x],argTypes:=#[26,26]})
 {v:Value} {base nA g i m c:Nat} {L M:List Pr} (hs:a.eval s=v) (hx:a.eval x = .slice (some ⟨g,i,none⟩) m c) (hown:W.ownsRow base 25 4 v nA (pcs L)) (hM:PL W (some ⟨g,i,none⟩) M) (hm:M.length=m) (hn:nA+m≤3000) (hb:base≤W.heap.size)
 (h:∀v' w',w'.ownsRow base 25 4 v' (nA+m) (pcs (L++M))→Below base W w'→K (a.put o.dst v') w'):o.wp Tryz.prog a W K Q:=by
 obtain⟨v',w',hr,h2,h3⟩:=qyqq o.type hown hM hm hn hb
 exact q2qx s x _ ho hs hx hr (h v' w' h2 h3)
theorem qyte:(Tryz.prog.info? 3).map (fun i=>(i.zero,i.size,i.bytes))=some (some (.int .i64 0),1,8):=by kernel_rfl
theorem qot5(A:Option Addr)(n c:Nat)(l:List Int)(w:World)(ha:CL w A (ics l))(hn:l.length=n)(hl:n≤2000) :
 Calls Tryz.prog 30 #[.slice A n c] w fun e w'=>∃v,e = .returned v∧w'.ownsRow w.heap.size 3 1 v n (ics l)∧Below w.heap.size w w':=by
 subst hn
 obtain⟨i0,hi,hz0,hz1,hz2⟩:=info_parts qyte
 cases A with
 | none=>
  have hnil:l=[]:=by
   cases l with
   | nil=>rfl
   | cons x l=>obtain⟨g,i,e,_⟩:=ha (by simp[ics]);cases e
  subst hnil
  clear ha
  go_enter Tryz.func30,Tryz.ntmps30
  go_wp2_with fail
  go_ret
  exact⟨_,rfl,World.ownsRow_made w #[] 0 (Nat.le_refl _) (by decide) rfl,(Below.refl _ _).alloc (Nat.le_refl _) _⟩
 | some a=>
  have SRC:=Lib.hid (show ∀j u,(ics l)[j]? = some u→(w.alloc (.cells #[] 3)).cell? (a.add j)=some u from fun j u hu=>by
   obtain⟨g,i,e,hg,hc⟩:=ha (by intro e;rw[e] at hu;cases hu)
   cases e
   rw[show(⟨g,i,none⟩:Addr).add j=⟨g,i+j,none⟩ from Addr.add_lit g i j,World.cell?_alloc_old _ _ _ (Nat.ne_of_lt hg)]
   exact hc j u hu)
  have HL:=Lib.hid hl
  clear ha hl
  go_enter Tryz.func30,Tryz.ntmps30
  go_wp2_with (at_builtin;refine wpList_append_own _ rfl _ _ 32 rfl w.heap.size 3 i0 (.int .i64 0) 1 8 Tryz.underlying32 hi hz0 hz1 hz2 rfl (by decide) _ 0 [] rfl (World.ownsRow_made w #[] 0 (Nat.le_refl _) (by decide) rfl) a l.length c (ics l) rfl (by rw[ql3l,Nat.mul_one]) SRC.out (qceb l) (by have:=HL.out;simp only[maxLen];omega) (by have:=HL.out;omega) (by simp) ?_;intro v' w1 hown hgrow _)
  go_ret
  rw[Nat.zero_add,List.nil_append] at hown
  refine⟨_,rfl,hown,⟨hgrow.os,hgrow.tape,hgrow.output,by have:=hgrow.size;simp at this;omega,fun k hk=>?_⟩⟩
  rw[hgrow.block k (by rw[World.size_alloc];omega) (fun e=>by have e2:k=w.heap.size:=Option.some.inj e;omega)]
  exact(Below.heap_alloc w _ k hk)
theorem q7zn:(Tryz.prog.info? 52).map (fun i=>(i.zero,i.size,i.bytes))=some (some (.agg #[.string .empty,.int .i64 0,.bool false,.bool false,.int .i64 0]),5,40):=by kernel_rfl
theorem qk6n(A:Option Addr)(n c:Nat)(l:List Fi)(w:World)(ha:CL w A (fcs l))(hn:l.length=n)(hl:n≤2000) :
 Calls Tryz.prog 31 #[.slice A n c] w fun e w'=>∃v,e = .returned v∧w'.ownsRow w.heap.size 52 5 v n (fcs l)∧Below w.heap.size w w':=by
 subst hn
 obtain⟨i0,hi,hz0,hz1,hz2⟩:=info_parts q7zn
 cases A with
 | none=>
  have hnil:l=[]:=by
   cases l with
   | nil=>rfl
   | cons x l=>obtain⟨g,i,e,_⟩:=ha (by simp[fcs,quk6]);cases e
  subst hnil
  clear ha
  go_enter Tryz.func31,Tryz.ntmps31
  go_wp2_with fail
  go_ret
  exact⟨_,rfl,World.ownsRow_made w #[] 0 (Nat.le_refl _) (by decide) rfl,(Below.refl _ _).alloc (Nat.le_refl _) _⟩
 | some a=>
  have SRC:=Lib.hid (show ∀j u,(fcs l)[j]? = some u→(w.alloc (.cells #[] 52)).cell? (a.add j)=some u from fun j u hu=>by
   obtain⟨g,i,e,hg,hc⟩:=ha (by intro e;rw[e] at hu;cases hu)
   cases e
   rw[show(⟨g,i,none⟩:Addr).add j=⟨g,i+j,none⟩ from Addr.add_lit g i j,World.cell?_alloc_old _ _ _ (Nat.ne_of_lt hg)]
   exact hc j u hu)
  have HL:=Lib.hid hl
  clear ha hl
  go_enter Tryz.func31,Tryz.ntmps31
  go_wp2_with (at_builtin;refine wpList_append_own _ rfl _ _ 33 rfl w.heap.size 52 i0 (.agg #[.string .empty,.int .i64 0,.bool false,.bool false,.int .i64 0]) 5 40 Tryz.underlying33 hi hz0 hz1 hz2 rfl (by decide) _ 0 [] rfl (World.ownsRow_made w #[] 0 (Nat.le_refl _) (by decide) rfl) a l.length c (fcs l) rfl (q4av l) SRC.out (qpp4 l) (by have:=HL.out;simp only[maxLen];omega) (by have:=HL.out;omega) (by simp) ?_;intro v' w1 hown hgrow _)
  go_ret
  rw[Nat.zero_add,List.nil_append] at hown
  refine⟨_,rfl,hown,⟨hgrow.os,hgrow.tape,hgrow.output,by have:=hgrow.size;simp at this;omega,fun k hk=>?_⟩⟩
  rw[hgrow.block k (by rw[World.size_alloc];omega) (fun e=>by have e2:k=w.heap.size:=Option.some.inj e;omega)]
  exact(Below.heap_alloc w _ k hk)
structure OwS(w:World)(p:Pk)(a:Ad)(x:OwG)(W:World):Prop where
 low:Below w.heap.size w W
 box:W.heap[w.heap.size]? = some (.cells (pkC p (qnt6 a x)) 35 (0,0))
 res:W.heap[w.heap.size+1]? = some (.cells pkZ 35 (0,0))
 l0:2≤x.s 0→CL W (x.A 0) (ics p.codes)∧p.codes.length≤x.c 0∧∀g i,x.A 0=some ⟨g,i,none⟩→w.heap.size+1 < g
 l1:2≤x.s 1→CL W (x.A 1) (fcs p.filters)∧p.filters.length≤x.c 1∧∀g i,x.A 1=some ⟨g,i,none⟩→w.heap.size+1 < g
 l2:2≤x.s 2→PL W (x.A 2) p.props∧p.props.length≤x.c 2∧∀g i,x.A 2=some ⟨g,i,none⟩→w.heap.size+1 < g
 l3:2≤x.s 3→PL W (x.A 3) p.wProps∧p.wProps.length≤x.c 3∧∀g i,x.A 3=some ⟨g,i,none⟩→w.heap.size+1 < g
section
variable{w W W':World}{p:Pk}{a:Ad}{x:OwG}
theorem CL.other{A:Option Addr}{cs:List Value}(h:CL W A cs)(b j:Nat)(u:Value)(hne:∀g i,A=some ⟨g,i,none⟩→b < g):CL (W.setCell ⟨b,j,none⟩ u) A cs:=
 h.kept (q99v W b j u).size fun g i e _=>heap_setCell_other W ⟨b,j,none⟩ g u (by have:=hne g i e;show g≠b;omega)
theorem PL.other{A:Option Addr}{l:List Pr}(h:PL W A l)(b j:Nat)(u:Value)(hne:∀g i,A=some ⟨g,i,none⟩→b < g):PL (W.setCell ⟨b,j,none⟩ u) A l:=
 h.kept (q99v W b j u).size fun g i e _=>heap_setCell_other W ⟨b,j,none⟩ g u (by have:=hne g i e;show g≠b;omega)
theorem OwS.below(h:OwS w p a x W)(hb:Below W.heap.size W W'):OwS w p a x W':=
 ⟨qxh2 h.low hb,(hb.block _ (lt_of_block h.box)).trans h.box,(hb.block _ (lt_of_block h.res)).trans h.res,
  fun e=>⟨(h.l0 e).1.below hb,(h.l0 e).2⟩,fun e=>⟨(h.l1 e).1.below hb,(h.l1 e).2⟩,fun e=>⟨(h.l2 e).1.below hb,(h.l2 e).2⟩,fun e=>⟨(h.l3 e).1.below hb,(h.l3 e).2⟩⟩
theorem OwS.made(w:World)(p:Pk)(a:Ad):OwS w p a OwG.none ((w.alloc (.cells (pkC p a) 35)).alloc (.cells pkZ 35)):=
 ⟨qxh2 (qybm _) (qybm _),heap_alloc2_old _ _ _,heap_alloc2_new _ _ _,fun e=>absurd e (by decide),fun e=>absurd e (by decide),fun e=>absurd e (by decide),fun e=>absurd e (by decide)⟩
theorem OwS.load(h:OwS w p a x W){k:Nat}(hk:k < 4)(hs:x.s k=0):OwS w p a (x.to k 1) W:=by
 have hn:∀i,2≤(x.to k 1).s i→2≤x.s i:=fun i hi=>by
  unfold OwG.to at hi
  by_cases e:i=k
  ·subst e;simp at hi
  ·simpa [e] using hi
 have ha:qnt6 a (x.to k 1)=qnt6 a x:=by
  obtain rfl | rfl | rfl | rfl:k=0∨k=1∨k=2∨k=3:=by omega
  all_goals simp[qnt6,OwG.to,hs]
 exact⟨h.low,by rw[ha];exact h.box,h.res,fun e=>h.l0 (hn 0 e),fun e=>h.l1 (hn 1 e),fun e=>h.l2 (hn 2 e),fun e=>h.l3 (hn 3 e)⟩
theorem qdsl(a:Ad)(x:OwG)(k:Nat)(A:Option Addr)(c:Nat)(hs:x.s k=1):qnt6 a (x.got k A c)=qnt6 a x:=by
 unfold qnt6 OwG.got
 by_cases e0:0=k
 ·subst e0;simp[hs]
 by_cases e1:1=k
 ·subst e1;simp[hs]
 by_cases e2:2=k
 ·subst e2;simp[hs]
 by_cases e3:3=k
 ·subst e3;simp[hs]
 simp[e0,e1,e2,e3]
theorem OwS.store0(h:OwS w p a x W)(hs:x.s 0=2):OwS w p a (x.to 0 3) (W.setCell ⟨w.heap.size,22,none⟩ (.slice (x.A 0) p.codes.length (x.c 0))):=
 ⟨qo4g h.low (Nat.le_refl _),qv6p h.box (by simp[pkC,qnt6,OwG.to]),(heap_setCell_other W ⟨w.heap.size,22,none⟩ _ _ (by show w.heap.size+1≠w.heap.size;omega)).trans h.res,
  fun _=>⟨(h.l0 (by omega)).1.other _ _ _ (fun g i e=>by have:=(h.l0 (by omega)).2.2 g i e;omega),(h.l0 (by omega)).2⟩,
  fun e=>⟨(h.l1 e).1.other _ _ _ (fun g i f=>by have:=(h.l1 e).2.2 g i f;omega),(h.l1 e).2⟩,fun e=>⟨(h.l2 e).1.other _ _ _ (fun g i f=>by have:=(h.l2 e).2.2 g i f;omega),(h.l2 e).2⟩,fun e=>⟨(h.l3 e).1.other _ _ _ (fun g i f=>by have:=(h.l3 e).2.2 g i f;omega),(h.l3 e).2⟩⟩
theorem OwS.store1(h:OwS w p a x W)(hs:x.s 1=2):OwS w p a (x.to 1 3) (W.setCell ⟨w.heap.size,23,none⟩ (.slice (x.A 1) p.filters.length (x.c 1))):=
 ⟨qo4g h.low (Nat.le_refl _),qv6p h.box (by simp[pkC,qnt6,OwG.to]),(heap_setCell_other W ⟨w.heap.size,23,none⟩ _ _ (by show w.heap.size+1≠w.heap.size;omega)).trans h.res,
  fun e=>⟨(h.l0 e).1.other _ _ _ (fun g i f=>by have:=(h.l0 e).2.2 g i f;omega),(h.l0 e).2⟩,
  fun _=>⟨(h.l1 (by omega)).1.other _ _ _ (fun g i e=>by have:=(h.l1 (by omega)).2.2 g i e;omega),(h.l1 (by omega)).2⟩,
  fun e=>⟨(h.l2 e).1.other _ _ _ (fun g i f=>by have:=(h.l2 e).2.2 g i f;omega),(h.l2 e).2⟩,fun e=>⟨(h.l3 e).1.other _ _ _ (fun g i f=>by have:=(h.l3 e).2.2 g i f;omega),(h.l3 e).2⟩⟩
theorem OwS.store2(h:OwS w p a x W)(hs:x.s 2=2):OwS w p a (x.to 2 3) (W.setCell ⟨w.heap.size,24,none⟩ (.slice (x.A 2) p.props.length (x.c 2))):=
 ⟨qo4g h.low (Nat.le_refl _),qv6p h.box (by simp[pkC,qnt6,OwG.to]),(heap_setCell_other W ⟨w.heap.size,24,none⟩ _ _ (by show w.heap.size+1≠w.heap.size;omega)).trans h.res,
  fun e=>⟨(h.l0 e).1.other _ _ _ (fun g i f=>by have:=(h.l0 e).2.2 g i f;omega),(h.l0 e).2⟩,fun e=>⟨(h.l1 e).1.other _ _ _ (fun g i f=>by have:=(h.l1 e).2.2 g i f;omega),(h.l1 e).2⟩,
  fun _=>⟨(h.l2 (by omega)).1.other _ _ _ (fun g i e=>by have:=(h.l2 (by omega)).2.2 g i e;omega),(h.l2 (by omega)).2⟩,
  fun e=>⟨(h.l3 e).1.other _ _ _ (fun g i f=>by have:=(h.l3 e).2.2 g i f;omega),(h.l3 e).2⟩⟩
theorem OwS.store3(h:OwS w p a x W)(hs:x.s 3=2):OwS w p a (x.to 3 3) (W.setCell ⟨w.heap.size,19,none⟩ (.slice (x.A 3) p.wProps.length (x.c 3))):=
 ⟨qo4g h.low (Nat.le_refl _),qv6p h.box (by simp[pkC,qnt6,OwG.to]),(heap_setCell_other W ⟨w.heap.size,19,none⟩ _ _ (by show w.heap.size+1≠w.heap.size;omega)).trans h.res,
  fun e=>⟨(h.l0 e).1.other _ _ _ (fun g i f=>by have:=(h.l0 e).2.2 g i f;omega),(h.l0 e).2⟩,fun e=>⟨(h.l1 e).1.other _ _ _ (fun g i f=>by have:=(h.l1 e).2.2 g i f;omega),(h.l1 e).2⟩,
  fun e=>⟨(h.l2 e).1.other _ _ _ (fun g i f=>by have:=(h.l2 e).2.2 g i f;omega),(h.l2 e).2⟩,
  fun _=>⟨(h.l3 (by omega)).1.other _ _ _ (fun g i e=>by have:=(h.l3 (by omega)).2.2 g i e;omega),(h.l3 (by omega)).2⟩⟩
end
def q981(w:World)(p:Pk)(e:Ending)(W:World):Prop:=
 ∃a:Ad,e = .returned (.agg (pkC p a))∧PkAt W p a∧(p.props.length≤a.pc∧p.wProps.length≤a.wc)∧Below w.heap.size w W
theorem qzxl(p:Pk)(a:Ad)(w:World)(hp:PkAt w p a)(h1:p.codes.length≤2000)(h2:p.filters.length≤2000)(h3:p.props.length≤2000)(h4:p.wProps.length≤2000) :
 Calls Tryz.prog 14 #[.agg (pkC p a)] w (q981 w p):=by
 have S0:=Lib.hid (OwS.made w p a)
 have O0:=fun(x:OwG) W (h:OwS w p a x W) (hs:x.s 0=1)=>(qot5 a.cs p.codes.length a.cc p.codes W (hp.below h.low).cs rfl h1).mono fun e W' hh=>(show ∃A c,e = .returned (.slice A p.codes.length c)∧OwS w p a (x.got 0 A c) W' by
  obtain⟨v,he,ho,hb⟩:=hh
  obtain⟨A,c,rfl,hc,hC,hg⟩:=CL.owned ho (by rw[ql3l,Nat.mul_one])
  have k:=h.below hb
  have hlt:=lt_of_block h.res
  exact⟨A,c,he,k.low,by rw[qdsl _ _ _ _ _ hs];exact k.box,k.res,fun _=>⟨hC,hc,fun g i e=>by have:=hg g i e;omega⟩,fun e=>k.l1 e,fun e=>k.l2 e,fun e=>k.l3 e⟩)
 have O1:=fun(x:OwG) W (h:OwS w p a x W) (hs:x.s 1=1)=>(qk6n a.fs p.filters.length a.fc p.filters W (hp.below h.low).fs rfl h2).mono fun e W' hh=>(show ∃A c,e = .returned (.slice A p.filters.length c)∧OwS w p a (x.got 1 A c) W' by
  obtain⟨v,he,ho,hb⟩:=hh
  obtain⟨A,c,rfl,hc,hC,hg⟩:=CL.owned ho (by rw[q4av])
  have k:=h.below hb
  have hlt:=lt_of_block h.res
  exact⟨A,c,he,k.low,by rw[qdsl _ _ _ _ _ hs];exact k.box,k.res,fun e=>k.l0 e,fun _=>⟨hC,hc,fun g i e=>by have:=hg g i e;omega⟩,fun e=>k.l2 e,fun e=>k.l3 e⟩)
 have O2:=fun(x:OwG) W (h:OwS w p a x W) (hs:x.s 2=1)=>(q56q a.ps p.props.length a.pc p.props W (hp.below h.low).ps rfl h3).mono fun e W' hh=>(show ∃A c,e = .returned (.slice A p.props.length c)∧OwS w p a (x.got 2 A c) W' by
  obtain⟨v,he,ho,hb⟩:=hh
  obtain⟨A,c,rfl,hc,hC,hg⟩:=PL.owned ho rfl
  have k:=h.below hb
  have hlt:=lt_of_block h.res
  exact⟨A,c,he,k.low,by rw[qdsl _ _ _ _ _ hs];exact k.box,k.res,fun e=>k.l0 e,fun e=>k.l1 e,fun _=>⟨hC,hc,fun g i e=>by have:=hg g i e;omega⟩,fun e=>k.l3 e⟩)
 have O3:=fun(x:OwG) W (h:OwS w p a x W) (hs:x.s 3=1)=>(q56q a.w p.wProps.length a.wc p.wProps W (hp.below h.low).w rfl h4).mono fun e W' hh=>(show ∃A c,e = .returned (.slice A p.wProps.length c)∧OwS w p a (x.got 3 A c) W' by
  obtain⟨v,he,ho,hb⟩:=hh
  obtain⟨A,c,rfl,hc,hC,hg⟩:=PL.owned ho rfl
  have k:=h.below hb
  have hlt:=lt_of_block h.res
  exact⟨A,c,he,k.low,by rw[qdsl _ _ _ _ _ hs];exact k.box,k.res,fun e=>k.l0 e,fun e=>k.l1 e,fun e=>k.l2 e,fun _=>⟨hC,hc,fun g i e=>by have:=hg g i e;omega⟩⟩)
 have HZ:=Lib.hid qbwp
 have hzv:=qrai
 have hne:¬pkZ=#[]:=by intro h;have:=qbwp;rw[h] at this;cases this
 have O0:=Lib.hid O0
 have O1:=Lib.hid O1
 have O2:=Lib.hid O2
 have O3:=Lib.hid O3
 clear hp h1 h2 h3 h4
 go_enter Tryz.func14,Tryz.ntmps14
 go_upto_region 1 with fail
 refine qc1g (S:=fun x W=>OwS w p a x W) (b:=w.heap.size) (p:=p) (a:=a) (S0.out.below (by exact(Below.refl _ _).drew)) (fun x w h=>h.box) (fun k x w hk h hs=>h.load hk hs) O0.out (fun x w h hs=>h.store0 hs) O1.out (fun x w h hs=>h.store1 hs) O2.out (fun x w h hs=>h.store2 hs) O3.out (fun x w h hs=>h.store3 hs) ?_
 intro x W hS hs
 have hA:PkAt W p (qnt6 a x):=by
  unfold qnt6
  rw[if_pos hs.1,if_pos hs.2.1,if_pos hs.2.2.1,if_pos hs.2.2.2]
  simp only[if_pos hs.1,if_pos hs.2.1,if_pos hs.2.2.1,if_pos hs.2.2.2]
  exact⟨(hS.l3 (by omega)).1,(hS.l0 (by omega)).1,(hS.l1 (by omega)).1,(hS.l2 (by omega)).1⟩
 have hC:p.props.length≤(qnt6 a x).pc∧p.wProps.length≤(qnt6 a x).wc:=by
  unfold qnt6
  simp only[if_pos hs.2.2.1,if_pos hs.2.2.2]
  exact⟨(hS.l2 (by omega)).2.1,(hS.l3 (by omega)).2.1⟩
 have hG:(∀g i,(qnt6 a x).w=some ⟨g,i,none⟩→w.heap.size+1 < g)∧(∀g i,(qnt6 a x).cs=some ⟨g,i,none⟩→w.heap.size+1 < g)∧(∀g i,(qnt6 a x).fs=some ⟨g,i,none⟩→w.heap.size+1 < g)∧(∀g i,(qnt6 a x).ps=some ⟨g,i,none⟩→w.heap.size+1 < g):=by
  unfold qnt6
  simp only[if_pos hs.1,if_pos hs.2.1,if_pos hs.2.2.1,if_pos hs.2.2.2]
  exact⟨(hS.l3 (by omega)).2.2,(hS.l0 (by omega)).2.2,(hS.l1 (by omega)).2.2,(hS.l2 (by omega)).2.2⟩
 have GB:=hS.box
 generalize qnt6 a x=b at *
 have hE1:=qwmp p b
 have hE2:=qmz0 p b
 have RT:q981 w p (.returned (.agg (pkC p b))) (W.setRow (w.heap.size+1) (pkC p b)):=by
  have hr:=fun(A:Option Addr) (hg:∀g i,A=some ⟨g,i,none⟩→w.heap.size+1 < g)=>(fun g i e (_:g < W.heap.size)=>setRow_other W (w.heap.size+1) g (pkC p b) (by have:=hg g i e;omega):∀g i,A=some ⟨g,i,none⟩→g < W.heap.size→(W.setRow (w.heap.size+1) (pkC p b)).heap[g]? = W.heap[g]?)
  have hz:W.heap.size≤(W.setRow (w.heap.size+1) (pkC p b)).heap.size:=by simp[World.setRow]
  exact⟨b,rfl,⟨hA.w.kept hz (hr _ hG.1),hA.cs.kept hz (hr _ hG.2.1),hA.fs.kept hz (hr _ hG.2.2.1),hA.ps.kept hz (hr _ hG.2.2.2)⟩,hC,q8xz hS.low (by omega) _⟩
 obtain⟨E,hE⟩:∃E,pkC p b=E:=⟨_,rfl⟩
 rw[hE] at hE1 hE2 GB RT
 have GR:=Lib.hid hS.res
 have HE1:=Lib.hid hE1
 have HE2:=Lib.hid hE2
 have GB:=Lib.hid GB
 have RT:=Lib.hid RT
 clear hE1 hE2 hE hS hs hA hC hG O0 O1 O2 O3 S0
 go_wp2_with (first
  | (refine wpList_load_row rfl _ _ rfl w.heap.size rfl 35 E (0,0) _ GB.out Tryz.underlying35 rfl (by rw[HE1.out];exact q5nr) ?_)
  | (refine wpList_store_row rfl _ _ _ rfl (w.heap.size+1) E rfl rfl 35 _ GR.out (by rw[HE1.out];exact q5nr) (by rw[HZ.out,HE1.out]) HE2.out ?_))
 exact q7wi (cs:=E) rfl rfl rfl Tryz.underlying35 rfl (by rw[HE1.out];exact q5nr) (setRow_heap _ _ _ _ _ _ GR.out) RT.out
end Go.Proofs.YtbklidpadffpgaaGreat
