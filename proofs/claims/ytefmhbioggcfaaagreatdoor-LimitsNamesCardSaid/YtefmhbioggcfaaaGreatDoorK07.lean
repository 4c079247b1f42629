/- A property as a value, a list of properties as it lies in memory: qk87 an address, as cells, in a row that is owned. Condition: none. -/
import Derived.Test.YtefmhbioggcfaaaGreatDoorK03
import Derived.Test.YtefmhbioggcfaaaGreatDoorK06
namespace Go.Proofs.YtefmhbioggcfaaaGreatDoor
open Go.RowKit
def qbhk(p:Pr):Value := .agg #[.int .i64 p.id,.int .u32 p.n,.string (bs p.text),.string (bs p.value)]
structure PrOk(p:Pr):Prop where
 lo:-9223372036854775808<=p.id
 hi:p.id<=9223372036854775807
 n:p.n<4294967296
 text:p.text.length<=9223372036854775807
 value:p.value.length<=9223372036854775807
def qrxu(W:World)(b:Nat)(p:Pr):Prop:=W.heap[b]?=some (.cells #[.int .i64 p.id,.int .u32 p.n,.string (bs p.text),.string (bs p.value)] 82 (0,0))
section
variable{W W':World}{b:Nat}{p:Pr}
theorem qrxu.lt(h:qrxu W b p):b<W.heap.size:=lt_of_block h
theorem qrxu.cell(h:qrxu W b p)(j:Nat):W.cell? ⟨b,j,none⟩=(#[.int .i64 p.id,.int .u32 p.n,.string (bs p.text),.string (bs p.value)]:Array Value)[j]? := cell_of_row W b j _ _ (0,0) h
theorem qrxu.c0(h:qrxu W b p):W.cell? ⟨b,0,none⟩=some (.int .i64 p.id):=h.cell 0
theorem qrxu.c1(h:qrxu W b p):W.cell? ⟨b,1,none⟩=some (.int .u32 p.n):=h.cell 1
theorem qrxu.c2(h:qrxu W b p):W.cell? ⟨b,2,none⟩=some (.string (bs p.text)):=h.cell 2
theorem qrxu.c3(h:qrxu W b p):W.cell? ⟨b,3,none⟩=some (.string (bs p.value)):=h.cell 3
theorem qrxu.of_block(h:qrxu W b p)(hb:W'.heap[b]?=W.heap[b]?):qrxu W' b p:=hb.trans h
theorem qrxu.below(h:qrxu W b p){B:Nat}(hb:Below B W W')(hB:b<B):qrxu W' b p:=h.of_block (hb.block b hB)
theorem qrxu.made(W:World)(p:Pr):qrxu (W.alloc (.cells #[.int .i64 p.id,.int .u32 p.n,.string (bs p.text),.string (bs p.value)] 82)) W.heap.size p:=heap_alloc_new W _
end
def PL(W:World)(A:Option Addr)(l:List Pr):Prop:=
 l≠[]->∃g i,A=some ⟨g,i,none⟩/\g<W.heap.size/\∀j p,l[j]?=some p->
  W.cell? ⟨g,i+j*4,none⟩=some (.int .i64 p.id)/\W.cell? ⟨g,i+j*4+1,none⟩=some (.int .u32 p.n)/\W.cell? ⟨g,i+j*4+2,none⟩=some (.string (bs p.text))/\W.cell? ⟨g,i+j*4+3,none⟩=some (.string (bs p.value))
theorem PL.nil{W:World}{A:Option Addr}:PL W A []:=fun h=>absurd rfl h
theorem PL.kept{W W':World}{A:Option Addr}{l:List Pr}(h:PL W A l)(hs:W.heap.size<=W'.heap.size)(hb:∀g i,A=some ⟨g,i,none⟩->g<W.heap.size->W'.heap[g]?=W.heap[g]?):PL W' A l:=fun hne=>by obtain⟨g,i,e,hg,hc⟩:=h hne;have he:=hb g i e hg;refine⟨g,i,e,Nat.lt_of_lt_of_le hg hs,fun j p hj=>?_⟩;obtain⟨h0,h1,h2,h3⟩:=hc j p hj;exact⟨(World.cell?_of_block (a:=⟨g,i+j*4,none⟩) he).trans h0,(World.cell?_of_block (a:=⟨g,i+j*4+1,none⟩) he).trans h1,(World.cell?_of_block (a:=⟨g,i+j*4+2,none⟩) he).trans h2,(World.cell?_of_block (a:=⟨g,i+j*4+3,none⟩) he).trans h3⟩
theorem PL.below{W W':World}{A:Option Addr}{l:List Pr}(h:PL W A l)(hb:Below W.heap.size W W'):PL W' A l:=h.kept hb.size fun g _ _ hg=>hb.block g hg
theorem PL.grown{W W':World}{A:Option Addr}{l:List Pr}{b:Nat}(h:PL W A l)(hb:W.grownBy W' (some b))(hne:∀g i,A=some ⟨g,i,none⟩->g≠b):PL W' A l:=h.kept hb.size fun g i e hg=>hb.block g hg (fun x=>hne g i e (Option.some.inj x))
theorem PL.at{W:World}{A:Option Addr}{l:List Pr}(h:PL W A l){j:Nat}{p:Pr}(hj:l[j]?=some p):∃g i,A=some ⟨g,i,none⟩/\g<W.heap.size/\
 W.cell? ⟨g,i+j*4,none⟩=some (.int .i64 p.id)/\W.cell? ⟨g,i+j*4+1,none⟩=some (.int .u32 p.n)/\W.cell? ⟨g,i+j*4+2,none⟩=some (.string (bs p.text))/\W.cell? ⟨g,i+j*4+3,none⟩=some (.string (bs p.value)):=by
 obtain⟨g,i,e,hg,hc⟩:=h (by rintro rfl;simp at hj);exact⟨g,i,e,hg,hc j p hj⟩
theorem PL.addr{W:World}{A:Option Addr}{l:List Pr}(h:PL W A l)(hne:l≠[]):∃g i,A=some ⟨g,i,none⟩/\g<W.heap.size:=by obtain⟨g,i,e,hg,_⟩:=h hne;exact⟨g,i,e,hg⟩
def pc(p:Pr):List Value:=[.int .i64 p.id,.int .u32 p.n,.string (bs p.text),.string (bs p.value)]
def pcs(l:List Pr):List Value:=l.flatMap pc
theorem qrcu(p:Pr)(l:List Pr):pcs (p::l)=pc p++pcs l:=rfl
theorem qdoo(a b:List Pr):pcs (a++b)=pcs a++pcs b:=by simp[pcs]
theorem qv9di:∀(l:List Pr),(pcs l).length=l.length*4
 |[]=>rfl
 |p::l=>by rw[qrcu,List.length_append,qv9di l,List.length_cons];show 4+_=_;omega
theorem qsrc:∀(l:List Pr) (j c:Nat) (p:Pr),l[j]?=some p->c<4->(pcs l)[j*4+c]?=(pc p)[c]?
 |[],j,c,p,h,_=>by simp at h
 |q::l,0,c,p,h,hc=>by
  simp at h;subst h;rw[qrcu,List.getElem?_append_left (by show _<4;omega)]
  congr 1;omega
 |q::l,j+1,c,p,h,hc=>by
  rw[qrcu,List.getElem?_append_right (by show 4<=_;omega)]
  have:(j+1)*4+c-(pc q).length=j*4+c:=by show _-4=_;omega
  rw[this];exact qsrc l j c p (by simpa using h) hc
theorem qtvz(l:List Pr):∀u∈pcs l,u.oneCell'=true:=fun u hu=>by unfold pcs at hu;obtain⟨p,_,hp⟩:=List.mem_flatMap.1 hu;unfold pc at hp;simp at hp;rcases hp with rfl|rfl|rfl|rfl<;>rfl
theorem PL.of_cells{W:World}{g:Nat}{cs:Array Value}{t:TypeId}{l:List Pr}(hg:W.heap[g]?=some (.cells cs t (0,0)))(h:∀(j:Nat) (u:Value),(pcs l)[j]?=some u->cs[j]?=some u):PL W (some ⟨g,0,none⟩) l:=fun _=>by
 refine⟨g,0,rfl,lt_of_block hg,fun j p hj=>?_⟩;have hc:∀c,c<4->W.cell? ⟨g,0+j*4+c,none⟩=(pc p)[c]? := fun c hc=>by rw[cell_of_row W g _ cs _ _ hg];have h1:=qsrc l j c p hj hc;have h2:(pc p)[c]?=some ((pc p)[c]'hc):=List.getElem?_eq_getElem hc;rw[h2] at h1 ⊢;rw[Nat.zero_add];exact h _ _ h1
 exact⟨hc 0 (by decide),hc 1 (by decide),hc 2 (by decide),hc 3 (by decide)⟩
theorem PL.made(W:World)(l:List Pr)(cs:Array Value)(t:TypeId)(h:cs=(pcs l).toArray):PL (W.alloc (.cells cs t)) (some ⟨W.heap.size,0,none⟩) l:=
 PL.of_cells (heap_alloc_new W _) (fun j u hu=>by rw[h];simpa using hu)
theorem PL.owned{W:World}{base n:Nat}{v:Value}{l:List Pr}{t:TypeId}(h:W.ownsRow base t 4 v n (pcs l))(hn:n=l.length) :
 ∃A c,v=.slice A n c/\n<=c/\PL W A l/\∀g i,A=some ⟨g,i,none⟩->base<=g:=by
 rcases h.2 with ⟨rfl,h0⟩|⟨g,cap,cur,rfl,hb,hg,hc,_,_,hcur⟩
 ·subst h0
  have:l=[]:=List.length_eq_zero_iff.1 hn.symm
  subst this;exact⟨none,0,rfl,Nat.le_refl _,PL.nil,fun g i e=>by cases e⟩
 ·refine⟨_,cap,rfl,hc,PL.of_cells hg (fun j u hu=>?_),fun g' i e=>by cases e;exact hb⟩;rw[<-hcur] at hu;have hj:j<n*4:=by
   have:=(List.getElem?_eq_some_iff.1 hu).1
   rw[List.length_take] at this;omega
  rw[List.getElem?_take_of_lt hj] at hu;simpa using hu
theorem PL.drop{W:World}{g i:Nat}{l:List Pr}(h:PL W (some ⟨g,i,none⟩) l)(k:Nat):PL W (some ⟨g,i+k*4,none⟩) (l.drop k):=fun hne=>by
 have hne2:l≠[]:=by rintro rfl;simp at hne
 obtain⟨g',i',e,hg,hc⟩:=h hne2;cases e;refine⟨_,_,rfl,hg,fun j p hj=>?_⟩;rw[List.getElem?_drop] at hj
 have:=hc (k+j) p hj
 rw[show i+(k+j)*4=i+k*4+j*4 by omega] at this;exact this
theorem PL.take{W:World}{A:Option Addr}{l:List Pr}(h:PL W A l)(k:Nat):PL W A (l.take k):=fun hne=>by
 have hne2:l≠[]:=by rintro rfl;simp at hne
 obtain⟨g,i,e,hg,hc⟩:=h hne2;refine⟨g,i,e,hg,fun j p hj=>?_⟩;rw[List.getElem?_take] at hj;split at hj
 ·exact hc j p hj
 ·cases hj
end Go.Proofs.YtefmhbioggcfaaaGreatDoor
