/- Bytes one qk87 the other, and how many. Condition: none. -/
import Derived.Lib.Hide
import Derived.WalkKit
import Derived.Lib.Walk
import Derived.Lib.Tables
import Derived.Laws.ResultCell
import Derived.OwnWalk
import Derived.Deep.LoopGhost
import Derived.Deep.QuietTactic
import Derived.Test.YtbecggefmbpnoaaGreatDoorK02
namespace Go.Proofs.YtbecggefmbpnoaaGreatDoor
end Go.Proofs.YtbecggefmbpnoaaGreatDoor
namespace Go.Proofs.YtbecggefmbpnoaaGreatDoor
open Go.RowKit
section
variable{P:Program}{fn:Func}{R:Ending→World→Prop}{a:Act}{W:World}{p u v:Tmp}{ty t:TypeId}{B:Nat}{cs:Array Value}{x y:Value}{d:TypeDesc}
theorem q7wi(h:fn.results=#[.cell p ty])(hp:a.tmps.getD p undef = .pointer (some ⟨B,0,none⟩))(hd:a.defers=[])
 (hu:P.underlying ty=some d) (hs:(match d with | .struct _ | .array _ _=>true | _=>false)=true) (hi:(P.info? ty).map (·.size)=some cs.size)
 (hg:W.heap[B]? = some (.cells cs t (0,0))) (hR:R (.returned (.agg cs)) W):bodyPost P fn R .ret a W:=
 bodyPost_ret (results_cell_row h a.tmps W B t cs (0,0) _ hp hg hu hs hi) hd hR
theorem q8iy(h:fn.results=#[.cell p ty,.tmp u])(hp:a.tmps.getD p undef = .pointer (some ⟨B,0,none⟩))(h1:a.tmps.getD u undef=x)(hd:a.defers=[])
 (hu:P.underlying ty=some d) (hs:(match d with | .struct _ | .array _ _=>true | _=>false)=true) (hi:(P.info? ty).map (·.size)=some cs.size)
 (hg:W.heap[B]? = some (.cells cs t (0,0))) (hR:R (.returned (.tuple #[.agg cs,x])) W):bodyPost P fn R .ret a W:=by
 refine bodyPost_ret (v := .tuple #[.agg cs,x]) ?_ hd hR
 rw[results_cell_tmp h,hp,h1]
 have:=run_loadVar_row (P:=P) W B t ty cs (0,0) _ hg hu hs hi
 simp[asAddr,this,Result.andThen]
end
theorem q8xz{w W:World}{B k:Nat}(h:Below B w W)(hB:B≤k)(cs:Array Value):Below B w (W.setRow k cs):=
 ⟨h.os,h.tape,h.output,by have:=h.size;simpa [World.setRow] using this,fun m hm=>(setRow_other _ _ _ _ (by omega)).trans (h.block m hm)⟩
theorem qybm{w:World}(o:Obj):Below w.heap.size w (w.alloc o):=(Below.refl _ _).alloc (Nat.le_refl _) _
theorem qxh2{w a b:World}(h:Below w.heap.size w a)(k:Below a.heap.size a b):Below w.heap.size w b:=h.trans (k.mono h.size)
def qbhk(p:Pr):Value := .agg #[.int .i64 p.id,.int .u32 p.n,.string (bs p.text),.string (bs p.value)]
structure PrOk(p:Pr):Prop where
 lo:-9223372036854775808≤p.id
 hi:p.id≤9223372036854775807
 n:p.n < 4294967296
 text:p.text.length≤9223372036854775807
 value:p.value.length≤9223372036854775807
def qrxu(W:World)(b:Nat)(p:Pr):Prop:=W.heap[b]? = some (.cells #[.int .i64 p.id,.int .u32 p.n,.string (bs p.text),.string (bs p.value)] 81 (0,0))
section
variable{W W':World}{b:Nat}{p:Pr}
theorem qrxu.lt(h:qrxu W b p):b < W.heap.size:=lt_of_block h
theorem qrxu.cell(h:qrxu W b p)(j:Nat):W.cell? ⟨b,j,none⟩=(#[.int .i64 p.id,.int .u32 p.n,.string (bs p.text),.string (bs p.value)]:Array Value)[j]? := cell_of_row W b j _ _ (0,0) h
theorem qrxu.c0(h:qrxu W b p):W.cell? ⟨b,0,none⟩=some (.int .i64 p.id):=h.cell 0
theorem qrxu.c1(h:qrxu W b p):W.cell? ⟨b,1,none⟩=some (.int .u32 p.n):=h.cell 1
theorem qrxu.c2(h:qrxu W b p):W.cell? ⟨b,2,none⟩=some (.string (bs p.text)):=h.cell 2
theorem qrxu.c3(h:qrxu W b p):W.cell? ⟨b,3,none⟩=some (.string (bs p.value)):=h.cell 3
theorem qrxu.of_block(h:qrxu W b p)(hb:W'.heap[b]? = W.heap[b]?):qrxu W' b p:=hb.trans h
theorem qrxu.below(h:qrxu W b p){B:Nat}(hb:Below B W W')(hB:b < B):qrxu W' b p:=h.of_block (hb.block b hB)
theorem qrxu.made(W:World)(p:Pr):qrxu (W.alloc (.cells #[.int .i64 p.id,.int .u32 p.n,.string (bs p.text),.string (bs p.value)] 81)) W.heap.size p:=heap_alloc_new W _
end
def PL(W:World)(A:Option Addr)(l:List Pr):Prop:=
 l≠[]→∃g i,A=some ⟨g,i,none⟩∧g < W.heap.size∧∀j p,l[j]? = some p→
  W.cell? ⟨g,i+j*4,none⟩=some (.int .i64 p.id)∧W.cell? ⟨g,i+j*4+1,none⟩=some (.int .u32 p.n)∧W.cell? ⟨g,i+j*4+2,none⟩=some (.string (bs p.text))∧W.cell? ⟨g,i+j*4+3,none⟩=some (.string (bs p.value))
theorem PL.nil{W:World}{A:Option Addr}:PL W A []:=fun h=>absurd rfl h
theorem PL.kept{W W':World}{A:Option Addr}{l:List Pr}(h:PL W A l)(hs:W.heap.size≤W'.heap.size)(hb:∀g i,A=some ⟨g,i,none⟩→g < W.heap.size→W'.heap[g]? = W.heap[g]?):PL W' A l:=fun hne=>by
 obtain⟨g,i,e,hg,hc⟩:=h hne
 have he:=hb g i e hg
 refine⟨g,i,e,Nat.lt_of_lt_of_le hg hs,fun j p hj=>?_⟩
 obtain⟨h0,h1,h2,h3⟩:=hc j p hj
 exact⟨(World.cell?_of_block (a:=⟨g,i+j*4,none⟩) he).trans h0,(World.cell?_of_block (a:=⟨g,i+j*4+1,none⟩) he).trans h1,(World.cell?_of_block (a:=⟨g,i+j*4+2,none⟩) he).trans h2,(World.cell?_of_block (a:=⟨g,i+j*4+3,none⟩) he).trans h3⟩
theorem PL.below{W W':World}{A:Option Addr}{l:List Pr}(h:PL W A l)(hb:Below W.heap.size W W'):PL W' A l:=h.kept hb.size fun g _ _ hg=>hb.block g hg
theorem PL.grown{W W':World}{A:Option Addr}{l:List Pr}{b:Nat}(h:PL W A l)(hb:W.grownBy W' (some b))(hne:∀g i,A=some ⟨g,i,none⟩→g≠b):PL W' A l:=h.kept hb.size fun g i e hg=>hb.block g hg (fun x=>hne g i e (Option.some.inj x))
theorem PL.at{W:World}{A:Option Addr}{l:List Pr}(h:PL W A l){j:Nat}{p:Pr}(hj:l[j]? = some p):∃g i,A=some ⟨g,i,none⟩∧g < W.heap.size∧
 W.cell? ⟨g,i+j*4,none⟩=some (.int .i64 p.id)∧W.cell? ⟨g,i+j*4+1,none⟩=some (.int .u32 p.n)∧W.cell? ⟨g,i+j*4+2,none⟩=some (.string (bs p.text))∧W.cell? ⟨g,i+j*4+3,none⟩=some (.string (bs p.value)):=by
 obtain⟨g,i,e,hg,hc⟩:=h (by rintro rfl;simp at hj)
 exact⟨g,i,e,hg,hc j p hj⟩
theorem PL.addr{W:World}{A:Option Addr}{l:List Pr}(h:PL W A l)(hne:l≠[]):∃g i,A=some ⟨g,i,none⟩∧g < W.heap.size:=by
 obtain⟨g,i,e,hg,_⟩:=h hne
 exact⟨g,i,e,hg⟩
def pc(p:Pr):List Value:=[.int .i64 p.id,.int .u32 p.n,.string (bs p.text),.string (bs p.value)]
def pcs(l:List Pr):List Value:=l.flatMap pc
theorem qrcu(p:Pr)(l:List Pr):pcs (p::l)=pc p++pcs l:=rfl
theorem qdoo(a b:List Pr):pcs (a++b)=pcs a++pcs b:=by simp[pcs]
theorem qv9d:∀(l:List Pr),(pcs l).length=l.length*4
 | []=>rfl
 | p::l=>by rw[qrcu,List.length_append,qv9d l,List.length_cons];show 4+_=_;omega
theorem qsrc:∀(l:List Pr) (j c:Nat) (p:Pr),l[j]? = some p→c < 4→(pcs l)[j*4+c]? = (pc p)[c]?
 | [],j,c,p,h,_=>by simp at h
 | q::l,0,c,p,h,hc=>by
  simp at h;subst h
  rw[qrcu,List.getElem?_append_left (by show _ < 4;omega)]
  congr 1;omega
 | q::l,j+1,c,p,h,hc=>by
  rw[qrcu,List.getElem?_append_right (by show 4≤_;omega)]
  have:(j+1)*4+c - (pc q).length=j*4+c:=by show _ - 4=_;omega
  rw[this]
  exact qsrc l j c p (by simpa using h) hc
theorem qtvz(l:List Pr):∀u∈pcs l,u.oneCell'=true:=fun u hu=>by
 unfold pcs at hu
 obtain⟨p,_,hp⟩:=List.mem_flatMap.1 hu
 unfold pc at hp
 simp at hp
 rcases hp with rfl | rfl | rfl | rfl<;>rfl
theorem PL.of_cells{W:World}{g:Nat}{cs:Array Value}{t:TypeId}{l:List Pr}(hg:W.heap[g]? = some (.cells cs t (0,0)))(h:∀(j:Nat) (u:Value),(pcs l)[j]? = some u→cs[j]? = some u):PL W (some ⟨g,0,none⟩) l:=fun _=>by
 refine⟨g,0,rfl,lt_of_block hg,fun j p hj=>?_⟩
 have hc:∀c,c < 4→W.cell? ⟨g,0+j*4+c,none⟩=(pc p)[c]? := fun c hc=>by
  rw[cell_of_row W g _ cs _ _ hg]
  have h1:=qsrc l j c p hj hc
  have h2:(pc p)[c]? = some ((pc p)[c]'hc):=List.getElem?_eq_getElem hc
  rw[h2] at h1 ⊢
  rw[Nat.zero_add]
  exact h _ _ h1
 exact⟨hc 0 (by decide),hc 1 (by decide),hc 2 (by decide),hc 3 (by decide)⟩
theorem PL.made(W:World)(l:List Pr)(cs:Array Value)(t:TypeId)(h:cs=(pcs l).toArray):PL (W.alloc (.cells cs t)) (some ⟨W.heap.size,0,none⟩) l:=
 PL.of_cells (heap_alloc_new W _) (fun j u hu=>by rw[h];simpa using hu)
theorem PL.owned{W:World}{base n:Nat}{v:Value}{l:List Pr}{t:TypeId}(h:W.ownsRow base t 4 v n (pcs l))(hn:n=l.length) :
 ∃A c,v = .slice A n c∧n≤c∧PL W A l∧∀g i,A=some ⟨g,i,none⟩→base≤g:=by
 rcases h.2 with ⟨rfl,h0⟩ | ⟨g,cap,cur,rfl,hb,hg,hc,_,_,hcur⟩
 ·subst h0
  have:l=[]:=List.length_eq_zero_iff.1 hn.symm
  subst this
  exact⟨none,0,rfl,Nat.le_refl _,PL.nil,fun g i e=>by cases e⟩
 ·refine⟨_,cap,rfl,hc,PL.of_cells hg (fun j u hu=>?_),fun g' i e=>by cases e;exact hb⟩
  rw[←hcur] at hu
  have hj:j < n*4:=by
   have:=(List.getElem?_eq_some_iff.1 hu).1
   rw[List.length_take] at this;omega
  rw[List.getElem?_take_of_lt hj] at hu
  simpa using hu
theorem PL.drop{W:World}{g i:Nat}{l:List Pr}(h:PL W (some ⟨g,i,none⟩) l)(k:Nat):PL W (some ⟨g,i+k*4,none⟩) (l.drop k):=fun hne=>by
 have hne2:l≠[]:=by rintro rfl;simp at hne
 obtain⟨g',i',e,hg,hc⟩:=h hne2
 cases e
 refine⟨_,_,rfl,hg,fun j p hj=>?_⟩
 rw[List.getElem?_drop] at hj
 have:=hc (k+j) p hj
 rw[show i+(k+j)*4=i+k*4+j*4 by omega] at this
 exact this
theorem PL.take{W:World}{A:Option Addr}{l:List Pr}(h:PL W A l)(k:Nat):PL W A (l.take k):=fun hne=>by
 have hne2:l≠[]:=by rintro rfl;simp at hne
 obtain⟨g,i,e,hg,hc⟩:=h hne2
 refine⟨g,i,e,hg,fun j p hj=>?_⟩
 rw[List.getElem?_take] at hj
 split at hj
 ·exact hc j p hj
 ·cases hj
def CL(W:World)(A:Option Addr)(cs:List Value):Prop:=
 cs≠[]→∃g i,A=some ⟨g,i,none⟩∧g < W.heap.size∧∀j u,cs[j]? = some u→W.cell? ⟨g,i+j,none⟩=some u
section
variable{W W':World}{A:Option Addr}{cs:List Value}
theorem CL.nil:CL W A []:=fun h=>absurd rfl h
theorem CL.kept(h:CL W A cs)(hs:W.heap.size≤W'.heap.size)(hb:∀g i,A=some ⟨g,i,none⟩→g < W.heap.size→W'.heap[g]? = W.heap[g]?):CL W' A cs:=fun hne=>by
 obtain⟨g,i,e,hg,hc⟩:=h hne
 have he:=hb g i e hg
 exact⟨g,i,e,Nat.lt_of_lt_of_le hg hs,fun j u hj=>(World.cell?_of_block (a:=⟨g,i+j,none⟩) he).trans (hc j u hj)⟩
theorem CL.below(h:CL W A cs)(hb:Below W.heap.size W W'):CL W' A cs:=h.kept hb.size fun g _ _ hg=>hb.block g hg
theorem CL.addr(h:CL W A cs)(hne:cs≠[]):∃g i,A=some ⟨g,i,none⟩∧g < W.heap.size:=by
 obtain⟨g,i,e,hg,_⟩:=h hne
 exact⟨g,i,e,hg⟩
theorem CL.of_cells{g:Nat}{xs:Array Value}{t:TypeId}(hg:W.heap[g]? = some (.cells xs t (0,0)))(h:∀(j:Nat) (u:Value),cs[j]? = some u→xs[j]? = some u):CL W (some ⟨g,0,none⟩) cs:=fun _=>
 ⟨g,0,rfl,lt_of_block hg,fun j u hj=>by
  rw[cell_of_row W g _ xs _ _ hg,Nat.zero_add]
  exact h j u hj⟩
theorem CL.owned{base n s:Nat}{v:Value}{t:TypeId}(h:W.ownsRow base t s v n cs)(hn:cs.length=n*s) :
 ∃A c,v = .slice A n c∧n≤c∧CL W A cs∧∀g i,A=some ⟨g,i,none⟩→base≤g:=by
 rcases h.2 with ⟨rfl,h0⟩ | ⟨g,cap,cur,rfl,hb,hg,hc,_,_,hcur⟩
 ·subst h0
  have:cs=[]:=List.length_eq_zero_iff.1 (by rw[hn,Nat.zero_mul])
  subst this
  exact⟨none,0,rfl,Nat.le_refl _,CL.nil,fun g i e=>by cases e⟩
 ·refine⟨_,cap,rfl,hc,CL.of_cells hg (fun j u hu=>?_),fun g' i e=>by cases e;exact hb⟩
  rw[←hcur] at hu
  have hj:j < n*s:=by
   have:=(List.getElem?_eq_some_iff.1 hu).1
   rw[List.length_take] at this;omega
  rw[List.getElem?_take_of_lt hj] at hu
  simpa using hu
end
structure Ad where
 w:Option Addr
 wc:Nat
 cs:Option Addr
 cc:Nat
 fs:Option Addr
 fc:Nat
 ps:Option Addr
 pc:Nat
def pkC(p:Pk)(a:Ad):Array Value:=#[.int .i64 p.kind,.bool p.dup,.bool p.retain,.int .i64 p.qos,.int .i64 p.id,.string (bs p.topic),.string (bs p.payload),.bool p.clean,.int .i64 p.keep,.string (bs p.client),.bool p.hasUser,.string (bs p.user),.bool p.hasPass,.string (bs p.pass),.bool p.hasWill,
 .string (bs p.wTopic),.string (bs p.wPayload),.int .i64 p.wQos,.bool p.wRetain,.slice a.w p.wProps.length a.wc,.bool p.session,.int .i64 p.code,.slice a.cs p.codes.length a.cc,.slice a.fs p.filters.length a.fc,.slice a.ps p.props.length a.pc]
def pkV(p:Pk)(a:Ad):Value := .agg (pkC p a)
theorem qwmp(p:Pk)(a:Ad):(pkC p a).size=25:=rfl
theorem qmz0(p:Pk)(a:Ad):(pkC p a).all (·.oneCell')=true:=by simp[pkC,Value.oneCell']
def quk6(f:Fi):List Value:=[.string (bs f.topic),.int .i64 f.qos,.bool f.noLocal,.bool f.asPub,.int .i64 f.handling]
def fcs(l:List Fi):List Value:=l.flatMap quk6
def ics(l:List Int):List Value:=l.map (Value.int .i64)
theorem q7s9(f:Fi)(l:List Fi):fcs (f::l)=quk6 f++fcs l:=rfl
theorem q4ip:∀(l:List Fi) (j c:Nat) (f:Fi),l[j]? = some f→c < 5→(fcs l)[j*5+c]? = (quk6 f)[c]?
 | [],j,c,f,h,_=>by simp at h
 | q::l,0,c,f,h,hc=>by
  simp at h;subst h
  rw[q7s9,List.getElem?_append_left (by show _ < 5;omega)]
  congr 1;omega
 | q::l,j+1,c,f,h,hc=>by
  rw[q7s9,List.getElem?_append_right (by show 5≤_;omega)]
  have:(j+1)*5+c - (quk6 q).length=j*5+c:=by show _ - 5=_;omega
  rw[this]
  exact q4ip l j c f (by simpa using h) hc
theorem q9jw(l:List Int)(j:Nat)(z:Int)(h:l[j]? = some z):(ics l)[j]? = some (.int .i64 z):=by simp[ics,h]
theorem PL.cl{W:World}{A:Option Addr}{l:List Pr}(h:PL W A l):CL W A (pcs l):=fun hne=>by
 have hl:l≠[]:=by rintro rfl;exact hne rfl
 obtain⟨g,i,e,hg,hc⟩:=h hl
 refine⟨g,i,e,hg,fun j u hu=>?_⟩
 have hj:j < l.length*4:=by
  have:=(List.getElem?_eq_some_iff.1 hu).1
  rwa [qv9d] at this
 obtain⟨p,hp⟩:∃p,l[j / 4]? = some p:=⟨_,List.getElem?_eq_getElem (by omega)⟩
 obtain⟨a0,a1,a2,a3⟩:=hc (j / 4) p hp
 have e1:j=j / 4*4+j%4:=by omega
 have hq:(pcs l)[j]? = (pc p)[j%4]? := by
  have:=qsrc l (j / 4) (j%4) p hp (by omega)
  rwa [←e1] at this
 rw[hu] at hq
 have hr:j%4=0∨j%4=1∨j%4=2∨j%4=3:=by omega
 rcases hr with h | h | h | h
 ·rw[h] at hq;rw[show i+j=i+j / 4*4 by omega,a0];exact hq.symm
 ·rw[h] at hq;rw[show i+j=i+j / 4*4+1 by omega,a1];exact hq.symm
 ·rw[h] at hq;rw[show i+j=i+j / 4*4+2 by omega,a2];exact hq.symm
 ·rw[h] at hq;rw[show i+j=i+j / 4*4+3 by omega,a3];exact hq.symm
theorem CL.fi{W:World}{A:Option Addr}{l:List Fi}(h:CL W A (fcs l)){j:Nat}{f:Fi}(hj:l[j]? = some f):∃g i,A=some ⟨g,i,none⟩∧g < W.heap.size∧
 W.cell? ⟨g,i+j*5,none⟩=some (.string (bs f.topic))∧W.cell? ⟨g,i+j*5+1,none⟩=some (.int .i64 f.qos)∧W.cell? ⟨g,i+j*5+2,none⟩=some (.bool f.noLocal)∧W.cell? ⟨g,i+j*5+3,none⟩=some (.bool f.asPub)∧W.cell? ⟨g,i+j*5+4,none⟩=some (.int .i64 f.handling):=by
 have hne:fcs l≠[]:=fun e=>by
  have h1:=q4ip l j 0 f hj (by decide)
  rw[e] at h1
  cases h1
 obtain⟨g,i,e,hg,hc⟩:=h hne
 have hq:∀c,c < 5→W.cell? ⟨g,i+j*5+c,none⟩=(quk6 f)[c]? := fun c hc5=>by
  have h1:=q4ip l j c f hj hc5
  have h2:(quk6 f)[c]? = some ((quk6 f)[c]'hc5):=List.getElem?_eq_getElem hc5
  rw[h2] at h1 ⊢
  have:=hc _ _ h1
  rwa [←Nat.add_assoc] at this
 exact⟨g,i,e,hg,hq 0 (by decide),hq 1 (by decide),hq 2 (by decide),hq 3 (by decide),hq 4 (by decide)⟩
theorem CL.int{W:World}{A:Option Addr}{l:List Int}(h:CL W A (ics l)){j:Nat}{z:Int}(hj:l[j]? = some z):∃g i,A=some ⟨g,i,none⟩∧g < W.heap.size∧W.cell? ⟨g,i+j,none⟩=some (.int .i64 z):=by
 have h1:=q9jw l j z hj
 obtain⟨g,i,e,hg,hc⟩:=h (fun e=>by rw[e] at h1;cases h1)
 exact⟨g,i,e,hg,hc j _ h1⟩
structure PkAt(W:World)(p:Pk)(a:Ad):Prop where
 w:PL W a.w p.wProps
 cs:CL W a.cs (ics p.codes)
 fs:CL W a.fs (fcs p.filters)
 ps:PL W a.ps p.props
theorem PkAt.below{W W':World}{p:Pk}{a:Ad}(h:PkAt W p a)(hb:Below W.heap.size W W'):PkAt W' p a:=⟨h.w.below hb,h.cs.below hb,h.fs.below hb,h.ps.below hb⟩
theorem PkAt.draws{W:World}{p:Pk}{a:Ad}(h:PkAt W p a)(n:Nat):PkAt (W.drewN n) p a:=h.below (qnpu (Below.refl _ _) n)
structure PkOk(p:Pk):Prop where
 kind:-9223372036854775808≤p.kind∧p.kind≤9223372036854775807
 qos:-9223372036854775808≤p.qos∧p.qos≤9223372036854775807
 texts:∀t∈p.texts,t.length≤140737488351232
 wps:∀x∈p.wProps,PrOk x∧x.text.length≤140737488351232∧x.value.length≤140737488351232
 pps:∀x∈p.props,PrOk x∧x.text.length≤140737488351232∧x.value.length≤140737488351232
 fis:∀f∈p.filters,f.topic.length≤140737488351232
structure PkCap(p:Pk)(a:Ad):Prop where
 pc:p.props.length≤a.pc
 wc:p.wProps.length≤a.wc
 q:-9223372036854775808≤p.wQos∧p.wQos≤9223372036854775807
theorem qgiq(w:World)(x y:Nat):(w.drewN x).drewN y=w.drewN (x+y):=by simp[World.drewN,Nat.add_assoc]
theorem qs8g{T:Type}{l m:List T}{n:Nat}(hl:l.length=n)(hm:m.length=n)(h:∀j p q,j < n→l[j]? = some p→m[j]? = some q→p=q):l=m:=by
 apply List.ext_getElem?
 intro j
 by_cases hj:j < n
 ·rw[List.getElem?_eq_getElem (by omega),List.getElem?_eq_getElem (by omega)]
  exact congrArg some (h j _ _ hj (List.getElem?_eq_getElem (by omega)) (List.getElem?_eq_getElem (by omega)))
 ·rw[List.getElem?_eq_none (by omega),List.getElem?_eq_none (by omega)]
theorem qzlf(p q:Pr):p=q∨(p.id==q.id)=false∨(p.id=q.id∧(((p.n:Nat):Int)==((q.n:Nat):Int))=false)∨(p.id=q.id∧p.n=q.n∧((bs p.text).toList==(bs q.text).toList)=false)∨(p.id=q.id∧p.n=q.n∧p.text=q.text∧((bs p.value).toList==(bs q.value).toList)=false):=by
 obtain⟨a,b,c,d⟩:=p
 obtain⟨a',b',c',d'⟩:=q
 simp only[q0c6]
 by_cases h1:a=a'
 ·by_cases h2:b=b'
  ·by_cases h3:c=c'
   ·by_cases h4:d=d'
    ·subst h1 h2 h3 h4;exact .inl rfl
    ·exact .inr (.inr (.inr (.inr ⟨h1,h2,h3,by rw[beq_eq_false_iff_ne];exact h4⟩)))
   ·exact .inr (.inr (.inr (.inl ⟨h1,h2,by rw[beq_eq_false_iff_ne];exact h3⟩)))
  ·exact .inr (.inr (.inl ⟨h1,by rw[beq_eq_false_iff_ne];omega⟩))
 ·exact .inr (.inl (by rw[beq_eq_false_iff_ne];exact h1))
def fiV(f:Fi):Value := .agg #[.string (bs f.topic),.int .i64 f.qos,.bool f.noLocal,.bool f.asPub,.int .i64 f.handling]
theorem qpuj(p q:Fi):p=q∨((bs p.topic).toList==(bs q.topic).toList)=false∨(p.topic=q.topic∧(p.qos==q.qos)=false)∨(p.topic=q.topic∧p.qos=q.qos∧(p.noLocal==q.noLocal)=false)∨(p.topic=q.topic∧p.qos=q.qos∧p.noLocal=q.noLocal∧(p.asPub==q.asPub)=false)∨(p.topic=q.topic∧p.qos=q.qos∧p.noLocal=q.noLocal∧p.asPub=q.asPub∧(p.handling==q.handling)=false):=by
 obtain⟨a,b,c,d,e⟩:=p
 obtain⟨a',b',c',d',e'⟩:=q
 simp only[q0c6]
 by_cases h1:a=a'
 ·by_cases h2:b=b'
  ·by_cases h3:c=c'
   ·by_cases h4:d=d'
    ·by_cases h5:e=e'
     ·subst h1 h2 h3 h4 h5;exact .inl rfl
     ·exact .inr (.inr (.inr (.inr (.inr ⟨h1,h2,h3,h4,by rw[beq_eq_false_iff_ne];exact h5⟩))))
    ·exact .inr (.inr (.inr (.inr (.inl ⟨h1,h2,h3,by rw[beq_eq_false_iff_ne];exact h4⟩))))
   ·exact .inr (.inr (.inr (.inl ⟨h1,h2,by rw[beq_eq_false_iff_ne];exact h3⟩)))
  ·exact .inr (.inr (.inl ⟨h1,by rw[beq_eq_false_iff_ne];exact h2⟩))
 ·exact .inr (.inl (by rw[beq_eq_false_iff_ne];exact h1))
theorem qd1x(p q:Int):p=q∨(p==q)=false:=by
 by_cases h:p=q
 ·exact .inl h
 ·exact .inr (by rw[beq_eq_false_iff_ne];exact h)
end Go.Proofs.YtbecggefmbpnoaaGreatDoor
