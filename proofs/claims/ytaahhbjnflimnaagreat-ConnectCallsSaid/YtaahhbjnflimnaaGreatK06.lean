/- A property as a value, a list of properties as it lies in memory: qk87 an address, as cells, in a row that is owned. Condition: none. -/
import Derived.Lib.Hide
import Derived.WalkKit
import Derived.OwnWalk
import Derived.Test.YtaahhbjnflimnaaGreatK03
import Derived.Test.YtaahhbjnflimnaaGreatK04
import Derived.Test.YtaahhbjnflimnaaGreatK05
namespace Go.Proofs.YtaahhbjnflimnaaGreat
open Go.RowKit
def qbhk(p:Pr):Value := .agg #[.int .i64 p.id,.int .u32 p.n,.string (bs p.text),.string (bs p.value)]
structure PrOk(p:Pr):Prop where
 lo:-9223372036854775808≤p.id
 hi:p.id≤9223372036854775807
 n:p.n < 4294967296
 text:p.text.length≤9223372036854775807
 value:p.value.length≤9223372036854775807
def qrxu(W:World)(b:Nat)(p:Pr):Prop:=W.heap[b]? = some (.cells #[.int .i64 p.id,.int .u32 p.n,.string (bs p.text),.string (bs p.value)] 46 (0,0))
section
variable{W W':World}{b:Nat}{p:Pr}
theorem qrxu.lt(h:qrxu W b p):b < W.heap.size:=lt_of_block h
theorem qrxu.cell(h:qrxu W b p)(j:Nat):W.cell? ⟨b,j,none⟩=(#[.int .i64 p.id,.int .u32 p.n,.string (bs p.text),.string (bs p.value)]:Array Value)[j]? := cell_of_row W b j _ _ (0,0) h
theorem qrxu.c0(h:qrxu W b p):W.cell? ⟨b,0,none⟩=some (.int .i64 p.id):=h.cell 0
theorem qrxu.c1(h:qrxu W b p):W.cell? ⟨b,1,none⟩=some (.int .u32 p.n):=h.cell 1
theorem qrxu.c2(h:qrxu W b p):W.cell? ⟨b,2,none⟩=some (.string (bs p.text)):=h.cell 2
theorem qrxu.c3(h:qrxu W b p):W.cell? ⟨b,3,none⟩=some (.string (bs p.value)):=h.cell 3
theorem qrxu.of_block(h:qrxu W b p)(hb:W'.heap[b]? = W.heap[b]?):qrxu W' b p:=hb.trans h
theorem qrxu.below(h:qrxu W b p){B:Nat}(hb:Below B W W')(hB:b < B):qrxu W' b p:=h.of_block (hb.block b hB)
theorem qrxu.made(W:World)(p:Pr):qrxu (W.alloc (.cells #[.int .i64 p.id,.int .u32 p.n,.string (bs p.text),.string (bs p.value)] 46)) W.heap.size p:=heap_alloc_new W _
end
def PL(W:World)(A:Option Addr)(l:List Pr):Prop:=
 l≠[]→∃g i,A=some ⟨g,i,none⟩∧g < W.heap.size∧∀j p,l[j]? = some p→
  W.cell? ⟨g,i+j*4,none⟩=some (.int .i64 p.id)∧W.cell? ⟨g,i+j*4+1,none⟩=some (.int .u32 p.n)∧W.cell? ⟨g,i+j*4+2,none⟩=some (.string (bs p.text))∧W.cell? ⟨g,i+j*4+3,none⟩=some (.string (bs p.value))
theorem PL.nil{W:World}{A:Option Addr}:PL W A []:=fun h=>absurd rfl h
theorem PL.kept{W W':World}{A:Option Addr}{l:List Pr}(h:PL W A l)(hs:W.heap.size≤W'.heap.size)(hb:∀g i,A=some ⟨g,i,none⟩→g < W.heap.size→W'.heap[g]? = W.heap[g]?):PL W' A l:=fun hne=>by
 obtain⟨g,i,e,hg,hc⟩:=h hne
 have he:=hb g i e hg
 refine⟨g,i,e,Nat.lt_of_lt_of_le hg hs,fun j p hj=>?_⟩
 obtain⟨h0,h1,h2,h3⟩:=hc j p hj
 exact⟨(World.cell?_of_block (a:=⟨g,i+j*4,none⟩) he).trans h0,(World.cell?_of_block (a:=⟨g,i+j*4+1,none⟩) he).trans h1,(World.cell?_of_block (a:=⟨g,i+j*4+2,none⟩) he).trans h2,(World.cell?_of_block (a:=⟨g,i+j*4+3,none⟩) he).trans h3⟩
theorem PL.below{W W':World}{A:Option Addr}{l:List Pr}(h:PL W A l)(hb:Below W.heap.size W W'):PL W' A l:=h.kept hb.size fun g _ _ hg=>hb.block g hg
theorem PL.grown{W W':World}{A:Option Addr}{l:List Pr}{b:Nat}(h:PL W A l)(hb:W.grownBy W' (some b))(hne:∀g i,A=some ⟨g,i,none⟩→g≠b):PL W' A l:=h.kept hb.size fun g i e hg=>hb.block g hg (fun x=>hne g i e (Option.some.inj x))
theorem PL.at{W:World}{A:Option Addr}{l:List Pr}(h:PL W A l){j:Nat}{p:Pr}(hj:l[j]? = some p):∃g i,A=some ⟨g,i,none⟩∧g < W.heap.size∧
 W.cell? ⟨g,i+j*4,none⟩=some (.int .i64 p.id)∧W.cell? ⟨g,i+j*4+1,none⟩=some (.int .u32 p.n)∧W.cell? ⟨g,i+j*4+2,none⟩=some (.string (bs p.text))∧W.cell? ⟨g,i+j*4+3,none⟩=some (.string (bs p.value)):=by
 obtain⟨g,i,e,hg,hc⟩:=h (by rintro rfl;simp at hj)
 exact⟨g,i,e,hg,hc j p hj⟩
theorem PL.addr{W:World}{A:Option Addr}{l:List Pr}(h:PL W A l)(hne:l≠[]):∃g i,A=some ⟨g,i,none⟩∧g < W.heap.size:=by
 obtain⟨g,i,e,hg,_⟩:=h hne
 exact⟨g,i,e,hg⟩
def pc(p:Pr):List Value:=[.int .i64 p.id,.int .u32 p.n,.string (bs p.text),.string (bs p.value)]
def pcs(l:List Pr):List Value:=l.flatMap pc
theorem qrcu(p:Pr)(l:List Pr):pcs (p::l)=pc p++pcs l:=rfl
theorem qdoo(a b:List Pr):pcs (a++b)=pcs a++pcs b:=by simp[pcs]
theorem qv9d:∀(l:List Pr),(pcs l).length=l.length*4
 | []=>rfl
 | p::l=>by rw[qrcu,List.length_append,qv9d l,List.length_cons];show 4+_=_;omega
theorem qsrc:∀(l:List Pr) (j c:Nat) (p:Pr),l[j]? = some p→c < 4→(pcs l)[j*4+c]? = (pc p)[c]?
 | [],j,c,p,h,_=>by simp at h
 | q::l,0,c,p,h,hc=>by
  simp at h;subst h
  rw[qrcu,List.getElem?_append_left (by show _ < 4;omega)]
  congr 1;omega
 | q::l,j+1,c,p,h,hc=>by
  rw[qrcu,List.getElem?_append_right (by show 4≤_;omega)]
  have:(j+1)*4+c - (pc q).length=j*4+c:=by show _ - 4=_;omega
  rw[this]
  exact qsrc l j c p (by simpa using h) hc
theorem qtvz(l:List Pr):∀u∈pcs l,u.oneCell'=true:=fun u hu=>by
 unfold pcs at hu
 obtain⟨p,_,hp⟩:=List.mem_flatMap.1 hu
 unfold pc at hp
 simp at hp
 rcases hp with rfl | rfl | rfl | rfl<;>rfl
theorem PL.of_cells{W:World}{g:Nat}{cs:Array Value}{t:TypeId}{l:List Pr}(hg:W.heap[g]? = some (.cells cs t (0,0)))(h:∀(j:Nat) (u:Value),(pcs l)[j]? = some u→cs[j]? = some u):PL W (some ⟨g,0,none⟩) l:=fun _=>by
 refine⟨g,0,rfl,lt_of_block hg,fun j p hj=>?_⟩
 have hc:∀c,c < 4→W.cell? ⟨g,0+j*4+c,none⟩=(pc p)[c]? := fun c hc=>by
  rw[cell_of_row W g _ cs _ _ hg]
  have h1:=qsrc l j c p hj hc
  have h2:(pc p)[c]? = some ((pc p)[c]'hc):=List.getElem?_eq_getElem hc
  rw[h2] at h1 ⊢
  rw[Nat.zero_add]
  exact h _ _ h1
 exact⟨hc 0 (by decide),hc 1 (by decide),hc 2 (by decide),hc 3 (by decide)⟩
theorem PL.made(W:World)(l:List Pr)(cs:Array Value)(t:TypeId)(h:cs=(pcs l).toArray):PL (W.alloc (.cells cs t)) (some ⟨W.heap.size,0,none⟩) l:=
 PL.of_cells (heap_alloc_new W _) (fun j u hu=>by rw[h];simpa using hu)
theorem PL.owned{W:World}{base n:Nat}{v:Value}{l:List Pr}{t:TypeId}(h:W.ownsRow base t 4 v n (pcs l))(hn:n=l.length) :
 ∃A c,v = .slice A n c∧n≤c∧PL W A l∧∀g i,A=some ⟨g,i,none⟩→base≤g:=by
 rcases h.2 with ⟨rfl,h0⟩ | ⟨g,cap,cur,rfl,hb,hg,hc,_,_,hcur⟩
 ·subst h0
  have:l=[]:=List.length_eq_zero_iff.1 hn.symm
  subst this
  exact⟨none,0,rfl,Nat.le_refl _,PL.nil,fun g i e=>by cases e⟩
 ·refine⟨_,cap,rfl,hc,PL.of_cells hg (fun j u hu=>?_),fun g' i e=>by cases e;exact hb⟩
  rw[←hcur] at hu
  have hj:j < n*4:=by
   have:=(List.getElem?_eq_some_iff.1 hu).1
   rw[List.length_take] at this;omega
  rw[List.getElem?_take_of_lt hj] at hu
  simpa using hu
theorem PL.drop{W:World}{g i:Nat}{l:List Pr}(h:PL W (some ⟨g,i,none⟩) l)(k:Nat):PL W (some ⟨g,i+k*4,none⟩) (l.drop k):=fun hne=>by
 have hne2:l≠[]:=by rintro rfl;simp at hne
 obtain⟨g',i',e,hg,hc⟩:=h hne2
 cases e
 refine⟨_,_,rfl,hg,fun j p hj=>?_⟩
 rw[List.getElem?_drop] at hj
 have:=hc (k+j) p hj
 rw[show i+(k+j)*4=i+k*4+j*4 by omega] at this
 exact this
theorem PL.take{W:World}{A:Option Addr}{l:List Pr}(h:PL W A l)(k:Nat):PL W A (l.take k):=fun hne=>by
 have hne2:l≠[]:=by rintro rfl;simp at hne
 obtain⟨g,i,e,hg,hc⟩:=h hne2
 refine⟨g,i,e,hg,fun j p hj=>?_⟩
 rw[List.getElem?_take] at hj
 split at hj
 ·exact hc j p hj
 ·cases hj
def CL(W:World)(A:Option Addr)(cs:List Value):Prop:=
 cs≠[]→∃g i,A=some ⟨g,i,none⟩∧g < W.heap.size∧∀j u,cs[j]? = some u→W.cell? ⟨g,i+j,none⟩=some u
section
variable{W W':World}{A:Option Addr}{cs:List Value}
theorem CL.nil:CL W A []:=fun h=>absurd rfl h
theorem CL.kept(h:CL W A cs)(hs:W.heap.size≤W'.heap.size)(hb:∀g i,A=some ⟨g,i,none⟩→g < W.heap.size→W'.heap[g]? = W.heap[g]?):CL W' A cs:=fun hne=>by
 obtain⟨g,i,e,hg,hc⟩:=h hne
 have he:=hb g i e hg
 exact⟨g,i,e,Nat.lt_of_lt_of_le hg hs,fun j u hj=>(World.cell?_of_block (a:=⟨g,i+j,none⟩) he).trans (hc j u hj)⟩
theorem CL.below(h:CL W A cs)(hb:Below W.heap.size W W'):CL W' A cs:=h.kept hb.size fun g _ _ hg=>hb.block g hg
theorem CL.addr(h:CL W A cs)(hne:cs≠[]):∃g i,A=some ⟨g,i,none⟩∧g < W.heap.size:=by
 obtain⟨g,i,e,hg,_⟩:=h hne
 exact⟨g,i,e,hg⟩
theorem CL.of_cells{g:Nat}{xs:Array Value}{t:TypeId}(hg:W.heap[g]? = some (.cells xs t (0,0)))(h:∀(j:Nat) (u:Value),cs[j]? = some u→xs[j]? = some u):CL W (some ⟨g,0,none⟩) cs:=fun _=>
 ⟨g,0,rfl,lt_of_block hg,fun j u hj=>by
  rw[cell_of_row W g _ xs _ _ hg,Nat.zero_add]
  exact h j u hj⟩
theorem CL.owned{base n s:Nat}{v:Value}{t:TypeId}(h:W.ownsRow base t s v n cs)(hn:cs.length=n*s) :
 ∃A c,v = .slice A n c∧n≤c∧CL W A cs∧∀g i,A=some ⟨g,i,none⟩→base≤g:=by
 rcases h.2 with ⟨rfl,h0⟩ | ⟨g,cap,cur,rfl,hb,hg,hc,_,_,hcur⟩
 ·subst h0
  have:cs=[]:=List.length_eq_zero_iff.1 (by rw[hn,Nat.zero_mul])
  subst this
  exact⟨none,0,rfl,Nat.le_refl _,CL.nil,fun g i e=>by cases e⟩
 ·refine⟨_,cap,rfl,hc,CL.of_cells hg (fun j u hu=>?_),fun g' i e=>by cases e;exact hb⟩
  rw[←hcur] at hu
  have hj:j < n*s:=by
   have:=(List.getElem?_eq_some_iff.1 hu).1
   rw[List.length_take] at this;omega
  rw[List.getElem?_take_of_lt hj] at hu
  simpa using hu
end
end Go.Proofs.YtaahhbjnflimnaaGreat
namespace Go.Proofs.YtaahhbjnflimnaaGreat
structure Fi where
 topic:List UInt8
 qos:Int
 noLocal:Bool
 asPub:Bool
 handling:Int
deriving DecidableEq
structure Pk where
 kind:Int
 dup:Bool
 retain:Bool
 qos:Int
 id:Int
 topic:List UInt8
 payload:List UInt8
 clean:Bool
 keep:Int
 client:List UInt8
 hasUser:Bool
 user:List UInt8
 hasPass:Bool
 pass:List UInt8
 hasWill:Bool
 wTopic:List UInt8
 wPayload:List UInt8
 wQos:Int
 wRetain:Bool
 wProps:List Pr
 session:Bool
 code:Int
 codes:List Int
 filters:List Fi
 props:List Pr
deriving DecidableEq
def Pk.nums(p:Pk):List Int:=[p.kind,p.qos,p.id,p.keep,p.code,p.wQos]
def Pk.marks(p:Pk):List Bool:=[p.dup,p.retain,p.clean,p.hasUser,p.hasPass,p.hasWill,p.session,p.wRetain]
def Pk.texts(p:Pk):List (List UInt8):=[p.topic,p.payload,p.client,p.user,p.pass,p.wTopic,p.wPayload]
theorem qpgn(p q:Pk):p=q↔p.nums=q.nums∧p.marks=q.marks∧p.texts=q.texts∧p.codes=q.codes∧p.filters=q.filters∧p.props=q.props∧p.wProps=q.wProps:=by
 constructor
 ·rintro rfl;exact⟨rfl,rfl,rfl,rfl,rfl,rfl,rfl⟩
 ·obtain⟨⟩:=p
  obtain⟨⟩:=q
  rintro⟨h1,h2,h3,h4,h5,h6,h7⟩
  simp only[Pk.nums,Pk.marks,Pk.texts,List.cons.injEq,and_true] at h1 h2 h3
  simp only at h4 h5 h6 h7
  obtain⟨rfl,rfl,rfl,rfl,rfl,rfl⟩:=h1
  obtain⟨rfl,rfl,rfl,rfl,rfl,rfl,rfl,rfl⟩:=h2
  obtain⟨rfl,rfl,rfl,rfl,rfl,rfl,rfl⟩:=h3
  subst h4 h5 h6 h7
  rfl
def Pk.zero:Pk:=⟨0,false,false,0,0,[],[],false,0,[],false,[],false,[],false,[],[],0,false,[],false,0,[],[],[]⟩
def q21o(p:Pk):Prop:=p.codes.length≤70000∧p.filters.length≤70000∧p.props.length≤70000∧p.wProps.length≤70000
end Go.Proofs.YtaahhbjnflimnaaGreat
namespace Go.Proofs.YtaahhbjnflimnaaGreat
open Go.RowKit
structure Ad where
 w:Option Addr
 wc:Nat
 cs:Option Addr
 cc:Nat
 fs:Option Addr
 fc:Nat
 ps:Option Addr
 pc:Nat
def pkC(p:Pk)(a:Ad):Array Value:=#[.int .i64 p.kind,.bool p.dup,.bool p.retain,.int .i64 p.qos,.int .i64 p.id,.string (bs p.topic),.string (bs p.payload),.bool p.clean,.int .i64 p.keep,.string (bs p.client),.bool p.hasUser,.string (bs p.user),.bool p.hasPass,.string (bs p.pass),.bool p.hasWill,
 .string (bs p.wTopic),.string (bs p.wPayload),.int .i64 p.wQos,.bool p.wRetain,.slice a.w p.wProps.length a.wc,.bool p.session,.int .i64 p.code,.slice a.cs p.codes.length a.cc,.slice a.fs p.filters.length a.fc,.slice a.ps p.props.length a.pc]
def pkV(p:Pk)(a:Ad):Value := .agg (pkC p a)
theorem qwmp(p:Pk)(a:Ad):(pkC p a).size=25:=rfl
theorem qmz0(p:Pk)(a:Ad):(pkC p a).all (·.oneCell')=true:=by simp[pkC,Value.oneCell']
def quk6(f:Fi):List Value:=[.string (bs f.topic),.int .i64 f.qos,.bool f.noLocal,.bool f.asPub,.int .i64 f.handling]
def fcs(l:List Fi):List Value:=l.flatMap quk6
def ics(l:List Int):List Value:=l.map (Value.int .i64)
theorem q7s9(f:Fi)(l:List Fi):fcs (f::l)=quk6 f++fcs l:=rfl
theorem q4av:∀(l:List Fi),(fcs l).length=l.length*5
 | []=>rfl
 | f::l=>by rw[q7s9,List.length_append,q4av l,List.length_cons];show 5+_=_;omega
theorem q4ip:∀(l:List Fi) (j c:Nat) (f:Fi),l[j]? = some f→c < 5→(fcs l)[j*5+c]? = (quk6 f)[c]?
 | [],j,c,f,h,_=>by simp at h
 | q::l,0,c,f,h,hc=>by
  simp at h;subst h
  rw[q7s9,List.getElem?_append_left (by show _ < 5;omega)]
  congr 1;omega
 | q::l,j+1,c,f,h,hc=>by
  rw[q7s9,List.getElem?_append_right (by show 5≤_;omega)]
  have:(j+1)*5+c - (quk6 q).length=j*5+c:=by show _ - 5=_;omega
  rw[this]
  exact q4ip l j c f (by simpa using h) hc
theorem qpp4(l:List Fi):∀u∈fcs l,u.oneCell'=true:=fun u hu=>by
 unfold fcs at hu
 obtain⟨p,_,hp⟩:=List.mem_flatMap.1 hu
 unfold quk6 at hp
 simp at hp
 rcases hp with rfl | rfl | rfl | rfl | rfl<;>rfl
theorem ql3l(l:List Int):(ics l).length=l.length*1:=by simp[ics]
theorem q9jw(l:List Int)(j:Nat)(z:Int)(h:l[j]? = some z):(ics l)[j]? = some (.int .i64 z):=by simp[ics,h]
theorem qceb(l:List Int):∀u∈ics l,u.oneCell'=true:=fun u hu=>by
 unfold ics at hu
 obtain⟨z,_,rfl⟩:=List.mem_map.1 hu
 rfl
theorem CL.pl{W:World}{A:Option Addr}{l:List Pr}(h:CL W A (pcs l)):PL W A l:=fun hne=>by
 have hp:pcs l≠[]:=fun e=>by
  have:=qv9d l
  rw[e] at this
  exact hne (List.length_eq_zero_iff.1 (by simp at this;omega))
 obtain⟨g,i,e,hg,hc⟩:=h hp
 refine⟨g,i,e,hg,fun j p hj=>?_⟩
 have hq:∀c,c < 4→W.cell? ⟨g,i+j*4+c,none⟩=(pc p)[c]? := fun c hc4=>by
  have h1:=qsrc l j c p hj hc4
  have h2:(pc p)[c]? = some ((pc p)[c]'hc4):=List.getElem?_eq_getElem hc4
  rw[h2] at h1 ⊢
  have:=hc _ _ h1
  rwa [←Nat.add_assoc] at this
 exact⟨hq 0 (by decide),hq 1 (by decide),hq 2 (by decide),hq 3 (by decide)⟩
theorem PL.cl{W:World}{A:Option Addr}{l:List Pr}(h:PL W A l):CL W A (pcs l):=fun hne=>by
 have hl:l≠[]:=by rintro rfl;exact hne rfl
 obtain⟨g,i,e,hg,hc⟩:=h hl
 refine⟨g,i,e,hg,fun j u hu=>?_⟩
 have hj:j < l.length*4:=by
  have:=(List.getElem?_eq_some_iff.1 hu).1
  rwa [qv9d] at this
 obtain⟨p,hp⟩:∃p,l[j / 4]? = some p:=⟨_,List.getElem?_eq_getElem (by omega)⟩
 obtain⟨a0,a1,a2,a3⟩:=hc (j / 4) p hp
 have e1:j=j / 4*4+j%4:=by omega
 have hq:(pcs l)[j]? = (pc p)[j%4]? := by
  have:=qsrc l (j / 4) (j%4) p hp (by omega)
  rwa [←e1] at this
 rw[hu] at hq
 have hr:j%4=0∨j%4=1∨j%4=2∨j%4=3:=by omega
 rcases hr with h | h | h | h
 ·rw[h] at hq;rw[show i+j=i+j / 4*4 by omega,a0];exact hq.symm
 ·rw[h] at hq;rw[show i+j=i+j / 4*4+1 by omega,a1];exact hq.symm
 ·rw[h] at hq;rw[show i+j=i+j / 4*4+2 by omega,a2];exact hq.symm
 ·rw[h] at hq;rw[show i+j=i+j / 4*4+3 by omega,a3];exact hq.symm
theorem CL.fi{W:World}{A:Option Addr}{l:List Fi}(h:CL W A (fcs l)){j:Nat}{f:Fi}(hj:l[j]? = some f):∃g i,A=some ⟨g,i,none⟩∧g < W.heap.size∧
 W.cell? ⟨g,i+j*5,none⟩=some (.string (bs f.topic))∧W.cell? ⟨g,i+j*5+1,none⟩=some (.int .i64 f.qos)∧W.cell? ⟨g,i+j*5+2,none⟩=some (.bool f.noLocal)∧W.cell? ⟨g,i+j*5+3,none⟩=some (.bool f.asPub)∧W.cell? ⟨g,i+j*5+4,none⟩=some (.int .i64 f.handling):=by
 have hne:fcs l≠[]:=fun e=>by
  have h1:=q4ip l j 0 f hj (by decide)
  rw[e] at h1
  cases h1
 obtain⟨g,i,e,hg,hc⟩:=h hne
 have hq:∀c,c < 5→W.cell? ⟨g,i+j*5+c,none⟩=(quk6 f)[c]? := fun c hc5=>by
  have h1:=q4ip l j c f hj hc5
  have h2:(quk6 f)[c]? = some ((quk6 f)[c]'hc5):=List.getElem?_eq_getElem hc5
  rw[h2] at h1 ⊢
  have:=hc _ _ h1
  rwa [←Nat.add_assoc] at this
 exact⟨g,i,e,hg,hq 0 (by decide),hq 1 (by decide),hq 2 (by decide),hq 3 (by decide),hq 4 (by decide)⟩
theorem CL.int{W:World}{A:Option Addr}{l:List Int}(h:CL W A (ics l)){j:Nat}{z:Int}(hj:l[j]? = some z):∃g i,A=some ⟨g,i,none⟩∧g < W.heap.size∧W.cell? ⟨g,i+j,none⟩=some (.int .i64 z):=by
 have h1:=q9jw l j z hj
 obtain⟨g,i,e,hg,hc⟩:=h (fun e=>by rw[e] at h1;cases h1)
 exact⟨g,i,e,hg,hc j _ h1⟩
structure PkAt(W:World)(p:Pk)(a:Ad):Prop where
 w:PL W a.w p.wProps
 cs:CL W a.cs (ics p.codes)
 fs:CL W a.fs (fcs p.filters)
 ps:PL W a.ps p.props
theorem PkAt.below{W W':World}{p:Pk}{a:Ad}(h:PkAt W p a)(hb:Below W.heap.size W W'):PkAt W' p a:=⟨h.w.below hb,h.cs.below hb,h.fs.below hb,h.ps.below hb⟩
theorem PkAt.draws{W:World}{p:Pk}{a:Ad}(h:PkAt W p a)(n:Nat):PkAt (W.drewN n) p a:=h.below (qnpu (Below.refl _ _) n)
structure PkOk(p:Pk):Prop where
 kind:-9223372036854775808≤p.kind∧p.kind≤9223372036854775807
 qos:-9223372036854775808≤p.qos∧p.qos≤9223372036854775807
 texts:∀t∈p.texts,t.length≤140737488351232
 wps:∀x∈p.wProps,PrOk x∧x.text.length≤140737488351232∧x.value.length≤140737488351232
 pps:∀x∈p.props,PrOk x∧x.text.length≤140737488351232∧x.value.length≤140737488351232
 fis:∀f∈p.filters,f.topic.length≤140737488351232
structure PkCap(p:Pk)(a:Ad):Prop where
 pc:p.props.length≤a.pc
 wc:p.wProps.length≤a.wc
 q:-9223372036854775808≤p.wQos∧p.wQos≤9223372036854775807
end Go.Proofs.YtaahhbjnflimnaaGreat
