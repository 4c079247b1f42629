/- A packet as a value: its cells, where its lists lie. Condition: none. -/
import Derived.Test.YtefmhbioggcfaaaGreatDoorK07
import Derived.Test.YtefmhbioggcfaaaGreatDoorK08
namespace Go.Proofs.YtefmhbioggcfaaaGreatDoor
open Go.RowKit
structure Ad where
 w:Option Addr
 wc:Nat
 cs:Option Addr
 cc:Nat
 fs:Option Addr
 fc:Nat
 ps:Option Addr
 pc:Nat
def pkC(p:Pk)(a:Ad):Array Value:=#[.int .i64 p.kind,.bool p.dup,.bool p.retain,.int .i64 p.qos,.int .i64 p.id,.string (bs p.topic),.string (bs p.payload),.bool p.clean,.int .i64 p.keep,.string (bs p.client),.bool p.hasUser,.string (bs p.user),.bool p.hasPass,.string (bs p.pass),.bool p.hasWill,
 .string (bs p.wTopic),.string (bs p.wPayload),.int .i64 p.wQos,.bool p.wRetain,.slice a.w p.wProps.length a.wc,.bool p.session,.int .i64 p.code,.slice a.cs p.codes.length a.cc,.slice a.fs p.filters.length a.fc,.slice a.ps p.props.length a.pc]
def pkV(p:Pk)(a:Ad):Value := .agg (pkC p a)
theorem qwmp(p:Pk)(a:Ad):(pkC p a).size=25:=rfl
theorem qmz0(p:Pk)(a:Ad):(pkC p a).all (·.oneCell')=true:=by simp[pkC,Value.oneCell']
def quk6(f:Fi):List Value:=[.string (bs f.topic),.int .i64 f.qos,.bool f.noLocal,.bool f.asPub,.int .i64 f.handling]
def fcs(l:List Fi):List Value:=l.flatMap quk6
def ics(l:List Int):List Value:=l.map (Value.int .i64)
theorem q7s9(f:Fi)(l:List Fi):fcs (f::l)=quk6 f++fcs l:=rfl
theorem q4ip:∀(l:List Fi) (j c:Nat) (f:Fi),l[j]?=some f->c<5->(fcs l)[j*5+c]?=(quk6 f)[c]?
 |[],j,c,f,h,_=>by simp at h
 |q::l,0,c,f,h,hc=>by
  simp at h;subst h;rw[q7s9,List.getElem?_append_left (by show _<5;omega)]
  congr 1;omega
 |q::l,j+1,c,f,h,hc=>by
  rw[q7s9,List.getElem?_append_right (by show 5<=_;omega)]
  have:(j+1)*5+c-(quk6 q).length=j*5+c:=by show _-5=_;omega
  rw[this];exact q4ip l j c f (by simpa using h) hc
theorem q9jw(l:List Int)(j:Nat)(z:Int)(h:l[j]?=some z):(ics l)[j]?=some (.int .i64 z):=by simp[ics,h]
theorem CL.pl{W:World}{A:Option Addr}{l:List Pr}(h:CL W A (pcs l)):PL W A l:=fun hne=>by
 have hp:pcs l≠[]:=fun e=>by
  have:=qv9di l
  rw[e] at this;exact hne (List.length_eq_zero_iff.1 (by simp at this;omega))
 obtain⟨g,i,e,hg,hc⟩:=h hp;refine⟨g,i,e,hg,fun j p hj=>?_⟩;have hq:∀c,c<4->W.cell? ⟨g,i+j*4+c,none⟩=(pc p)[c]? := fun c hc4=>by
  have h1:=qsrc l j c p hj hc4;have h2:(pc p)[c]?=some ((pc p)[c]'hc4):=List.getElem?_eq_getElem hc4;rw[h2] at h1 ⊢
  have:=hc _ _ h1
  rwa [<-Nat.add_assoc] at this
 exact⟨hq 0 (by decide),hq 1 (by decide),hq 2 (by decide),hq 3 (by decide)⟩
theorem PL.cl{W:World}{A:Option Addr}{l:List Pr}(h:PL W A l):CL W A (pcs l):=fun hne=>by
 have hl:l≠[]:=by rintro rfl;exact hne rfl
 obtain⟨g,i,e,hg,hc⟩:=h hl;refine⟨g,i,e,hg,fun j u hu=>?_⟩;have hj:j<l.length*4:=by
  have:=(List.getElem?_eq_some_iff.1 hu).1
  rwa [qv9di] at this
 obtain⟨p,hp⟩:∃p,l[j / 4]?=some p:=⟨_,List.getElem?_eq_getElem (by omega)⟩
 obtain⟨a0,a1,a2,a3⟩:=hc (j / 4) p hp;have e1:j=j / 4*4+j%4:=by omega
 have hq:(pcs l)[j]?=(pc p)[j%4]? := by
  have:=qsrc l (j / 4) (j%4) p hp (by omega)
  rwa [<-e1] at this
 rw[hu] at hq;have hr:j%4=0\/j%4=1\/j%4=2\/j%4=3:=by omega
 rcases hr with h|h|h|h
 ·rw[h] at hq;rw[show i+j=i+j / 4*4 by omega,a0];exact hq.symm
 ·rw[h] at hq;rw[show i+j=i+j / 4*4+1 by omega,a1];exact hq.symm
 ·rw[h] at hq;rw[show i+j=i+j / 4*4+2 by omega,a2];exact hq.symm
 ·rw[h] at hq;rw[show i+j=i+j / 4*4+3 by omega,a3];exact hq.symm
theorem CL.fi{W:World}{A:Option Addr}{l:List Fi}(h:CL W A (fcs l)){j:Nat}{f:Fi}(hj:l[j]?=some f):∃g i,A=some ⟨g,i,none⟩/\g<W.heap.size/\
 W.cell? ⟨g,i+j*5,none⟩=some (.string (bs f.topic))/\W.cell? ⟨g,i+j*5+1,none⟩=some (.int .i64 f.qos)/\W.cell? ⟨g,i+j*5+2,none⟩=some (.bool f.noLocal)/\W.cell? ⟨g,i+j*5+3,none⟩=some (.bool f.asPub)/\W.cell? ⟨g,i+j*5+4,none⟩=some (.int .i64 f.handling):=by
 have hne:fcs l≠[]:=fun e=>by have h1:=q4ip l j 0 f hj (by decide);rw[e] at h1;cases h1
 obtain⟨g,i,e,hg,hc⟩:=h hne;have hq:∀c,c<5->W.cell? ⟨g,i+j*5+c,none⟩=(quk6 f)[c]? := fun c hc5=>by
  have h1:=q4ip l j c f hj hc5;have h2:(quk6 f)[c]?=some ((quk6 f)[c]'hc5):=List.getElem?_eq_getElem hc5;rw[h2] at h1 ⊢
  have:=hc _ _ h1
  rwa [<-Nat.add_assoc] at this
 exact⟨g,i,e,hg,hq 0 (by decide),hq 1 (by decide),hq 2 (by decide),hq 3 (by decide),hq 4 (by decide)⟩
theorem CL.int{W:World}{A:Option Addr}{l:List Int}(h:CL W A (ics l)){j:Nat}{z:Int}(hj:l[j]?=some z):∃g i,A=some ⟨g,i,none⟩/\g<W.heap.size/\W.cell? ⟨g,i+j,none⟩=some (.int .i64 z):=by have h1:=q9jw l j z hj;obtain⟨g,i,e,hg,hc⟩:=h (fun e=>by rw[e] at h1;cases h1);exact⟨g,i,e,hg,hc j _ h1⟩
structure PkAt(W:World)(p:Pk)(a:Ad):Prop where
 w:PL W a.w p.wProps
 cs:CL W a.cs (ics p.codes)
 fs:CL W a.fs (fcs p.filters)
 ps:PL W a.ps p.props
theorem PkAt.below{W W':World}{p:Pk}{a:Ad}(h:PkAt W p a)(hb:Below W.heap.size W W'):PkAt W' p a:=⟨h.w.below hb,h.cs.below hb,h.fs.below hb,h.ps.below hb⟩
theorem PkAt.draws{W:World}{p:Pk}{a:Ad}(h:PkAt W p a)(n:Nat):PkAt (W.drewN n) p a:=h.below (qnpu (Below.refl _ _) n)
structure PkOk(p:Pk):Prop where
 kind:-9223372036854775808<=p.kind/\p.kind<=9223372036854775807
 qos:-9223372036854775808<=p.qos/\p.qos<=9223372036854775807
 texts:∀t∈p.texts,t.length<=140737488351232
 wps:∀x∈p.wProps,PrOk x/\x.text.length<=140737488351232/\x.value.length<=140737488351232
 pps:∀x∈p.props,PrOk x/\x.text.length<=140737488351232/\x.value.length<=140737488351232
 fis:∀f∈p.filters,f.topic.length<=140737488351232
structure PkCap(p:Pk)(a:Ad):Prop where
 pc:p.props.length<=a.pc
 wc:p.wProps.length<=a.wc
 q:-9223372036854775808<=p.wQos/\p.wQos<=9223372036854775807
end Go.Proofs.YtefmhbioggcfaaaGreatDoor
