/- What SubscribeAnswers asks of plain packets. No condition. -/
import Derived.Test.YtbecggefmbpnoaaGreatDoorK48
import Derived.Test.YtbecggefmbpnoaaGreatDoorK50
namespace Go.Proofs.YtbecggefmbpnoaaGreatDoor
open Go.RowKit
def askF(t:List UInt8):Fi:=⟨t,0,false,false,0⟩
def ansS(i:Int)(c:List Int):Pk:={Pk.zero with kind:=9,id:=i,codes:=c}
def adC(A:Option Addr)(c:Nat):Ad:={adZ with cs:=A,cc:=c}
theorem qbm8{i:Int}{c:List Int}:PkOk (ansS i c):=by
 refine⟨by show _≤(9:Int)∧(9:Int)≤_;decide,by show _≤(0:Int)∧(0:Int)≤_;decide,fun t ht=>?_,fun x hx=>(nomatch hx),fun x hx=>(nomatch hx),fun x hx=>(nomatch hx)⟩
 have:t=[]:=by simpa [Pk.texts,Pk.zero,ansS] using ht
 rw[this];decide
theorem q4lq{W:World}{i:Int}{l:List Int}{A:Option Addr}{c:Nat}(h:CL W A (ics l)):PkAt W (ansS i l) (adC A c):=⟨fun e=>absurd rfl e,h,fun e=>absurd rfl e,fun e=>absurd rfl e⟩
theorem optF{u:Int}(t:List UInt8):optS u 8 (askF t)=true:=by
 unfold optS askF
 rw[if_neg (by decide)]
 split<;>rfl
theorem qb19{u:Int}:∀{l:List (List UInt8)},(∀t∈l,qw8n t=true)→qlck u 8 (l.map askF)=0
 | [],_=>rfl
 | t::l,h=>by
  rw[List.map_cons,qlck,if_neg (by rw[show(askF t).topic=t from rfl,h t (List.mem_cons_self ..)];decide),if_neg (by rw[optF];decide)]
  exact qb19 fun x hx=>h x (List.mem_cons_of_mem _ hx)
theorem qvp9{u i:Int}(hu:u=4∨u=5)(hi:1≤i∧i≤65535){l:List (List UInt8)}(h:∀t∈l,qw8n t=true):decide (q3m2 u (askS i (l.map askF))=0)=!l.isEmpty:=by
 cases l with
 | nil=>
  have:okS u (askS i [])=false:=by unfold okS askS;simp[Pk.zero]
  show decide (q3m2 u (askS i [])=0)=false
  unfold q3m2
  rw[this];rfl
 | cons t l=>
  rw[q19e hu hi (by simp),qb19 h];rfl
theorem qn3u{u:Int}:∀(c:List Int),decide (qq92 u 9 c=0)=c.all (q190 u 9)
 | []=>rfl
 | x::c=>by
  rw[qq92,List.all_cons,←qn3u c]
  cases q190 u 9 x with
  | false=>rfl
  | true=>rw[if_neg (by decide),Bool.true_and]
theorem qqr5{u i:Int}(hu:u=4∨u=5)(hi:1≤i∧i≤65535)(c:List Int):decide (q3m2 u (ansS i c)=0)=(!c.isEmpty&&c.all (q190 u 9)):=by
 cases c with
 | nil=>
  have:okS u (ansS i [])=false:=by
   unfold okS ansS
   obtain rfl | rfl:=hu<;>simp[Pk.zero]
  unfold q3m2
  rw[this];rfl
 | cons x c=>
  have h1:decide (1≤i)=true:=decide_eq_true hi.1
  have h2:decide (i≤65535)=true:=decide_eq_true hi.2
  have h3:ansS i (x::c)=qumw u (ansS i (x::c)):=by
   unfold qumw ansS
   obtain rfl | rfl:=hu<;>rfl
  have h4:=decide_eq_true h3
  have h5:okS u (ansS i (x::c))=true:=by
   unfold okS
   rw[h4]
   show(versC u&&qfws 9&&true&&(decide (1≤i)&&decide (i≤65535))&&!(u==4&&!([]:List Pr).isEmpty)&&!(([]:List Fi).isEmpty&&(x::c).isEmpty&&!((9:Int)==11&&u==4)))=true
   rw[h1,h2]
   obtain rfl | rfl:=hu<;>rfl
  have h6:qfk9 u (ansS i (x::c)).kind (ansS i (x::c)).props=0:=q95w (v:=u) (kind:=9) (.inr (.inl rfl))
  have h7:q3m2 u (ansS i (x::c))=qq92 u 9 (x::c):=by
   unfold q3m2
   rw[h5,if_neg (by decide),h6,if_neg (by decide)]
   rfl
  rw[h7,qn3u];rfl
def qj85(u:Int)(l:List (List UInt8))(c:List Int):Bool:=(decide (0 < l.length)&&decide (c.length=l.length))&&c.all (q190 u 9)
theorem qhf7{u i:Int}(hu:u=4∨u=5)(hi:1≤i∧i≤65535){l:List (List UInt8)}(h:∀t∈l,qw8n t=true)(c:List Int):qoit u (askS i (l.map askF)) (ansS i c)=qj85 u l c:=by
 unfold qoit qj85
 rw[qvp9 hu hi h,qqr5 hu hi c]
 show(qsfj 8&&(9:Int)==8+1&&!l.isEmpty&&(!c.isEmpty&&c.all (q190 u 9))&&i==i&&((9:Int)==11&&u==4 || c.length==(l.map askF).length))=_
 rw[List.length_map]
 generalize c.all (q190 u 9)=z
 cases l<;>cases c<;>cases z<;>simp[qsfj]
 rw[Bool.eq_iff_iff];simp
theorem qdfk{u i j:Int}(hij:i≠j){l:List Fi}(c:List Int):qoit u (askS i l) (ansS j c)=false:=by
 have h1:((askS i l).id==(ansS j c).id)=false:=by show(i==j)=false;simpa using hij
 unfold qoit
 rw[h1];simp
theorem qlff{u i j:Int}{l:List Fi}{c:List Int}(h:c.length≠l.length):qoit u (askS i l) (ansS j c)=false:=by
 unfold qoit
 have h1:((ansS j c).kind==11&&u==4 || (ansS j c).codes.length==(askS i l).filters.length)=false:=by
  show((9:Int)==11&&u==4 || c.length==l.length)=false
  simpa using h
 rw[h1];simp
theorem qa4t{u i j:Int}{l:List Fi}{c:List Int}:qoit u (ansS j c) (askS i l)=false:=by
 unfold qoit
 have:qsfj (ansS j c).kind=false:=by show qsfj 9=false;decide
 rw[this];rfl
theorem qd2j{W:World}{A:Option Addr}{n:Nat}{zs:List Int}(h:0 < n→∃a,A=some a∧a.block < W.heap.size∧∀i,i < n→W.cell? (a.add i)=some (.int .i64 (zs.getD i 0))) :
 ∃C:List Int,C.length=n∧CL W A (ics C):=by
 refine⟨(List.range n).map fun j=>zs.getD j 0,by simp,fun hne=>?_⟩
 have hn:0 < n:=by
  rcases Nat.eq_zero_or_pos n with rfl | h
  ·exact absurd rfl hne
  ·exact h
 obtain⟨⟨g,i,spot⟩,rfl,hlt,hc⟩:=h hn
 have hspot:spot=none:=by
  have hu:=hc 0 hn
  have e0:(⟨g,i,spot⟩:Addr).add 0=⟨g,i,spot⟩:=by simp[Addr.add]
  rw[e0] at hu
  cases spot with
  | none=>rfl
  | some x=>
   unfold World.cell? at hu
   split at hu<;>simp at hu
 subst hspot
 refine⟨g,i,rfl,hlt,fun j u hj=>?_⟩
 have hjn:j < n:=by
  have:=(List.getElem?_eq_some_iff.1 hj).1
  simpa [ics] using this
 have e:=hc j hjn
 rw[Addr.add_lit] at e
 rw[e]
 rw[←hj]
 simp[ics,hjn]
end Go.Proofs.YtbecggefmbpnoaaGreatDoor
