/- The contract of varint.Read. No condition but the length of a string. -/
import Derived.Deep.LoopGhost
import Derived.Deep.QuietTactic
import Derived.WalkSmall
import Derived.Test.YtbklidpadffpgaaGreatK19
import Derived.Test.YtbklidpadffpgaaGreatK02
import Derived.Test.YtbklidpadffpgaaGreatK05
import Derived.Test.YtbklidpadffpgaaGreatK12
import Derived.Test.YtbklidpadffpgaaGreatK17
import Derived.Test.YtbklidpadffpgaaGreatK07
set_option maxHeartbeats 1000000
namespace Go.Proofs.YtbklidpadffpgaaGreat
open Go.RowKit
theorem qe0g(s:ByteArray)(k:Nat)(h:k < s.size):s.data.toList.drop k=s[k]::s.data.toList.drop (k+1):=by
 rw[List.drop_eq_getElem_cons (by simpa using h)];rfl
theorem qhwc(s:ByteArray):s.data.toList.drop s.size=[]:=List.drop_of_length_le (by simp)
def q51h(l:List UInt8):Ending := .returned (.tuple #[.int .i64 (rdV l),.int .i64 (rdN l),.int .i64 (rdE l)])
theorem qxud{l:List UInt8}{v n st:Nat}{a b c:Int}(h:run 0 0 l=(v,n,st))(ha:((if st=1 then v else 0:Nat):Int)=a)(hb:((if st=1 then n else 0:Nat):Int)=b)
 (hc:((if st=0 then 3 else if st=1 then 0 else 5:Nat):Int)=c):Ending.returned (.tuple #[.int .i64 a,.int .i64 b,.int .i64 c])=q51h l:=by
 obtain⟨h1,h2,h3⟩:=qa1w h
 rw[←ha,←hb,←hc,←h1,←h2,←h3];rfl
def qxfh(l:List UInt8)(w:World)(e:Ending)(w':World):Prop:=e=q51h l∧Below w.heap.size w w'
def q905(w:World)(l:List UInt8)(k:Nat)(wr:World):Prop:=∃v,k < 4∧v < 128^k∧Rd wr w.heap.size v k 0∧Below w.heap.size w wr∧run 0 0 l=run v k (l.drop k)
theorem q58y{w wr w1:World}(hb:Below w.heap.size w wr)(hg:wr.grownBy w1 (some w.heap.size)):Below w.heap.size w w1:=
 hb.grown hg hb.size (fun k hk=>by cases hk;exact Nat.le_refl _)
theorem q6w6(s:ByteArray)(w:World)(_hm:s.size≤9223372036854775807) :
 Calls Tryz.prog 78 #[.string s] w (qxfh s.data.toList w):=by
 go_enter Tryz.func78,Tryz.ntmps78
 go_wp2_with fail
 refine(qz5z _).mono ?_
 rintro e w1 ⟨rfl,hr,hb⟩
 have H:=Lib.hid (show q905 w s.data.toList 0 w1 from⟨0,by decide,by decide,hr,hb,rfl⟩)
 clear hr hb
 go_wp2_with fail
 go_loopw [12] (fun i wr=>∃k:Nat,k≤s.size∧i = .int .i64 k∧q905 w s.data.toList k wr) (fun i _=>s.size - (intOf i).toNat)
 case atStart=>exact⟨0,Nat.zero_le _,rfl,H.out⟩
 case round=>
  obtain⟨k,hk,rfl,v,hk4,hv,hr,hb,hrun⟩:=hrel
  clear H
  by_cases hlt:k < s.size
  ·have hd:=qe0g s k hlt
   have RUN:=Lib.hid hrun
   have D:=Lib.hid hd
   clear hrun hd
   rcases qlf0 s[k] (k+1) with hx | hx | hx
   ·have NX:=Lib.hid hx
    clear hx
    go_wp2_with fail
    refine(qh0d s[k] hr hv hk4 NX.out).mono ?_
    rintro e w2 ⟨rfl,hr2,hg⟩
    have hb2:=q58y hb hg
    go_wp2_with fail
    go_roundw
    case rel=>
     have h4:=(qv8z.1 NX.out).2
     refine⟨k+1,by omega,by go_num,_,by omega,qpfr _ hv,hr2,hb2,?_⟩
     rw[RUN.out,D.out,qomx _ NX.out]
    case measure=>simp[intOf];omega
   ·have NX:=Lib.hid hx
    clear hx
    go_wp2_with fail
    refine(qhre s[k] hr hv hk4 NX.out).mono ?_
    rintro e w2 ⟨rfl,hr2,hg⟩
    have hb2:=q58y hb hg
    have RR:=Lib.hid (qxud (l:=s.data.toList) (v:=grow v k s[k]) (n:=k+1) (st:=1) (by rw[RUN.out,D.out,q408 _ (by rw[NX.out];decide),NX.out]) rfl rfl rfl)
    have h1:=hr2.c1
    have h2:=hr2.c2
    go_wp2_with fail
    go_quiet (fail)
    go_wp2
    go_ret3
    exact⟨RR.out,qnpu hb2 _⟩
   ·have NX:=Lib.hid hx
    clear hx
    go_wp2_with fail
    refine(qdxq s[k] hr hv hk4 NX.out).mono ?_
    rintro e w2 ⟨rfl,hr2,hg⟩
    have hb2:=q58y hb hg
    have RR:=Lib.hid (qxud (l:=s.data.toList) (v:=grow v k s[k]) (n:=k+1) (st:=2) (by rw[RUN.out,D.out,q408 _ (by rw[NX.out];decide),NX.out]) rfl rfl rfl)
    go_wp2_with fail
    go_ret3
    exact⟨RR.out,hb2⟩
  ·obtain rfl:k=s.size:=by omega
   have RR:=Lib.hid (qxud (l:=s.data.toList) (v:=v) (n:=s.size) (st:=0) (by rw[hrun,qhwc];rfl) rfl rfl rfl)
   clear hrun
   go_wp2
   go_ret3
   exact⟨RR.out,hb⟩
def qymj(l:List Pr):Nat:=(l.map fun p=>p.text.length+p.value.length).sum
theorem qoqr(l:List Pr)(p:Pr):qymj (l++[p])=qymj l+p.text.length+p.value.length:=by simp[qymj];omega
def q2y5(l:List Pr):Bool:=decide (l.length≤1010)&&decide (qymj l≤140000)
theorem qv17(A:Option Addr)(c:Nat)(w:World) :
 Calls Tryz.prog 58 #[.slice A 0 c] w fun e w'=>e = .returned (.int .i64 0)∧∃m,w'=w.drewN m:=by
 go_enter Tryz.func58,Tryz.ntmps58
 go_wp2
 refine wp_loop_rounds 1 ?_
 rw[rounds_succ]
 go_wp2
 go_ret
 exact⟨rfl,0,rfl⟩
theorem q8s3(g i c:Nat)(l:List Pr)(w:World)(ha:PL w (some ⟨g,i,none⟩) l)(hl:l.length≤1010)(hm:∀p∈l,p.text.length≤140737488351232∧p.value.length≤140737488351232) :
 Calls Tryz.prog 58 #[.slice (some ⟨g,i,none⟩) l.length c] w fun e w'=>e = .returned (.int .i64 ((qymj l:Nat):Int))∧∃m,w'=w.drewN m:=by
 have HA:=Lib.hid ha
 have HM:=Lib.hid hm
 obtain⟨n,hn⟩:∃n,l.length=n:=⟨_,rfl⟩
 have HN:=Lib.hid hn
 rw[hn] at hl ⊢
 clear ha hm hn
 have hl':(n:Int)≤1010:=by omega
 obtain⟨V,hV⟩:∃V,qymj l=V:=⟨_,rfl⟩
 rw[hV]
 have HV:=Lib.hid hV
 clear hV
 go_enter Tryz.func58,Tryz.ntmps58
 go_wp2
 go_loopg [4,3] n (fun gk s4 s3 wr=>∃k t m:Nat,k≤n∧gk=n - k∧s4 = .int .i64 (k:Int)∧s3 = .int .i64 (t:Int)∧t=qymj (l.take k)∧t≤k*281474976710656∧wr=w.drewN m)
 case atStart=>exact⟨0,0,0,by omega,by omega,rfl,rfl,rfl,by omega,rfl⟩
 case round=>
  obtain⟨k,t,m,hk,hgk,rfl,rfl,ht,ht2,rfl⟩:=hrel
  by_cases hlt:k < n
  ·have hkl:k < l.length:=by rw[HN.out];exact hlt
   obtain⟨p,hp⟩:∃p,l[k]? = some p:=⟨_,List.getElem?_eq_getElem hkl⟩
   obtain⟨g',i',e',_,a0,a1,a2,a3⟩:=HA.out.at hp
   cases e'
   have htk:l.take (k+1)=l.take k++[p]:=by rw[List.take_add_one,hp];rfl
   have hpm:=HM.out p (List.mem_of_getElem? hp)
   have ht3:=qoqr (l.take k) p
   rw[←htk,←ht] at ht3
   obtain⟨x,hx⟩:∃x:Int,((bs p.text).size:Int)=x:=⟨_,rfl⟩
   obtain⟨y,hy⟩:∃x:Int,((bs p.value).size:Int)=x:=⟨_,rfl⟩
   have z1:=qkrc p.text
   have z2:=qkrc p.value
   obtain⟨u,hu⟩:∃u,qymj (l.take (k+1))=u:=⟨_,rfl⟩
   rw[hu] at ht3
   have w1:IntKind.i64.wrap ((t:Int)+x)=(t:Int)+x:=by simp only[IntKind.wrap_i64];omega
   have w2:IntKind.i64.wrap ((t:Int)+x+y)=(u:Int):=by simp only[IntKind.wrap_i64];omega
   have hu2:u≤(k+1)*281474976710656:=by omega
   generalize bs p.text=x2 at *
   generalize bs p.value=x3 at *
   have g1:(k:Int) < (n:Int):=by omega
   have HU:=Lib.hid hu
   have HU2:=Lib.hid hu2
   clear a0 a1 hp hkl htk hpm ht3 z1 z2 hu hu2 ht ht2
   go_wp2
   go_quiet (fail)
   go_wp2
   go_roundg (n - (k+1))
   case measure=>omega
   case rel=>exact⟨k+1,u,_,by omega,rfl,by go_num,rfl,HU.out.symm,HU2.out,rfl⟩
  ·obtain rfl:k=n:=by omega
   have ht1:l.take k=l:=List.take_of_length_le (by rw[HN.out];omega)
   rw[ht1,HV.out] at ht
   subst ht
   clear ht2
   go_wp2
   go_ret
   exact⟨rfl,m,rfl⟩
theorem q3f7(A:Option Addr)(n c:Nat)(l:List Pr)(w:World)(ha:PL w A l)(hn:l.length=n)(hm:∀p∈l,p.text.length≤140737488351232∧p.value.length≤140737488351232) :
 Calls Tryz.prog 29 #[.slice A n c] w fun e w'=>e = .returned (.bool (q2y5 l))∧∃m,w'=w.drewN m:=by
 unfold q2y5
 rw[hn]
 by_cases h1:n≤1010
 ·rw[decide_eq_true h1,Bool.true_and]
  have WT:Calls Tryz.prog 58 #[.slice A n c] w fun e w'=>e = .returned (.int .i64 ((qymj l:Nat):Int))∧∃m,w'=w.drewN m:=by
   by_cases h0:l=[]
   ·subst h0
    obtain rfl:0=n:=hn
    exact qv17 A c w
   ·obtain⟨g,i,rfl,_⟩:=ha.addr h0
    subst hn
    exact q8s3 g i c l w ha h1 hm
  have g1:(n:Int)≤1010:=by omega
  have WT:=Lib.hid WT
  obtain⟨B,hB⟩:∃B,decide (qymj l≤140000)=B:=⟨_,rfl⟩
  rw[hB]
  have HB:=Lib.hid (show decide (((qymj l:Nat):Int)≤140000)=B by rw[←hB,decide_eq_decide];omega)
  generalize ((qymj l:Nat):Int)=t at *
  clear ha hm h1 hn hB
  go_enter Tryz.func29,Tryz.ntmps29
  go_wp2_with fail
  refine(WT.out).mono ?_
  rintro e w1 ⟨rfl,m,rfl⟩
  go_wp2_with fail
  go_ret
  exact⟨congrArg (fun b=>Ending.returned (Value.bool b)) HB.out,m,rfl⟩
 ·rw[decide_eq_false h1,Bool.false_and]
  have g1:¬(n:Int)≤1010:=by omega
  clear ha hm h1 hn
  go_enter Tryz.func29,Tryz.ntmps29
  go_wp2_with fail
  go_ret
  exact⟨rfl,0,rfl⟩
def FitA(p:Pk):Prop:=PkOk p∧q21o p
theorem q0yw{kind:Int}{i c:Nat}{l:List Pr}(hk:-9223372036854775808≤kind∧kind≤9223372036854775807)(hl:(∀p∈l,PrOk p∧p.text.length≤65535∧p.value.length≤65535)∧l.length≤1000):FitA (pkB kind i c l):=by
 refine⟨⟨hk,by show _≤(0:Int)∧(0:Int)≤_;decide,fun t ht=>?_,fun x hx=>(nomatch hx),fun x hx=>?_,fun x hx=>(nomatch hx)⟩,Nat.zero_le _,Nat.zero_le _,Nat.le_trans hl.2 (by decide),Nat.zero_le _⟩
 ·have:t=[]:=by simpa [Pk.texts,Pk.zero,pkB] using ht
  rw[this];decide
 ·obtain⟨h1,h2,h3⟩:=hl.1 x hx
  exact⟨h1,by omega,by omega⟩
theorem qkys:FitA Pk.zero:=by
 have:=q0yw (kind:=0) (i:=0) (c:=0) (l:=[]) (by decide) ⟨fun p hp=>(nomatch hp),Nat.zero_le _⟩
 exact this
def qplq(w:World)(R:Pk×Nat)(e:Ending)(W:World):Prop:=
 ∃a:Ad,e = .returned (.tuple #[.agg (pkC R.1 a),.int .i64 (R.2:Nat)])∧PkAt W R.1 a∧R.1.props.length≤a.pc∧FitA R.1∧Below w.heap.size w W∧(R.2≠0→a=adZ)
end Go.Proofs.YtbklidpadffpgaaGreat
