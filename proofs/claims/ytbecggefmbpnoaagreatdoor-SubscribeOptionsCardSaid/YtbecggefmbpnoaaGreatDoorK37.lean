/- The contract of prop.Read, as a law's walk wants it. Condition: the bytes are no more than an int says. -/
import Derived.OwnWalk
import Derived.WalkSmall
import Derived.Deep.LoopGhost
import Derived.Lib.IndexBytes
import Derived.Test.YtbecggefmbpnoaaGreatDoorK36
import Derived.Test.YtbecggefmbpnoaaGreatDoorK09
import Derived.Test.YtbecggefmbpnoaaGreatDoorK05
import Derived.Test.YtbecggefmbpnoaaGreatDoorK07
import Derived.Test.YtbecggefmbpnoaaGreatDoorK03
import Derived.Test.YtbecggefmbpnoaaGreatDoorK08
import Derived.Test.YtbecggefmbpnoaaGreatDoorK34
import Derived.Test.YtbecggefmbpnoaaGreatDoorK20
set_option maxRecDepth 100000
set_option maxHeartbeats 4000000
namespace Go.Proofs.YtbecggefmbpnoaaGreatDoor
open Go.RowKit
theorem q188(kind:Int)(s:ByteArray)(L:List Pr)(k F:Nat)(hk0:-9223372036854775808≤kind)(hk1:kind≤9223372036854775807)(hm:s.size≤9223372036854775807)(hq:qflw kind s.data.toList=(L,k,F))(W:World) :
 Calls Tryz.prog 113 #[.int .i64 kind,.string s] W fun e W'=>Below W.heap.size W W'∧∃A c,e = .returned (.tuple #[.slice A L.length c,.int .i64 (k:Nat),.int .i64 (F:Nat)])∧L.length≤c∧PL W' A L∧(∀p∈L,PrOk p)∧L.length≤1000∧∀g i,A=some ⟨g,i,none⟩→W.heap.size≤g:=by
 have:=q3kx kind s W hk0 hk1 hm
 rw[hq] at this
 refine this.mono fun e W' ⟨hb,ok,hl,v,he,ho⟩=>⟨hb,?_⟩
 obtain⟨A,c,rfl,hc,hP,hg⟩:=PL.owned ho rfl
 exact⟨A,c,he,hc,hP,ok,hl,hg⟩
end Go.Proofs.YtbecggefmbpnoaaGreatDoor
namespace Go.Proofs.YtbecggefmbpnoaaGreatDoor
theorem qoa7{kind:Int}{p:Pr}(h:qr4y kind p=0):PrOk p∧p.text.length≤65535∧p.value.length≤65535:=by
 obtain⟨hm,h4,h5⟩:=qo1o h
 obtain⟨_,h1,h2,_⟩:=qttn h
 obtain⟨r1,r2⟩:=qilb hm
 obtain⟨f0,f7,f1,f2,f3,f4,_⟩:=qznl hm
 have hn:p.n < 4294967296:=by
  by_cases hs:qwgc p.id≤4
  ·have h6:=(h4 hs).2.2.2
   have hs4:qwgc p.id=1∨qwgc p.id=2∨qwgc p.id=3∨qwgc p.id=4:=by omega
   rcases hs4 with e | e | e | e
   ·have:=f1 e;omega
   ·have:=f2 e;omega
   ·have:=f3 e;omega
   ·have:=f4 e;omega
  ·have:=(h5 (by omega)).1;omega
 exact⟨⟨by omega,by omega,hn,by omega,by omega⟩,h1,h2⟩
theorem qdz1(kind:Int)(s:List UInt8):(∀p∈(qflw kind s).1,PrOk p∧p.text.length≤65535∧p.value.length≤65535)∧(qflw kind s).1.length≤1000:=by
 by_cases h:(qflw kind s).2.2=0
 ·have hv:=(qugf (show qflw kind s=((qflw kind s).1,(qflw kind s).2.1,0) by rw[←h])).1
  obtain⟨h1,h2,_⟩:=(qgl5 _ _).1 hv
  exact⟨fun p hp=>qoa7 (h2.1 p hp),h1⟩
 ·rw[qjfk h]
  exact⟨fun p hp=>(nomatch hp),Nat.zero_le _⟩
theorem q5pm(x:Cs)(v kind:Int):(∀p∈(x.props v kind).1,PrOk p∧p.text.length≤65535∧p.value.length≤65535)∧(x.props v kind).1.length≤1000:=by
 unfold Cs.props
 split
 ·exact⟨fun p hp=>(nomatch hp),Nat.zero_le _⟩
 ·exact qdz1 _ _
end Go.Proofs.YtbecggefmbpnoaaGreatDoor
namespace Go.Proofs.YtbecggefmbpnoaaGreatDoor
open Go.RowKit
theorem qdkx:(Tryz.prog.info? 9).map (fun i=>(i.zero,i.size,i.bytes))=some (some (.string .empty),1,16):=by kernel_rfl
theorem qd1o(a:List (List UInt8))(l:List UInt8):strs a++[.string (bs l)]=strs (a++[l]):=by simp[strs]
theorem ql17{S:List UInt8}{d:Nat}(hd:S[d]? = some 47)(hf:(47:UInt8)∉S.take d):lvls S=S.take d::lvls (S.drop (d+1)):=by
 obtain⟨h1,h2⟩:=List.getElem?_eq_some_iff.1 hd
 conv=>lhs;rw[←List.take_append_drop d S,List.drop_eq_getElem_cons h1,h2]
 exact quk3 hf _
theorem quc1(s:ByteArray)(w:World)(hs:s.size≤200000) :
 Calls Tryz.prog 72 #[.string s] w fun e w'=>∃v,e = .returned v∧w'.ownsRow w.heap.size 9 1 v (lvls s.data.toList).length (strs (lvls s.data.toList))∧Below w.heap.size w w':=by
 obtain⟨i0,hi,hz0,hz1,hz2⟩:=info_parts qdkx
 obtain⟨S,hS⟩:∃S,s.data.toList=S:=⟨_,rfl⟩
 have hsz:S.length=s.size:=by rw[←hS,q4ad]
 have hget:∀(k:Nat) (hk:k < s.size),S[k]? = some s[k]:=fun k hk=>by
  rw[←hS,List.getElem?_eq_getElem (by rw[←q4ad];exact hk)];rfl
 have hext:∀i n,s.extract i (i+n)=bs ((S.drop i).take n):=fun i n=>by rw[←hS];exact q31q s i n
 rw[hS]
 have HX:=Lib.hid (And.intro hsz (And.intro hget hext))
 have q0:(s.size:Int)≤200000:=by omega
 clear hS hsz hget hext hs
 go_enter Tryz.func72,Tryz.ntmps72
 go_wp2_with fail
 go_loopg [3,4,5] s.size (fun gk s3 s4 s5 wx=>∃(f d:Nat) (o:List (List UInt8)),f+d≤s.size∧gk=s.size - (f+d)∧s4 = .int .i64 (f:Int)∧s5 = .int .i64 ((f+d:Nat):Int)∧lvls S=o++lvls (S.drop f)∧(47:UInt8)∉(S.drop f).take d∧o.length≤f∧wx.ownsRow w.heap.size 9 1 s3 o.length (strs o)∧Below w.heap.size w wx)
 case atStart=>exact⟨0,0,[],Nat.zero_le _,rfl,rfl,rfl,rfl,by simp,Nat.le_refl _,World.ownsRow_nil _ _ _ _,Below.refl _ _⟩
 case round=>
  obtain⟨f,d,o,hk,rfl,rfl,rfl,hL,hF,hO,hown,hb⟩:=hrel
  have HB:=Lib.hid hb
  have HOW:=Lib.hid hown
  obtain⟨k,hkk⟩:∃k,f+d=k:=⟨_,rfl⟩
  have hfk:(f:Int)≤(k:Int):=by omega
  by_cases hlt:k < s.size
  ·have hget:=HX.out.2.1 k hlt
   have hdd:(S.drop f)[d]? = some s[k]:=by rw[List.getElem?_drop,hkk];exact hget
   have hne:¬s=ByteArray.empty:=by intro e;rw[e] at hlt;exact absurd hlt (by simp)
   have L:=Lib.hid (And.intro hlt hkk)
   have g1:(k:Int) < (s.size:Int):=by omega
   rw[hkk]
   by_cases h47:s[k]=47
   ·have e47:((s[k].toNat:Int)==47)=true:=by rw[h47];rfl
    obtain⟨r,hr⟩:∃r,s[k].toNat=r:=⟨_,rfl⟩
    rw[hr] at e47
    have hsl:s.extract f k=bs ((S.drop f).take d):=by rw[←hkk];exact HX.out.2.2 f d
    have hcut:=ql17 (by rw[hdd,h47]) hF
    rw[List.drop_drop,show f+(d+1)=k+1 by omega] at hcut
    have hL2:lvls S=(o++[(S.drop f).take d])++lvls (S.drop (k+1)):=by rw[hL,hcut];simp
    have HL2:=Lib.hid (And.intro hL2 hO)
    have hsn:=qd1o o ((S.drop f).take d)
    generalize (S.drop f).take d=l at *
    have HSN:=Lib.hid hsn
    clear hget hdd h47 hcut hL2 hL hF hO hb hk hsn
    go_wp2_with (at_builtin;refine wpList_append_own _ rfl _ _ 52 rfl w.heap.size 9 i0 (.string .empty) 1 16 Tryz.underlying52 hi hz0 hz1 hz2 rfl (by decide) _ _ _ rfl (hown.alloc _) ⟨wr.heap.size,0,none⟩ 1 1 [.string (bs l)] rfl rfl ?c1 ?c2 ?c3 ?c4 ?c5 ?_)
    case c1=>intro j u hj;cases j<;>simp at hj;subst hj;exact World.cell?_alloc_at _ _ _ _ rfl
    case c2=>intro u hu;simp at hu;subst hu;rfl
    case c3=>have:=HL2.out.2;have:=L.out;unfold maxLen;omega
    case c4=>have:=HL2.out.2;have:=L.out;omega
    case c5=>have:=HB.out.size;simp only[World.size_alloc];omega
    intro v' w9 hown' hgrow _
    have HB9:=Lib.hid ((HB.out.alloc HB.out.size _).grown hgrow (by have:=HB.out.size;simp only[World.size_alloc];omega) (fun j e=>(HOW.out.lt j e).1))
    rw[HSN.out] at hown'
    have HO9:=Lib.hid hown'
    clear hown' hgrow hown
    go_wp2_with fail
    go_roundg (s.size - (k+1))
    case measure=>have:=L.out;omega
    case rel=>exact⟨k+1,0,o++[l],by have:=L.out;omega,rfl,by go_num,by go_num,HL2.out.1,by simp,by have:=HL2.out.2;have:=L.out;simp;omega,by rw[List.length_append];exact HO9.out,HB9.out⟩
   ·have e47:((s[k].toNat:Int)==47)=false:=by
     rw[beq_eq_false_iff_ne];intro e;exact h47 (UInt8.toNat_inj.1 (by have h2:(47:UInt8).toNat=47:=rfl;omega))
    obtain⟨r,hr⟩:∃r,s[k].toNat=r:=⟨_,rfl⟩
    rw[hr] at e47
    have hF2:(47:UInt8)∉(S.drop f).take (d+1):=by
     obtain⟨h1,h2⟩:=List.getElem?_eq_some_iff.1 hdd
     rw[List.take_succ_eq_append_getElem h1,h2,List.mem_append,not_or]
     exact⟨hF,fun e=>h47 (List.mem_singleton.1 e).symm⟩
    have HR:=Lib.hid (And.intro hL (And.intro hF2 hO))
    clear hget hdd h47 hF2 hL hF hO hb hk hown
    go_wp2_with fail
    go_roundg (s.size - (k+1))
    case measure=>have:=L.out;omega
    case rel=>exact⟨f,d+1,o,by have:=L.out;omega,by have:=L.out;omega,rfl,by rw[←Nat.add_assoc,L.out.2];go_num,HR.out.1,HR.out.2.1,HR.out.2.2,HOW.out,HB.out⟩
  ·obtain rfl:k=s.size:=by omega
   have hlast:(S.drop f).take d=S.drop f:=List.take_of_length_le (by rw[List.length_drop,HX.out.1];omega)
   rw[hlast] at hF
   rw[qty4 hF] at hL
   have hsl:s.extract f s.size=bs (S.drop f):=by rw[←hlast,←HX.out.2.2 f d,hkk]
   have hL2:strs o++[.string (bs (S.drop f))]=strs (lvls S)∧o.length+1=(lvls S).length:=by
    rw[hL];exact⟨qd1o _ _,by simp⟩
   have HL2:=Lib.hid (And.intro hL2 hO)
   have L:=Lib.hid hfk
   rw[hkk]
   generalize S.drop f=l at *
   clear hlast hF hL hO hb hk hlt hL2 hkk
   go_wp2_with (at_builtin;refine wpList_append_own _ rfl _ _ 52 rfl w.heap.size 9 i0 (.string .empty) 1 16 Tryz.underlying52 hi hz0 hz1 hz2 rfl (by decide) _ _ _ rfl (hown.alloc _) ⟨wr.heap.size,0,none⟩ 1 1 [.string (bs l)] rfl rfl ?c1 ?c2 ?c3 ?c4 ?c5 ?_)
   case c1=>intro j u hj;cases j<;>simp at hj;subst hj;exact World.cell?_alloc_at _ _ _ _ rfl
   case c2=>intro u hu;simp at hu;subst hu;rfl
   case c3=>have:=HL2.out.2;have:=L.out;unfold maxLen;omega
   case c4=>have:=HL2.out.2;have:=L.out;omega
   case c5=>have:=HB.out.size;simp only[World.size_alloc];omega
   intro v' w9 hown' hgrow _
   have HB9:=Lib.hid ((HB.out.alloc HB.out.size _).grown hgrow (by have:=HB.out.size;simp only[World.size_alloc];omega) (fun j e=>(HOW.out.lt j e).1))
   rw[HL2.out.1.1,HL2.out.1.2] at hown'
   have HO9:=Lib.hid hown'
   clear hown' hgrow hown
   go_wp2_with fail
   go_ret
   exact⟨_,rfl,HO9.out,HB9.out⟩
theorem qhe2:∀{a b:List (List UInt8)},a≠[]→b≠[]→q8nq (a++b)=q8nq a++47::q8nq b
 | [],_,h,_=>absurd rfl h
 | [l],b,_,hb=>by rw[List.singleton_append,qcnz l hb];rfl
 | l::m::a,b,_,hb=>by
  rw[List.cons_append,qcnz l (by simp),qhe2 (by simp) hb,qcnz l (by simp)]
  simp
theorem qsx0(a:List (List UInt8))(k:Nat):(q8nq (a.take k)).length≤(q8nq a).length:=by
 by_cases h1:a.take k=[]
 ·rw[h1];exact Nat.zero_le _
 by_cases h2:a.drop k=[]
 ·rw[List.take_of_length_le (List.drop_eq_nil_iff.1 h2)];exact Nat.le_refl _
 conv=>rhs;rw[←List.take_append_drop k a]
 rw[qhe2 h1 h2,List.length_append]
 omega
theorem qrpr{W:World}{A:Option Addr}{ls:List (List UInt8)}(h:CL W A (strs ls)):SR W A ls:=fun hne=>by
 obtain⟨g,i,e,hg,hc⟩:=h (by simpa [strs] using hne)
 exact⟨g,i,e,hg,fun j hj=>hc j _ (by simp[strs,List.getD,List.getElem?_eq_getElem hj])⟩
theorem qylw(A:Option Addr)(n c:Nat)(ls:List (List UInt8))(w:World)(h:SR w A ls)(hn:ls.length=n)(hN:n≤200000)(hl:(q8nq ls).length≤200000) :
 Calls Tryz.prog 74 #[.slice A n c] w fun e w'=>e = .returned (.string (bs (q8nq ls)))∧w=w':=by
 have HS:=Lib.hid h
 have HN:=Lib.hid hn
 have HT:=Lib.hid (fun k=>Nat.le_trans (qsx0 ls k) hl)
 have q0:(n:Int)≤200000:=by omega
 clear h hn hN hl
 go_enter Tryz.func74,Tryz.ntmps74
 go_wp2_with fail
 go_loopg [3,4] n (fun gk s3 s4 wx=>∃k:Nat,k≤n∧gk=n - k∧s4 = .int .i64 (k:Int)∧s3 = .string (bs (q8nq (ls.take k)))∧wx=w)
 case atStart=>exact⟨0,Nat.zero_le _,rfl,rfl,rfl,rfl⟩
 case round=>
  obtain⟨k,hk,rfl,rfl,rfl,rfl⟩:=hrel
  by_cases hlt:k < n
  ·have hkl:k < ls.length:=by rw[HN.out];exact hlt
   obtain⟨g,i,rfl,hg,hcell⟩:=HS.out (fun e=>by rw[e] at hkl;simp at hkl)
   have hc:=hcell k hkl
   have L:=Lib.hid hlt
   have g1:(k:Int) < (n:Int):=by omega
   have hts:ls.take (k+1)=ls.take k++[ls.getD k []]:=by
    rw[List.take_succ_eq_append_getElem hkl,List.getD_eq_getElem?_getD,List.getElem?_eq_getElem hkl];rfl
   have hT:=HT.out (k+1)
   rw[hts] at hT
   by_cases h0:k=0
   ·subst h0
    rw[Nat.add_zero] at hc
    have e1:bs (q8nq (ls.take 0))++bs (ls.getD 0 [])=bs (q8nq (ls.take (0+1))):=by
     rw[hts,qyv7];rfl
    have t1:¬9223372036854775807 < (bs (q8nq (ls.take 0))).size+(bs (ls.getD 0 [])).size:=by
     rw[q5zk,q5zk]
     have h2:q8nq (ls.take 0++[ls.getD 0 []])=ls.getD 0 []:=rfl
     rw[h2] at hT
     have h3:(q8nq (ls.take 0)).length=0:=rfl
     omega
    generalize bs (q8nq (ls.take 0))=X at *
    generalize bs (ls.getD 0 [])=Y at *
    have HE:=Lib.hid e1
    clear e1 hts hT hkl hcell hlt hk
    go_wp2_with fail
    go_roundg (n - (0+1))
    case measure=>have:=L.out;omega
    case rel=>exact⟨0+1,L.out,rfl,by go_num,congrArg Value.string HE.out,rfl⟩
   ·have hne:ls.take k≠[]:=fun e=>by
     have:=congrArg List.length e
     rw[List.length_take,List.length_nil] at this
     omega
    have hj:q8nq (ls.take (k+1))=q8nq (ls.take k)++[47]++ls.getD k []:=by
     rw[hts,qhe2 hne (by simp)]
     show _++47::ls.getD k []=_
     simp
    have e0:bs (q8nq (ls.take k))++⟨#[47]⟩=bs (q8nq (ls.take k)++[47]):=qyv7 _ [47]
    have e1:bs (q8nq (ls.take k)++[47])++bs (ls.getD k [])=bs (q8nq (ls.take (k+1))):=by rw[hj];exact qyv7 _ _
    have hT2:=HT.out (k+1)
    rw[hj,List.length_append,List.length_append] at hT2
    have t0:¬9223372036854775807 < (bs (q8nq (ls.take k))).size+1:=by rw[q5zk];omega
    have t1:¬9223372036854775807 < (bs (q8nq (ls.take k)++[47])).size+(bs (ls.getD k [])).size:=by
     rw[q5zk,q5zk,List.length_append];omega
    generalize bs (q8nq (ls.take k)++[47])=V at *
    generalize bs (q8nq (ls.take k))=X at *
    generalize bs (ls.getD k [])=Y at *
    have g2:0 < k:=by omega
    have HE:=Lib.hid e1
    clear e1 hts hT hT2 hj hne hkl hcell hlt hk h0
    go_wp2_with fail
    go_roundg (n - (k+1))
    case measure=>have:=L.out;omega
    case rel=>exact⟨k+1,L.out,rfl,by go_num,congrArg Value.string HE.out,rfl⟩
  ·obtain rfl:k=n:=by omega
   have e:ls.take k=ls:=List.take_of_length_le (by rw[HN.out];exact Nat.le_refl _)
   rw[e]
   clear hlt hk e
   go_wp2_with fail
   go_ret
   exact⟨rfl,rfl⟩
theorem quzf(l:List UInt8)(ls:List (List UInt8)):decide (okl (l::ls))=(!(decide ((43:UInt8)∈l)&&!decide (l=[43]) || decide ((35:UInt8)∈l)&&(!decide (l=[35]) || !decide (ls=[])))&&decide (okl ls)):=by
 have h:okl (l::ls)↔((43:UInt8)∈l→l=[43])∧((35:UInt8)∈l→l=[35]∧ls=[])∧okl ls:=Iff.rfl
 rw[Bool.eq_iff_iff,decide_eq_true_eq,h]
 simp only[Bool.and_eq_true,Bool.not_eq_true',Bool.or_eq_false_iff,Bool.and_eq_false_iff,decide_eq_false_iff_not,Bool.not_eq_false',decide_eq_true_eq]
 by_cases a:(43:UInt8)∈l<;>by_cases b:l=[43]<;>by_cases c:(35:UInt8)∈l<;>by_cases d:l=[35]<;>by_cases e:ls=[]<;>simp[a,b,c,d,e]
theorem qz57(l:List UInt8)(c:List UInt8):((bs l).toList==c)=decide (l=c):=by
 rw[q0c6,Bool.eq_iff_iff];simp
theorem q16s(s:ByteArray)(w:World)(hs:s.size≤200000)(hne:s.data.toList≠[])(hv:qecx s.data.toList=true) :
 Calls Tryz.prog 24 #[.string s] w fun e w'=>e = .returned (.bool (decide (okl (lvls s.data.toList))))∧Below w.heap.size w w':=by
 have VA:=qcip s w
 rw[hv] at VA
 have LV:=Lib.hid (quc1 s w hs)
 have h10:(s.toList==[])=false:=by rw[qrze];cases h:s.data.toList with | nil=>exact absurd h hne | cons a b=>rfl
 have h11:s.toList.isEmpty=false:=by rw[qrze];cases h:s.data.toList with | nil=>exact absurd h hne | cons a b=>rfl
 have hlen:∀l∈lvls s.data.toList,l.length≤200000:=fun l hl=>by
  have hj:=qz8l s.data.toList
  obtain⟨k,hk⟩:=List.mem_iff_getElem?.1 hl
  have h1:=qsx0 ((lvls s.data.toList).drop k) 1
  have h2:(q8nq ((lvls s.data.toList).drop k)).length≤s.data.toList.length:=by
   by_cases h0:k=0
   ·subst h0;rw[List.drop_zero,hj];exact Nat.le_refl _
   ·have ha:(lvls s.data.toList).take k≠[]:=by
     intro e
     have:=congrArg List.length e
     have hk2:=(List.getElem?_eq_some_iff.1 hk).1
     rw[List.length_take,List.length_nil] at this;omega
    have hb:(lvls s.data.toList).drop k≠[]:=by
     intro e
     have:=(List.getElem?_eq_some_iff.1 hk).1
     have:=List.drop_eq_nil_iff.1 e;omega
    have h3:=qhe2 ha hb
    rw[List.take_append_drop,hj] at h3
    have:=congrArg List.length h3
    rw[List.length_append,List.length_cons] at this;omega
  have hkl:=(List.getElem?_eq_some_iff.1 hk).1
  rw[List.drop_eq_getElem_cons hkl,(List.getElem?_eq_some_iff.1 hk).2] at h1
  have h4:q8nq ((l::(lvls s.data.toList).drop (k+1)).take 1)=l:=rfl
  rw[h4,←(List.getElem?_eq_some_iff.1 hk).2,←List.drop_eq_getElem_cons hkl] at h1
  rw[(List.getElem?_eq_some_iff.1 hk).2] at h1
  rw[←q4ad] at h2;omega
 have hcount:(lvls s.data.toList).length≤200001:=by
  rw[qspi]
  have:=List.count_le_length (a:=(47:UInt8)) (l:=s.data.toList)
  rw[←q4ad] at this;omega
 obtain⟨ls,hls⟩:∃ls,lvls s.data.toList=ls:=⟨_,rfl⟩
 rw[hls] at LV hlen hcount ⊢
 obtain⟨n,hn⟩:∃n,ls.length=n:=⟨_,rfl⟩
 rw[hn] at LV hcount
 obtain⟨B,hB⟩:∃B,decide (okl ls)=B:=⟨_,rfl⟩
 rw[hB]
 have HB:=Lib.hid hB
 have HN:=Lib.hid hn
 have HNE:=Lib.hid (show ls≠[] by rw[←hls];exact q6q5 _)
 have HL:=Lib.hid hlen
 have q0:(n:Int)≤200001:=by omega
 replace VA:=Lib.hid VA
 clear hv hne hlen hcount hls hn hB hs
 go_enter Tryz.func24,Tryz.ntmps24
 go_wp2_with (go_at_call 71;with_reducible refine(VA.out).mono ?_;rintro e w1 ⟨rfl,rfl⟩)
 refine(LV.out).mono ?_
 rintro e W1 ⟨v,rfl,hown,hb⟩
 obtain⟨A,c,rfl,hc,hC,-⟩:=CL.owned hown hown.1
 have hsr:=qrpr hC
 have LO:=Lib.hid hb
 obtain⟨g,i,rfl,hg,hcell⟩:=hsr (HNE.out)
 have HC:=Lib.hid hcell
 clear hown hb hC hsr hcell hg hc
 go_wp2_with fail
 go_loopg [4] n (fun gk s4 wx=>∃k:Nat,k≤n∧gk=n - k∧s4 = .int .i64 (k:Int)∧decide (okl (ls.drop k))=B∧wx=W1)
 case atStart=>exact⟨0,Nat.zero_le _,rfl,rfl,HB.out,rfl⟩
 case round=>
  obtain⟨k,hk,rfl,rfl,hE,rfl⟩:=hrel
  by_cases hlt:k < n
  ·have hkl:k < ls.length:=by rw[HN.out];exact hlt
   have hcl:=HC.out k hkl
   have hdr:ls.drop k=ls.getD k []::ls.drop (k+1):=by
    rw[List.drop_eq_getElem_cons hkl,List.getD_eq_getElem?_getD,List.getElem?_eq_getElem hkl];rfl
   have hll:(ls.getD k []).length≤200000:=HL.out _ (by rw[List.getD_eq_getElem?_getD,List.getElem?_eq_getElem hkl];exact List.getElem_mem hkl)
   have hlast:decide (ls.drop (k+1)=[])=!decide ((k:Int)+1 < (n:Int)):=by
    rw[Bool.eq_iff_iff];simp[HN.out];omega
   rw[hdr,quzf,hlast] at hE
   have H43:=fun W=>qwdg (bs (ls.getD k [])) 43 W (by rw[q5zk];omega)
   have H35:=fun W=>qwdg (bs (ls.getD k [])) 35 W (by rw[q5zk];omega)
   rw[qkd1] at H43 H35
   have e43:=qz57 (ls.getD k []) [43]
   have e35:=qz57 (ls.getD k []) [35]
   have x43:decide (ls.getD k []=[43])=true→decide ((35:UInt8)∈ls.getD k [])=false:=fun h=>by rw[of_decide_eq_true h];decide
   have L:=Lib.hid hlt
   have g1:(k:Int) < (n:Int):=by omega
   generalize decide ((43:UInt8)∈ls.getD k [])=b43 at *
   generalize decide ((35:UInt8)∈ls.getD k [])=b35 at *
   generalize decide (ls.getD k []=[43])=q43 at *
   generalize decide (ls.getD k []=[35])=q35 at *
   generalize bs (ls.getD k [])=t at *
   generalize hok:decide (okl (ls.drop (k+1)))=N at *
   have HOK:=Lib.hid hok
   replace H43:=Lib.hid (show ∀W,Calls Tryz.prog 73 #[.string t,.int .u8 43] W fun e w'=>e = .returned (.bool b43)∧W=w' from H43)
   replace H35:=Lib.hid (show ∀W,Calls Tryz.prog 73 #[.string t,.int .u8 35] W fun e w'=>e = .returned (.bool b35)∧W=w' from H35)
   have HEE:=Lib.hid hE
   clear hdr hll hlast hkl hlt hk hok hE
   have bad:(n:Int)=n:=rfl
   cases b43 with
   | true=>
    cases q43 with
    | false=>
     have e:false=B:=by rw[←HEE.out];simp
     subst e
     clear e35 x43
     go_wp2_with (go_at_call 73;with_reducible refine(H43.out _).mono ?_;rintro e w9 ⟨rfl,rfl⟩)
     go_ret
     exact⟨rfl,LO.out⟩
    | true=>
     obtain rfl:=x43 rfl
     have e:N=B:=by rw[←HEE.out];simp
     subst e
     clear e35 x43
     go_wp2_with (first
      | (go_at_call 73;with_reducible refine(H43.out _).mono ?_;rintro e w9 ⟨rfl,rfl⟩)
      | (go_at_call 73;with_reducible refine(H35.out _).mono ?_;rintro e w9 ⟨rfl,rfl⟩))
     go_roundg (n - (k+1))
     case measure=>have:=L.out;omega
     case rel=>exact⟨k+1,L.out,rfl,by go_num,HOK.out,rfl⟩
   | false=>
    cases b35 with
    | false=>
     have e:N=B:=by rw[←HEE.out];simp
     subst e
     clear e35 x43 e43
     go_wp2_with (first
      | (go_at_call 73;with_reducible refine(H43.out _).mono ?_;rintro e w9 ⟨rfl,rfl⟩)
      | (go_at_call 73;with_reducible refine(H35.out _).mono ?_;rintro e w9 ⟨rfl,rfl⟩))
     go_roundg (n - (k+1))
     case measure=>have:=L.out;omega
     case rel=>exact⟨k+1,L.out,rfl,by go_num,HOK.out,rfl⟩
    | true=>
     cases q35 with
     | false=>
      have e:false=B:=by rw[←HEE.out];simp
      subst e
      clear e43 x43
      go_wp2_with (first
       | (go_at_call 73;with_reducible refine(H43.out _).mono ?_;rintro e w9 ⟨rfl,rfl⟩)
       | (go_at_call 73;with_reducible refine(H35.out _).mono ?_;rintro e w9 ⟨rfl,rfl⟩))
      go_ret
      exact⟨rfl,LO.out⟩
     | true=>
      cases hd:decide ((k:Int)+1 < (n:Int)) with
      | true=>
       have e:false=B:=by rw[←HEE.out,hd];simp
       subst e
       have g2:(k:Int)+1 < (n:Int):=of_decide_eq_true hd
       clear e43 x43 HEE
       go_wp2_with (first
        | (go_at_call 73;with_reducible refine(H43.out _).mono ?_;rintro e w9 ⟨rfl,rfl⟩)
        | (go_at_call 73;with_reducible refine(H35.out _).mono ?_;rintro e w9 ⟨rfl,rfl⟩))
       go_ret
       exact⟨rfl,LO.out⟩
      | false=>
       have e:N=B:=by rw[←HEE.out,hd];simp
       subst e
       have g2:¬(k:Int)+1 < (n:Int):=of_decide_eq_false hd
       clear e43 x43 HEE
       go_wp2_with (first
        | (go_at_call 73;with_reducible refine(H43.out _).mono ?_;rintro e w9 ⟨rfl,rfl⟩)
        | (go_at_call 73;with_reducible refine(H35.out _).mono ?_;rintro e w9 ⟨rfl,rfl⟩))
       go_roundg (n - (k+1))
       case measure=>have:=L.out;omega
       case rel=>exact⟨k+1,L.out,rfl,by go_num,HOK.out,rfl⟩
  ·obtain rfl:k=n:=by omega
   rw[List.drop_eq_nil_of_le (by rw[HN.out];exact Nat.le_refl _)] at hE
   have hE:true=B:=by rw[←hE];rfl
   subst hE
   clear hlt hk
   go_wp2_with fail
   go_ret
   exact⟨rfl,LO.out⟩
theorem q2e6(s:ByteArray)(w:World)(hs:s.size≤200000) :
 Calls Tryz.prog 24 #[.string s] w fun e w'=>e = .returned (.bool (qw8n s.data.toList))∧Below w.heap.size w w':=by
 have VA:=Lib.hid (qcip s w)
 unfold qw8n
 by_cases h0:s.data.toList=[]
 ·have h10:(s.toList==[])=true:=by rw[qrze,h0];rfl
  have h11:s.toList.isEmpty=true:=by rw[qrze,h0];rfl
  rw[decide_eq_false (show ¬s.data.toList≠[] from fun h=>h h0),Bool.false_and,Bool.false_and]
  clear h0 hs
  go_enter Tryz.func24,Tryz.ntmps24
  go_wp2_with fail
  go_ret
  exact⟨rfl,Below.refl _ _⟩
 ·cases hv:qecx s.data.toList with
  | false=>
   have h10:(s.toList==[])=false:=by rw[qrze];cases h:s.data.toList with | nil=>exact absurd h h0 | cons a b=>rfl
   have h11:s.toList.isEmpty=false:=by rw[qrze];cases h:s.data.toList with | nil=>exact absurd h h0 | cons a b=>rfl
   rw[hv] at VA
   rw[Bool.and_false,Bool.false_and]
   clear h0 hs hv
   go_enter Tryz.func24,Tryz.ntmps24
   go_wp2_with (go_at_call 71;with_reducible refine(VA.out).mono ?_;rintro e w1 ⟨rfl,rfl⟩)
   go_ret
   exact⟨rfl,Below.refl _ _⟩
  | true=>
   rw[decide_eq_true (show s.data.toList≠[] from h0),Bool.true_and,Bool.true_and]
   exact q16s s w hs h0 hv
end Go.Proofs.YtbecggefmbpnoaaGreatDoor
