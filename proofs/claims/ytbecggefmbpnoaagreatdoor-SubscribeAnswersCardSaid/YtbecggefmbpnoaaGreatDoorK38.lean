/- The contract of prop.Read, as a law's walk wants it. Condition: the bytes are no more than an int says. -/
import Derived.OwnWalk
import Derived.WalkSmall
import Derived.Deep.LoopGhost
import Derived.Lib.IndexBytes
import Derived.Deep.QuietTactic
import Derived.Test.YtbecggefmbpnoaaGreatDoorK37
import Derived.Test.YtbecggefmbpnoaaGreatDoorK09
import Derived.Test.YtbecggefmbpnoaaGreatDoorK03
import Derived.Test.YtbecggefmbpnoaaGreatDoorK05
import Derived.Test.YtbecggefmbpnoaaGreatDoorK35
import Derived.Test.YtbecggefmbpnoaaGreatDoorK36
import Derived.Test.YtbecggefmbpnoaaGreatDoorK23
import Derived.Test.YtbecggefmbpnoaaGreatDoorK13
import Derived.Test.YtbecggefmbpnoaaGreatDoorK18
import Derived.Test.YtbecggefmbpnoaaGreatDoorK28
import Derived.Test.YtbecggefmbpnoaaGreatDoorK08
import Derived.Test.YtbecggefmbpnoaaGreatDoorK22
set_option maxRecDepth 100000
set_option maxHeartbeats 4000000
namespace Go.Proofs.YtbecggefmbpnoaaGreatDoor
open Go.RowKit
end Go.Proofs.YtbecggefmbpnoaaGreatDoor
namespace Go.Proofs.YtbecggefmbpnoaaGreatDoor
end Go.Proofs.YtbecggefmbpnoaaGreatDoor
namespace Go.Proofs.YtbecggefmbpnoaaGreatDoor
open Go.RowKit Go.Shelf
def SbAt(b:Nat)(l:List UInt8)(W:World):Prop:=Lib.IsBuilder 60 5 b b (Lib.byteCells l) W
theorem SbAt.lt{b:Nat}{l:List UInt8}{W:World}(h:SbAt b l W):b < W.heap.size:=by
 rcases h with h | h<;>exact h.lt
theorem SbAt.made(w:World):SbAt w.heap.size [] (w.alloc (.cells #[.pointer none,.slice none 0 0] 60)):=
 .inl ⟨Nat.le_refl _,_,heap_alloc_new _ _,⟨rfl,.inl ⟨rfl,rfl⟩⟩,by simp[Value.ownBlock]⟩
theorem SbAt.call{b:Nat}{l:List UInt8}{W W':World}(h:SbAt b l W)(hb:Below W.heap.size W W'):SbAt b l W':=by
 have each:∀p,Lib.BuilderAt 60 5 b b p (Lib.byteCells l) W→Lib.BuilderAt 60 5 b b p (Lib.byteCells l) W':=fun p h=>by
  have hlt:=h.lt
  obtain⟨h1,v,h2,h3,h4⟩:=h
  exact⟨h1,v,(hb.block b hlt).trans h2,qzd3 h3 hb,h4⟩
 rcases h with h | h
 ·exact .inl (each _ h)
 ·exact .inr (each _ h)
theorem qb36:Go.Proofs.Lays.n166 Tryz.prog qdrb:={qsyr with}
theorem qqfh:Go.Proofs.Lays.n169 Tryz.prog qdrb:={qsyr with}
theorem q6cc(b:Nat)(l m:List UInt8)(W:World)(h:SbAt b l W)(hl:l.length+m.length≤140737488355328) :
 Calls Tryz.prog 30 #[.pointer (some ⟨b,0,none⟩),.string (bs m)] W fun e W'=>e = .returned (.tuple #[.int .i64 (m.length:Nat),.nilIface])∧SbAt b (l++m) W'∧Below b W W':=by
 have c:=Any.Builder_WriteString qb36 q4jg b b (Lib.byteCells l) (bs m) W h (by rw[Lib.byteCells_length,q5zk];exact hl) (Nat.le_of_lt h.lt)
 refine c.mono fun e W' ⟨h1,h2,h3⟩=>⟨?_,.inr ?_,h3⟩
 ·rw[h1,q5zk]
 ·rw[Lib.byteCells_append];exact h2
theorem q0vh(b:Nat)(l:List UInt8)(W:World)(h:SbAt b l W) :
 Calls Tryz.prog 34 #[.pointer (some ⟨b,0,none⟩)] W fun e W'=>e = .returned (.string (bs l))∧Below b W W':=
 Any.Builder_String_any qqfh q4jg b b l W h (Nat.le_of_lt h.lt)
end Go.Proofs.YtbecggefmbpnoaaGreatDoor
namespace Go.Proofs.YtbecggefmbpnoaaGreatDoor
open Go.RowKit
theorem qhoa(v:Int)(p:Pk)(a:Ad)(w:World)(hp:PL w a.ps p.props)(ok:PkOk p)(hc:p.props.length≤a.pc) :
 Calls Tryz.prog 32 #[.int .i64 v,.agg (pkC p a)] w fun e w'=>e = .returned (.string (bs (qasq v p.kind p.props)))∧Below w.heap.size w w':=by
 have S0:=Lib.hid (BxS.made w p a)
 unfold qasq
 by_cases h5:v=5
 ·subst h5
  rw[if_pos rfl]
  have BY:=fun W (h:BxS w p a W)=>qs01 p.kind a.ps p.props.length a.pc p.props W ok.kind.1 ok.kind.2 (hp.below h.low) rfl hc (fun x hx=>(ok.pps x hx).1)
  have k0:(w.alloc (.cells (pkC p a) 29)).cell? ⟨w.heap.size,0,none⟩=some (.int .i64 p.kind):=S0.out.cell 0
  have k24:(w.alloc (.cells (pkC p a) 29)).cell? ⟨w.heap.size,24,none⟩=some (.slice a.ps p.props.length a.pc):=S0.out.cell 24
  generalize (q5aq p.kind p.props).1=T at *
  generalize (q5aq p.kind p.props).2=q at *
  replace BY:=Lib.hid BY
  clear hp ok hc
  go_enter Tryz.func32,Tryz.ntmps32
  go_wp2_with fail
  refine(BY.out _ S0.out).mono ?_
  rintro e W ⟨rfl,hb⟩
  have LO:=Lib.hid (S0.out.call hb).low
  clear hb
  go_wp2_with fail
  go_ret
  exact⟨rfl,LO.out⟩
 ·rw[if_neg h5]
  have h':(v==5)=false:=beq_eq_false_iff_ne.2 h5
  have h'':(v != 5)=true:=by simpa using h5
  have LO:=Lib.hid S0.out.low
  clear h5 hp ok hc
  go_enter Tryz.func32,Tryz.ntmps32
  go_wp2_with fail
  go_ret
  exact⟨rfl,LO.out⟩
theorem q9ic(t:List UInt8):(enc2 t).length=2+t.length:=by rw[qnp6];try omega
theorem qpa5(kind:Int)(f:Fi)(w:World)(hk:kind=8∨kind=10)(hv:qecx f.topic=true) :
 Calls Tryz.prog 33 #[.int .i64 kind,.agg (fiC f)] w fun e w'=>e = .returned (.string (bs (qjk5 kind f)))∧Below w.heap.size w w':=by
 have S0:=Lib.hid (BxF.made w f)
 have F1:=Lib.hid (qxzo f)
 have k0:(w.alloc (.cells (fiC f) 32)).cell? ⟨w.heap.size,0,none⟩=some (.string (bs f.topic)):=S0.out.cell 0
 have hlt:f.topic.length≤65535:=((qbv6 _).1 hv).1
 have TX:=fun W=>q9xc (bs f.topic) W (by rw[qkd1];exact hv)
 rw[qkd1] at TX
 rcases hk with rfl | rfl
 ·have OP:=Lib.hid (fun W (h:BxF w f W)=>(q3gr f W).mono fun e W' hh=>(⟨hh.1,h.call hh.2⟩:_∧BxF w f W'))
  have hm:qang f < 256:=by
   unfold qang bitC
   have h1:(f.qos%4).toNat < 4:=by omega
   have h2:(f.handling%4).toNat < 4:=by omega
   split<;>split<;>omega
  have PU:=fun W=>qe3g (qang f) 1 W (by omega)
  have ho:be (qang f) ((min (1:Int) 16).toNat)=[UInt8.ofNat (qang f)]:=by show be (qang f) 1=_;exact qwu8 _
  rw[ho] at PU
  unfold qjk5
  rw[if_pos rfl]
  have e1:bs (enc2 f.topic)++bs [UInt8.ofNat (qang f)]=bs (enc2 f.topic++[UInt8.ofNat (qang f)]):=qyv7 _ _
  have s1:¬9223372036854775807 < (bs (enc2 f.topic)).size+(bs [UInt8.ofNat (qang f)]).size:=by rw[q5zk,q5zk,q9ic];simp;omega
  generalize bs (enc2 f.topic++[UInt8.ofNat (qang f)])=Z at *
  generalize bs [UInt8.ofNat (qang f)]=Y at *
  generalize qang f=m at *
  generalize bs (enc2 f.topic)=X at *
  generalize bs f.topic=T at *
  replace TX:=Lib.hid TX
  replace PU:=Lib.hid PU
  have HM:=Lib.hid (show(m:Int) < 256 by omega)
  have E1:=Lib.hid (And.intro e1 s1)
  clear hv hlt hm ho e1 s1
  go_enter Tryz.func33,Tryz.ntmps33
  go_wp2_with fail
  refine(TX.out _).mono ?_
  rintro e W ⟨rfl,hb⟩
  have S1:=Lib.hid (S0.out.call hb)
  clear hb k0
  go_wp2_with (refine wpList_load_row rfl _ _ rfl w.heap.size rfl 32 _ (0,0) _ S1.out.box Tryz.underlying32 rfl (by rw[F1.out];exact qhg6) ?_)
  refine(OP.out _ S1.out).mono ?_
  rintro e W2 ⟨rfl,hb⟩
  have L2:=Lib.hid hb.low
  have hm:=HM.out
  clear hb
  go_wp2_with fail
  refine(PU.out _).mono ?_
  rintro e W3 ⟨rfl,hb⟩
  have L3:=Lib.hid (qxh2 L2.out hb)
  obtain⟨e1,s1⟩:=E1.out
  clear hb hm
  go_wp2_with fail
  go_ret
  exact⟨rfl,L3.out⟩
 ·unfold qjk5
  rw[if_neg (by decide),List.append_nil]
  generalize bs (enc2 f.topic)=X at *
  generalize bs f.topic=T at *
  replace TX:=Lib.hid TX
  clear hv hlt
  go_enter Tryz.func33,Tryz.ntmps33
  go_wp2_with fail
  refine(TX.out _).mono ?_
  rintro e W ⟨rfl,hb⟩
  have L2:=Lib.hid (S0.out.call hb).low
  clear hb k0
  go_wp2_with fail
  go_ret
  exact⟨rfl,L2.out⟩
theorem qdkx:(Tryz.prog.info? 9).map (fun i=>(i.zero,i.size,i.bytes))=some (some (.string .empty),1,16):=by kernel_rfl
theorem qd1o(a:List (List UInt8))(l:List UInt8):strs a++[.string (bs l)]=strs (a++[l]):=by simp[strs]
theorem ql17{S:List UInt8}{d:Nat}(hd:S[d]? = some 47)(hf:(47:UInt8)∉S.take d):lvls S=S.take d::lvls (S.drop (d+1)):=by
 obtain⟨h1,h2⟩:=List.getElem?_eq_some_iff.1 hd
 conv=>lhs;rw[←List.take_append_drop d S,List.drop_eq_getElem_cons h1,h2]
 exact quk3 hf _
theorem quc1(s:ByteArray)(w:World)(hs:s.size≤200000) :
 Calls Tryz.prog 72 #[.string s] w fun e w'=>∃v,e = .returned v∧w'.ownsRow w.heap.size 9 1 v (lvls s.data.toList).length (strs (lvls s.data.toList))∧Below w.heap.size w w':=by
 obtain⟨i0,hi,hz0,hz1,hz2⟩:=info_parts qdkx
 obtain⟨S,hS⟩:∃S,s.data.toList=S:=⟨_,rfl⟩
 have hsz:S.length=s.size:=by rw[←hS,q4ad]
 have hget:∀(k:Nat) (hk:k < s.size),S[k]? = some s[k]:=fun k hk=>by
  rw[←hS,List.getElem?_eq_getElem (by rw[←q4ad];exact hk)];rfl
 have hext:∀i n,s.extract i (i+n)=bs ((S.drop i).take n):=fun i n=>by rw[←hS];exact q31q s i n
 rw[hS]
 have HX:=Lib.hid (And.intro hsz (And.intro hget hext))
 have q0:(s.size:Int)≤200000:=by omega
 clear hS hsz hget hext hs
 go_enter Tryz.func72,Tryz.ntmps72
 go_wp2_with fail
 go_loopg [3,4,5] s.size (fun gk s3 s4 s5 wx=>∃(f d:Nat) (o:List (List UInt8)),f+d≤s.size∧gk=s.size - (f+d)∧s4 = .int .i64 (f:Int)∧s5 = .int .i64 ((f+d:Nat):Int)∧lvls S=o++lvls (S.drop f)∧(47:UInt8)∉(S.drop f).take d∧o.length≤f∧wx.ownsRow w.heap.size 9 1 s3 o.length (strs o)∧Below w.heap.size w wx)
 case atStart=>exact⟨0,0,[],Nat.zero_le _,rfl,rfl,rfl,rfl,by simp,Nat.le_refl _,World.ownsRow_nil _ _ _ _,Below.refl _ _⟩
 case round=>
  obtain⟨f,d,o,hk,rfl,rfl,rfl,hL,hF,hO,hown,hb⟩:=hrel
  have HB:=Lib.hid hb
  have HOW:=Lib.hid hown
  obtain⟨k,hkk⟩:∃k,f+d=k:=⟨_,rfl⟩
  have hfk:(f:Int)≤(k:Int):=by omega
  by_cases hlt:k < s.size
  ·have hget:=HX.out.2.1 k hlt
   have hdd:(S.drop f)[d]? = some s[k]:=by rw[List.getElem?_drop,hkk];exact hget
   have hne:¬s=ByteArray.empty:=by intro e;rw[e] at hlt;exact absurd hlt (by simp)
   have L:=Lib.hid (And.intro hlt hkk)
   have g1:(k:Int) < (s.size:Int):=by omega
   rw[hkk]
   by_cases h47:s[k]=47
   ·have e47:((s[k].toNat:Int)==47)=true:=by rw[h47];rfl
    obtain⟨r,hr⟩:∃r,s[k].toNat=r:=⟨_,rfl⟩
    rw[hr] at e47
    have hsl:s.extract f k=bs ((S.drop f).take d):=by rw[←hkk];exact HX.out.2.2 f d
    have hcut:=ql17 (by rw[hdd,h47]) hF
    rw[List.drop_drop,show f+(d+1)=k+1 by omega] at hcut
    have hL2:lvls S=(o++[(S.drop f).take d])++lvls (S.drop (k+1)):=by rw[hL,hcut];simp
    have HL2:=Lib.hid (And.intro hL2 hO)
    have hsn:=qd1o o ((S.drop f).take d)
    generalize (S.drop f).take d=l at *
    have HSN:=Lib.hid hsn
    clear hget hdd h47 hcut hL2 hL hF hO hb hk hsn
    go_wp2_with (at_builtin;refine wpList_append_own _ rfl _ _ 52 rfl w.heap.size 9 i0 (.string .empty) 1 16 Tryz.underlying52 hi hz0 hz1 hz2 rfl (by decide) _ _ _ rfl (hown.alloc _) ⟨wr.heap.size,0,none⟩ 1 1 [.string (bs l)] rfl rfl ?c1 ?c2 ?c3 ?c4 ?c5 ?_)
    case c1=>intro j u hj;cases j<;>simp at hj;subst hj;exact World.cell?_alloc_at _ _ _ _ rfl
    case c2=>intro u hu;simp at hu;subst hu;rfl
    case c3=>have:=HL2.out.2;have:=L.out;unfold maxLen;omega
    case c4=>have:=HL2.out.2;have:=L.out;omega
    case c5=>have:=HB.out.size;simp only[World.size_alloc];omega
    intro v' w9 hown' hgrow _
    have HB9:=Lib.hid ((HB.out.alloc HB.out.size _).grown hgrow (by have:=HB.out.size;simp only[World.size_alloc];omega) (fun j e=>(HOW.out.lt j e).1))
    rw[HSN.out] at hown'
    have HO9:=Lib.hid hown'
    clear hown' hgrow hown
    go_wp2_with fail
    go_roundg (s.size - (k+1))
    case measure=>have:=L.out;omega
    case rel=>exact⟨k+1,0,o++[l],by have:=L.out;omega,rfl,by go_num,by go_num,HL2.out.1,by simp,by have:=HL2.out.2;have:=L.out;simp;omega,by rw[List.length_append];exact HO9.out,HB9.out⟩
   ·have e47:((s[k].toNat:Int)==47)=false:=by
     rw[beq_eq_false_iff_ne];intro e;exact h47 (UInt8.toNat_inj.1 (by have h2:(47:UInt8).toNat=47:=rfl;omega))
    obtain⟨r,hr⟩:∃r,s[k].toNat=r:=⟨_,rfl⟩
    rw[hr] at e47
    have hF2:(47:UInt8)∉(S.drop f).take (d+1):=by
     obtain⟨h1,h2⟩:=List.getElem?_eq_some_iff.1 hdd
     rw[List.take_succ_eq_append_getElem h1,h2,List.mem_append,not_or]
     exact⟨hF,fun e=>h47 (List.mem_singleton.1 e).symm⟩
    have HR:=Lib.hid (And.intro hL (And.intro hF2 hO))
    clear hget hdd h47 hF2 hL hF hO hb hk hown
    go_wp2_with fail
    go_roundg (s.size - (k+1))
    case measure=>have:=L.out;omega
    case rel=>exact⟨f,d+1,o,by have:=L.out;omega,by have:=L.out;omega,rfl,by rw[←Nat.add_assoc,L.out.2];go_num,HR.out.1,HR.out.2.1,HR.out.2.2,HOW.out,HB.out⟩
  ·obtain rfl:k=s.size:=by omega
   have hlast:(S.drop f).take d=S.drop f:=List.take_of_length_le (by rw[List.length_drop,HX.out.1];omega)
   rw[hlast] at hF
   rw[qty4 hF] at hL
   have hsl:s.extract f s.size=bs (S.drop f):=by rw[←hlast,←HX.out.2.2 f d,hkk]
   have hL2:strs o++[.string (bs (S.drop f))]=strs (lvls S)∧o.length+1=(lvls S).length:=by
    rw[hL];exact⟨qd1o _ _,by simp⟩
   have HL2:=Lib.hid (And.intro hL2 hO)
   have L:=Lib.hid hfk
   rw[hkk]
   generalize S.drop f=l at *
   clear hlast hF hL hO hb hk hlt hL2 hkk
   go_wp2_with (at_builtin;refine wpList_append_own _ rfl _ _ 52 rfl w.heap.size 9 i0 (.string .empty) 1 16 Tryz.underlying52 hi hz0 hz1 hz2 rfl (by decide) _ _ _ rfl (hown.alloc _) ⟨wr.heap.size,0,none⟩ 1 1 [.string (bs l)] rfl rfl ?c1 ?c2 ?c3 ?c4 ?c5 ?_)
   case c1=>intro j u hj;cases j<;>simp at hj;subst hj;exact World.cell?_alloc_at _ _ _ _ rfl
   case c2=>intro u hu;simp at hu;subst hu;rfl
   case c3=>have:=HL2.out.2;have:=L.out;unfold maxLen;omega
   case c4=>have:=HL2.out.2;have:=L.out;omega
   case c5=>have:=HB.out.size;simp only[World.size_alloc];omega
   intro v' w9 hown' hgrow _
   have HB9:=Lib.hid ((HB.out.alloc HB.out.size _).grown hgrow (by have:=HB.out.size;simp only[World.size_alloc];omega) (fun j e=>(HOW.out.lt j e).1))
   rw[HL2.out.1.1,HL2.out.1.2] at hown'
   have HO9:=Lib.hid hown'
   clear hown' hgrow hown
   go_wp2_with fail
   go_ret
   exact⟨_,rfl,HO9.out,HB9.out⟩
theorem qhe2:∀{a b:List (List UInt8)},a≠[]→b≠[]→q8nq (a++b)=q8nq a++47::q8nq b
 | [],_,h,_=>absurd rfl h
 | [l],b,_,hb=>by rw[List.singleton_append,qcnz l hb];rfl
 | l::m::a,b,_,hb=>by
  rw[List.cons_append,qcnz l (by simp),qhe2 (by simp) hb,qcnz l (by simp)]
  simp
theorem qsx0(a:List (List UInt8))(k:Nat):(q8nq (a.take k)).length≤(q8nq a).length:=by
 by_cases h1:a.take k=[]
 ·rw[h1];exact Nat.zero_le _
 by_cases h2:a.drop k=[]
 ·rw[List.take_of_length_le (List.drop_eq_nil_iff.1 h2)];exact Nat.le_refl _
 conv=>rhs;rw[←List.take_append_drop k a]
 rw[qhe2 h1 h2,List.length_append]
 omega
theorem qrpr{W:World}{A:Option Addr}{ls:List (List UInt8)}(h:CL W A (strs ls)):SR W A ls:=fun hne=>by
 obtain⟨g,i,e,hg,hc⟩:=h (by simpa [strs] using hne)
 exact⟨g,i,e,hg,fun j hj=>hc j _ (by simp[strs,List.getD,List.getElem?_eq_getElem hj])⟩
theorem quzf(l:List UInt8)(ls:List (List UInt8)):decide (okl (l::ls))=(!(decide ((43:UInt8)∈l)&&!decide (l=[43]) || decide ((35:UInt8)∈l)&&(!decide (l=[35]) || !decide (ls=[])))&&decide (okl ls)):=by
 have h:okl (l::ls)↔((43:UInt8)∈l→l=[43])∧((35:UInt8)∈l→l=[35]∧ls=[])∧okl ls:=Iff.rfl
 rw[Bool.eq_iff_iff,decide_eq_true_eq,h]
 simp only[Bool.and_eq_true,Bool.not_eq_true',Bool.or_eq_false_iff,Bool.and_eq_false_iff,decide_eq_false_iff_not,Bool.not_eq_false',decide_eq_true_eq]
 by_cases a:(43:UInt8)∈l<;>by_cases b:l=[43]<;>by_cases c:(35:UInt8)∈l<;>by_cases d:l=[35]<;>by_cases e:ls=[]<;>simp[a,b,c,d,e]
theorem qz57(l:List UInt8)(c:List UInt8):((bs l).toList==c)=decide (l=c):=by
 rw[q0c6,Bool.eq_iff_iff];simp
theorem q16s(s:ByteArray)(w:World)(hs:s.size≤200000)(hne:s.data.toList≠[])(hv:qecx s.data.toList=true) :
 Calls Tryz.prog 24 #[.string s] w fun e w'=>e = .returned (.bool (decide (okl (lvls s.data.toList))))∧Below w.heap.size w w':=by
 have VA:=qcip s w
 rw[hv] at VA
 have LV:=Lib.hid (quc1 s w hs)
 have h10:(s.toList==[])=false:=by rw[qrze];cases h:s.data.toList with | nil=>exact absurd h hne | cons a b=>rfl
 have h11:s.toList.isEmpty=false:=by rw[qrze];cases h:s.data.toList with | nil=>exact absurd h hne | cons a b=>rfl
 have hlen:∀l∈lvls s.data.toList,l.length≤200000:=fun l hl=>by
  have hj:=qz8l s.data.toList
  obtain⟨k,hk⟩:=List.mem_iff_getElem?.1 hl
  have h1:=qsx0 ((lvls s.data.toList).drop k) 1
  have h2:(q8nq ((lvls s.data.toList).drop k)).length≤s.data.toList.length:=by
   by_cases h0:k=0
   ·subst h0;rw[List.drop_zero,hj];exact Nat.le_refl _
   ·have ha:(lvls s.data.toList).take k≠[]:=by
     intro e
     have:=congrArg List.length e
     have hk2:=(List.getElem?_eq_some_iff.1 hk).1
     rw[List.length_take,List.length_nil] at this;omega
    have hb:(lvls s.data.toList).drop k≠[]:=by
     intro e
     have:=(List.getElem?_eq_some_iff.1 hk).1
     have:=List.drop_eq_nil_iff.1 e;omega
    have h3:=qhe2 ha hb
    rw[List.take_append_drop,hj] at h3
    have:=congrArg List.length h3
    rw[List.length_append,List.length_cons] at this;omega
  have hkl:=(List.getElem?_eq_some_iff.1 hk).1
  rw[List.drop_eq_getElem_cons hkl,(List.getElem?_eq_some_iff.1 hk).2] at h1
  have h4:q8nq ((l::(lvls s.data.toList).drop (k+1)).take 1)=l:=rfl
  rw[h4,←(List.getElem?_eq_some_iff.1 hk).2,←List.drop_eq_getElem_cons hkl] at h1
  rw[(List.getElem?_eq_some_iff.1 hk).2] at h1
  rw[←q4ad] at h2;omega
 have hcount:(lvls s.data.toList).length≤200001:=by
  rw[qspi]
  have:=List.count_le_length (a:=(47:UInt8)) (l:=s.data.toList)
  rw[←q4ad] at this;omega
 obtain⟨ls,hls⟩:∃ls,lvls s.data.toList=ls:=⟨_,rfl⟩
 rw[hls] at LV hlen hcount ⊢
 obtain⟨n,hn⟩:∃n,ls.length=n:=⟨_,rfl⟩
 rw[hn] at LV hcount
 obtain⟨B,hB⟩:∃B,decide (okl ls)=B:=⟨_,rfl⟩
 rw[hB]
 have HB:=Lib.hid hB
 have HN:=Lib.hid hn
 have HNE:=Lib.hid (show ls≠[] by rw[←hls];exact q6q5 _)
 have HL:=Lib.hid hlen
 have q0:(n:Int)≤200001:=by omega
 replace VA:=Lib.hid VA
 clear hv hne hlen hcount hls hn hB hs
 go_enter Tryz.func24,Tryz.ntmps24
 go_wp2_with (go_at_call 71;with_reducible refine(VA.out).mono ?_;rintro e w1 ⟨rfl,rfl⟩)
 refine(LV.out).mono ?_
 rintro e W1 ⟨v,rfl,hown,hb⟩
 obtain⟨A,c,rfl,hc,hC,-⟩:=CL.owned hown hown.1
 have hsr:=qrpr hC
 have LO:=Lib.hid hb
 obtain⟨g,i,rfl,hg,hcell⟩:=hsr (HNE.out)
 have HC:=Lib.hid hcell
 clear hown hb hC hsr hcell hg hc
 go_wp2_with fail
 go_loopg [4] n (fun gk s4 wx=>∃k:Nat,k≤n∧gk=n - k∧s4 = .int .i64 (k:Int)∧decide (okl (ls.drop k))=B∧wx=W1)
 case atStart=>exact⟨0,Nat.zero_le _,rfl,rfl,HB.out,rfl⟩
 case round=>
  obtain⟨k,hk,rfl,rfl,hE,rfl⟩:=hrel
  by_cases hlt:k < n
  ·have hkl:k < ls.length:=by rw[HN.out];exact hlt
   have hcl:=HC.out k hkl
   have hdr:ls.drop k=ls.getD k []::ls.drop (k+1):=by
    rw[List.drop_eq_getElem_cons hkl,List.getD_eq_getElem?_getD,List.getElem?_eq_getElem hkl];rfl
   have hll:(ls.getD k []).length≤200000:=HL.out _ (by rw[List.getD_eq_getElem?_getD,List.getElem?_eq_getElem hkl];exact List.getElem_mem hkl)
   have hlast:decide (ls.drop (k+1)=[])=!decide ((k:Int)+1 < (n:Int)):=by
    rw[Bool.eq_iff_iff];simp[HN.out];omega
   rw[hdr,quzf,hlast] at hE
   have H43:=fun W=>qwdg (bs (ls.getD k [])) 43 W (by rw[q5zk];omega)
   have H35:=fun W=>qwdg (bs (ls.getD k [])) 35 W (by rw[q5zk];omega)
   rw[qkd1] at H43 H35
   have e43:=qz57 (ls.getD k []) [43]
   have e35:=qz57 (ls.getD k []) [35]
   have x43:decide (ls.getD k []=[43])=true→decide ((35:UInt8)∈ls.getD k [])=false:=fun h=>by rw[of_decide_eq_true h];decide
   have L:=Lib.hid hlt
   have g1:(k:Int) < (n:Int):=by omega
   generalize decide ((43:UInt8)∈ls.getD k [])=b43 at *
   generalize decide ((35:UInt8)∈ls.getD k [])=b35 at *
   generalize decide (ls.getD k []=[43])=q43 at *
   generalize decide (ls.getD k []=[35])=q35 at *
   generalize bs (ls.getD k [])=t at *
   generalize hok:decide (okl (ls.drop (k+1)))=N at *
   have HOK:=Lib.hid hok
   replace H43:=Lib.hid (show ∀W,Calls Tryz.prog 73 #[.string t,.int .u8 43] W fun e w'=>e = .returned (.bool b43)∧W=w' from H43)
   replace H35:=Lib.hid (show ∀W,Calls Tryz.prog 73 #[.string t,.int .u8 35] W fun e w'=>e = .returned (.bool b35)∧W=w' from H35)
   have HEE:=Lib.hid hE
   clear hdr hll hlast hkl hlt hk hok hE
   have bad:(n:Int)=n:=rfl
   cases b43 with
   | true=>
    cases q43 with
    | false=>
     have e:false=B:=by rw[←HEE.out];simp
     subst e
     clear e35 x43
     go_wp2_with (go_at_call 73;with_reducible refine(H43.out _).mono ?_;rintro e w9 ⟨rfl,rfl⟩)
     go_ret
     exact⟨rfl,LO.out⟩
    | true=>
     obtain rfl:=x43 rfl
     have e:N=B:=by rw[←HEE.out];simp
     subst e
     clear e35 x43
     go_wp2_with (first
      | (go_at_call 73;with_reducible refine(H43.out _).mono ?_;rintro e w9 ⟨rfl,rfl⟩)
      | (go_at_call 73;with_reducible refine(H35.out _).mono ?_;rintro e w9 ⟨rfl,rfl⟩))
     go_roundg (n - (k+1))
     case measure=>have:=L.out;omega
     case rel=>exact⟨k+1,L.out,rfl,by go_num,HOK.out,rfl⟩
   | false=>
    cases b35 with
    | false=>
     have e:N=B:=by rw[←HEE.out];simp
     subst e
     clear e35 x43 e43
     go_wp2_with (first
      | (go_at_call 73;with_reducible refine(H43.out _).mono ?_;rintro e w9 ⟨rfl,rfl⟩)
      | (go_at_call 73;with_reducible refine(H35.out _).mono ?_;rintro e w9 ⟨rfl,rfl⟩))
     go_roundg (n - (k+1))
     case measure=>have:=L.out;omega
     case rel=>exact⟨k+1,L.out,rfl,by go_num,HOK.out,rfl⟩
    | true=>
     cases q35 with
     | false=>
      have e:false=B:=by rw[←HEE.out];simp
      subst e
      clear e43 x43
      go_wp2_with (first
       | (go_at_call 73;with_reducible refine(H43.out _).mono ?_;rintro e w9 ⟨rfl,rfl⟩)
       | (go_at_call 73;with_reducible refine(H35.out _).mono ?_;rintro e w9 ⟨rfl,rfl⟩))
      go_ret
      exact⟨rfl,LO.out⟩
     | true=>
      cases hd:decide ((k:Int)+1 < (n:Int)) with
      | true=>
       have e:false=B:=by rw[←HEE.out,hd];simp
       subst e
       have g2:(k:Int)+1 < (n:Int):=of_decide_eq_true hd
       clear e43 x43 HEE
       go_wp2_with (first
        | (go_at_call 73;with_reducible refine(H43.out _).mono ?_;rintro e w9 ⟨rfl,rfl⟩)
        | (go_at_call 73;with_reducible refine(H35.out _).mono ?_;rintro e w9 ⟨rfl,rfl⟩))
       go_ret
       exact⟨rfl,LO.out⟩
      | false=>
       have e:N=B:=by rw[←HEE.out,hd];simp
       subst e
       have g2:¬(k:Int)+1 < (n:Int):=of_decide_eq_false hd
       clear e43 x43 HEE
       go_wp2_with (first
        | (go_at_call 73;with_reducible refine(H43.out _).mono ?_;rintro e w9 ⟨rfl,rfl⟩)
        | (go_at_call 73;with_reducible refine(H35.out _).mono ?_;rintro e w9 ⟨rfl,rfl⟩))
       go_roundg (n - (k+1))
       case measure=>have:=L.out;omega
       case rel=>exact⟨k+1,L.out,rfl,by go_num,HOK.out,rfl⟩
  ·obtain rfl:k=n:=by omega
   rw[List.drop_eq_nil_of_le (by rw[HN.out];exact Nat.le_refl _)] at hE
   have hE:true=B:=by rw[←hE];rfl
   subst hE
   clear hlt hk
   go_wp2_with fail
   go_ret
   exact⟨rfl,LO.out⟩
theorem q2e6(s:ByteArray)(w:World)(hs:s.size≤200000) :
 Calls Tryz.prog 24 #[.string s] w fun e w'=>e = .returned (.bool (qw8n s.data.toList))∧Below w.heap.size w w':=by
 have VA:=Lib.hid (qcip s w)
 unfold qw8n
 by_cases h0:s.data.toList=[]
 ·have h10:(s.toList==[])=true:=by rw[qrze,h0];rfl
  have h11:s.toList.isEmpty=true:=by rw[qrze,h0];rfl
  rw[decide_eq_false (show ¬s.data.toList≠[] from fun h=>h h0),Bool.false_and,Bool.false_and]
  clear h0 hs
  go_enter Tryz.func24,Tryz.ntmps24
  go_wp2_with fail
  go_ret
  exact⟨rfl,Below.refl _ _⟩
 ·cases hv:qecx s.data.toList with
  | false=>
   have h10:(s.toList==[])=false:=by rw[qrze];cases h:s.data.toList with | nil=>exact absurd h h0 | cons a b=>rfl
   have h11:s.toList.isEmpty=false:=by rw[qrze];cases h:s.data.toList with | nil=>exact absurd h h0 | cons a b=>rfl
   rw[hv] at VA
   rw[Bool.and_false,Bool.false_and]
   clear h0 hs hv
   go_enter Tryz.func24,Tryz.ntmps24
   go_wp2_with (go_at_call 71;with_reducible refine(VA.out).mono ?_;rintro e w1 ⟨rfl,rfl⟩)
   go_ret
   exact⟨rfl,Below.refl _ _⟩
  | true=>
   rw[decide_eq_true (show s.data.toList≠[] from h0),Bool.true_and,Bool.true_and]
   exact q16s s w hs h0 hv
theorem q7zn:(Tryz.prog.info? 32).map (fun i=>(i.zero,i.size,i.bytes))=some (some (.agg #[.string .empty,.int .i64 0,.bool false,.bool false,.int .i64 0]),5,40):=by kernel_rfl
theorem qk6n(A:Option Addr)(n c:Nat)(l:List Fi)(w:World)(ha:CL w A (fcs l))(hn:l.length=n)(hl:n≤2000) :
 Calls Tryz.prog 29 #[.slice A n c] w fun e w'=>∃v,e = .returned v∧w'.ownsRow w.heap.size 32 5 v n (fcs l)∧Below w.heap.size w w':=by
 subst hn
 obtain⟨i0,hi,hz0,hz1,hz2⟩:=info_parts q7zn
 cases A with
 | none=>
  have hnil:l=[]:=by
   cases l with
   | nil=>rfl
   | cons x l=>obtain⟨g,i,e,_⟩:=ha (by simp[fcs,quk6]);cases e
  subst hnil
  clear ha
  go_enter Tryz.func29,Tryz.ntmps29
  go_wp2_with fail
  go_ret
  exact⟨_,rfl,World.ownsRow_made w #[] 0 (Nat.le_refl _) (by decide) rfl,(Below.refl _ _).alloc (Nat.le_refl _) _⟩
 | some a=>
  have SRC:=Lib.hid (show ∀j u,(fcs l)[j]? = some u→(w.alloc (.cells #[] 32)).cell? (a.add j)=some u from fun j u hu=>by
   obtain⟨g,i,e,hg,hc⟩:=ha (by intro e;rw[e] at hu;cases hu)
   cases e
   rw[show(⟨g,i,none⟩:Addr).add j=⟨g,i+j,none⟩ from Addr.add_lit g i j,World.cell?_alloc_old _ _ _ (Nat.ne_of_lt hg)]
   exact hc j u hu)
  have HL:=Lib.hid hl
  clear ha hl
  go_enter Tryz.func29,Tryz.ntmps29
  go_wp2_with (at_builtin;refine wpList_append_own _ rfl _ _ 27 rfl w.heap.size 32 i0 (.agg #[.string .empty,.int .i64 0,.bool false,.bool false,.int .i64 0]) 5 40 Tryz.underlying27 hi hz0 hz1 hz2 rfl (by decide) _ 0 [] rfl (World.ownsRow_made w #[] 0 (Nat.le_refl _) (by decide) rfl) a l.length c (fcs l) rfl (q4av l) SRC.out (qpp4 l) (by have:=HL.out;simp only[maxLen];omega) (by have:=HL.out;omega) (by simp) ?_;intro v' w1 hown hgrow _)
  go_ret
  rw[Nat.zero_add,List.nil_append] at hown
  refine⟨_,rfl,hown,⟨hgrow.os,hgrow.tape,hgrow.output,by have:=hgrow.size;simp at this;omega,fun k hk=>?_⟩⟩
  rw[hgrow.block k (by rw[World.size_alloc];omega) (fun e=>by have e2:k=w.heap.size:=Option.some.inj e;omega)]
  exact(Below.heap_alloc w _ k hk)
end Go.Proofs.YtbecggefmbpnoaaGreatDoor
