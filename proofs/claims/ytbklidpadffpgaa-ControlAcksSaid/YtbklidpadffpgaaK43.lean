/- The contract of prop.measure. Condition: the fields of each property are what their types hold. -/
import Derived.Test.YtbklidpadffpgaaK42
set_option maxHeartbeats 2000000
set_option maxRecDepth 100000
namespace Go.Proofs.Ytbklidpadffpgaa
open Go.RowKit
theorem qyea{w:World}{b mb:Nat}{kind:Int}(g i c:Nat)(l:List Pr)(h:TalL w b mb kind [])(hi:-9223372036854775808≤kind)(hj:kind≤9223372036854775807)(hl:PL w (some ⟨g,i,none⟩) l)(_hg:g < w.heap.size)(hgb:g≠b)(hn:l.length≤1000)(hc:l.length≤c)(ok:∀p∈l,PrOk p) :
 Calls Try.prog 26 #[.pointer (some ⟨b,0,none⟩),.slice (some ⟨g,i,none⟩) l.length c] w fun e w'=>
  e = .returned (.tuple #[.int .i64 ((if qpyu kind l=0 then(q636 l).length else 0:Nat):Int),.int .i64 ((qpyu kind l:Nat):Int)])∧w.grownBy w' (some b)∧(qpyu kind l=0→TalL w' b mb kind l):=by
 obtain⟨n,hN⟩:∃n,l.length=n:=⟨_,rfl⟩
 rw[hN] at hn hc ⊢
 have HN:=Lib.hid hN
 have HL:=Lib.hid hl
 have OK:=Lib.hid ok
 have H0:=Lib.hid h
 have hn2:(n:Int)≤1000:=by omega
 clear hN hl ok h hn
 obtain⟨V,hV⟩:∃V,qpyu kind l=V:=⟨_,rfl⟩
 obtain⟨T,hT⟩:∃T,(if V=0 then(q636 l).length else 0)=T:=⟨_,rfl⟩
 rw[hV,hT]
 have HV:=Lib.hid hV
 have HT:=Lib.hid hT
 clear hV hT
 go_enter Try.func26,Try.ntmps26
 go_wp2_with fail
 go_loopg [16,6] n (fun gk s16 s6 wx=>∃k t:Nat,k≤n∧gk=n - k∧s16 = .int .i64 (k:Int)∧s6 = .int .i64 (t:Int)∧t=(q636 (l.take k)).length∧t≤131075*k∧q09m kind (l.take k) (l.drop k)=q09m kind [] l∧TalL wx b mb kind (l.take k)∧w.grownBy wx (some b))
 case atStart=>exact⟨0,0,by omega,by omega,rfl,rfl,rfl,by omega,rfl,H0.out,World.grownBy.refl _ _⟩
 case round=>
  obtain⟨k,t,hk,hgk,rfl,rfl,ht,ht2,hE,hTl,hG⟩:=hrel
  by_cases hlt:k < n
  ·have hkl:k < l.length:=by rw[HN.out];exact hlt
   obtain⟨p,hp⟩:∃p,l[k]? = some p:=⟨_,List.getElem?_eq_getElem hkl⟩
   obtain⟨g',i',e',hg',c0,c1,c2,c3⟩:=(HL.out.grown hG (fun g' i' e=>by cases e;exact hgb)).at hp
   cases e'
   have g1:(k:Int) < (n:Int):=by omega
   have hG:=Lib.hid hG
   have okp:=OK.out p (List.mem_of_getElem? hp)
   have hdr:l.drop k=p::l.drop (k+1):=by
    rw[List.drop_eq_getElem_cons hkl];congr 1
    rw[List.getElem?_eq_getElem hkl] at hp;exact Option.some.inj hp
   have htk:l.take (k+1)=l.take k++[p]:=by rw[List.take_add_one,hp];rfl
   rw[hdr,q2ss] at hE
   have AD:=Lib.hid (q42n (w:=wr.alloc (.cells #[.int .i64 p.id,.int .u32 p.n,.string (bs p.text),.string (bs p.value)] 62)) p (hTl.alloc _) hi hj okp)
   have hv:wr.heap.size≠b:=by have:=hTl.lt.1;omega
   have G1:=Lib.hid (qo6d hG (World.grownBy_alloc wr (.cells #[.int .i64 p.id,.int .u32 p.n,.string (bs p.text),.string (bs p.value)] 62) (some b)))
   have P1:=Lib.hid (qrxu.made wr p)
   have HE:=Lib.hid hE
   have HTK:=Lib.hid htk
   have HT2:=Lib.hid ht2
   have HTT:=Lib.hid ht
   have OKP:=Lib.hid okp
   clear hG hTl hE htk hdr ht ht2 okp
   obtain⟨tp,htp⟩:∃tp,qx3j kind (l.take k) p=tp:=⟨_,rfl⟩
   rw[htp] at AD HE
   have HTP:=Lib.hid htp
   clear htp
   unfold qbhk at AD
   go_wp2_with fail
   refine(AD.out).mono ?_
   rintro e w2 ⟨rfl,hg2,ht3⟩
   have htp:=HTP.out
   by_cases hz:tp=0
   ·subst hz
    have ck:=qbq1 htp
    obtain⟨z1,z2,z3,z4⟩:=qttn ck
    have hS:=MeS.drew OKP.out (MeS.mk OKP.out (P1.out.of_block (hg2.block _ P1.out.lt (fun x=>hv (Option.some.inj x)))) (ht3 rfl) (qo6d G1.out hg2))
    have PS:=fun W=>qytc (qwgc p.id) p W (qyyb _) OKP.out.n (by omega) (by omega)
    rw[z1] at PS
    have h1:(q636 (l.take (k+1))).length=t+(oneP p).length:=by
     rw[HTK.out,qd67,List.length_append,←HTT.out]
     show _=t+(oneP p).length
     rw[qhx5,qodo,List.append_nil]
    have hE2:=HE.out
    rw[if_neg (by simp)] at hE2
    rw[←HTK.out] at hS hE2
    have MC:=Lib.hid (fun W W' h hb=>MeS.call (w:=w) (W:=W) (W':=W') (b:=b) (mb:=mb) (v:=wr.heap.size) (kind:=kind) (p:=p) (pre:=l.take (k+1)) OKP.out h hb)
    have LK:=Lib.hid (fun W (h:MeS w b mb wr.heap.size kind p (l.take (k+1)) W)=>h.2.2.2.2.2.1)
    have ht2:=HT2.out
    generalize (oneP p).length=o at *
    generalize qwgc p.id=s at *
    generalize qavf p.id=kk at *
    generalize (prow p.id).least=ll at *
    have hw:IntKind.i64.wrap ((t:Int)+(o:Int))=((t+o:Nat):Int):=by simp only[IntKind.wrap_i64];omega
    have FD:=qyw9 s kk ll
    unfold qbhk at PS
    unfold q3al at LK FD
    have PS1:=Lib.hid PS
    have H1:=Lib.hid h1
    have HE3:=Lib.hid hE2
    have HZ4:=Lib.hid z4
    clear PS h1 hE2 z4 ht2 z1 z2 z3 ck htp ht3 hg2 c0 c1 c2 c3 HTT HE HTK HTP G1 P1
    go_wp2_with fail
    go_region_held3 (fun w'=>w'.cell? ⟨wr.heap.size,0,none⟩=some (.int .i64 p.id)∧w'.cell? ⟨wr.heap.size,1,none⟩=some (.int .u32 p.n)∧w'.cell? ⟨wr.heap.size,2,none⟩=some (.string (bs p.text))∧w'.cell? ⟨wr.heap.size,3,none⟩=some (.string (bs p.value))∧w'.cell? ⟨b,1,none⟩=some (.map (some mb))∧
     (Instr.lookup 66 (.map (some mb)) (.int .i64 p.id) false).run Try.prog w' = .ok (.agg #[.int .i64 s,.int .u32 kk,.int .u32 ll]) w'∧(qrxu w' wr.heap.size p∧TalL w' b mb kind (l.take (k+1))∧w.grownBy w' (some b)))
     (exact⟨hS.1,hS.2.1,hS.2.2.1,hS.2.2.2.1,hS.2.2.2.2.1,LK.out _ hS,hS.2.2.2.2.2.2⟩)
     (first
      | (go_at_call 37;with_reducible refine(PS1.out _).mono ?_;rintro e w1 ⟨rfl,hb⟩;have hS:=MC.out _ _ hS hb;clear hb))
    rename_i hHeld
    have hF:=hS.2.2.2.2.2.2
    clear hHeld hS
    have HF:=Lib.hid hF
    clear hF
    go_wp2_with fail
    go_roundg (n - (k+1))
    case measure=>omega
    case rel=>exact⟨k+1,t+o,by omega,rfl,by go_num,by go_num,H1.out.symm,by have:=HZ4.out;have:=HT2.out;omega,HE3.out,HF.out.2.1,HF.out.2.2⟩
   ·have hE2:=HE.out
    rw[if_pos hz] at hE2
    have g1:((tp:Int)==0)=false:=by simp;omega
    have g2:((tp:Int) != 0)=true:=by simp;omega
    have hv2:V=tp:=by rw[←HV.out];unfold qpyu;rw[if_neg (by have:=HN.out;omega),←hE2,if_pos hz]
    have ht4:T=0:=by rw[←HT.out,if_neg (by rw[hv2];exact hz)]
    subst hv2
    subst ht4
    have G3:=Lib.hid (qo6d G1.out hg2)
    clear hg2 ht3 htp hE2
    go_wp2_with fail
    go_ret2
    exact⟨rfl,G3.out,fun h=>absurd h hz⟩
  ·obtain rfl:k=n:=by omega
   have ht1:l.take k=l:=List.take_of_length_le (by rw[HN.out];omega)
   have hd1:l.drop k=[]:=List.drop_of_length_le (by rw[HN.out];omega)
   rw[ht1] at hTl ht hE
   rw[hd1] at hE
   have hE:q09m kind [] l=0:=hE.symm
   have EN:=Lib.hid (qtn3 hTl)
   have hV:=HV.out
   unfold qpyu at hV
   rw[if_neg (by have:=HN.out;omega),if_neg (by simp[hE])] at hV
   have HG:=Lib.hid hG
   have HTL:=Lib.hid hTl
   have h3:t≤131075000:=by omega
   clear hE hG hTl ht1 hd1
   cases hlo:qwyx l with
   | true=>
    rw[hlo] at EN hV
    rw[if_pos rfl] at hV
    subst hV
    have hT:T=0:=by rw[←HT.out];rfl
    subst hT
    clear HV HT ht2 ht
    go_wp2_with fail
    refine(EN.out).mono ?_
    rintro e w2 ⟨rfl,rfl⟩
    go_wp2_with fail
    go_ret2
    exact⟨rfl,HG.out,fun h=>by cases h⟩
   | false=>
    rw[hlo] at EN hV
    rw[if_neg (by simp),if_neg (by omega)] at hV
    subst hV
    have hT:T=t:=by rw[←HT.out,ht];rfl
    subst hT
    have h4:(T:Int)≤131075000:=by omega
    clear HV HT ht2 ht h3
    go_wp2_with fail
    refine(EN.out).mono ?_
    rintro e w2 ⟨rfl,rfl⟩
    go_wp2_with fail
    go_ret2
    exact⟨rfl,HG.out,HTL.out⟩
end Go.Proofs.Ytbklidpadffpgaa
