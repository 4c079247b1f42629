/- The contracts of prop.fixed and prop.size: how many bytes a property has. Condition: its strings are no longer than a string may be. -/
import Derived.Test.YtbklidpadffpgaaGreatK38
import Derived.Test.YtbklidpadffpgaaGreatK19
set_option maxHeartbeats 2000000
set_option maxRecDepth 100000
namespace Go.Proofs.YtbklidpadffpgaaGreat
open Go.RowKit
def qvy9(s n:Nat):Nat:=if s=1 then 1 else if s=2∨s=5∨s=6 then 2 else if s=3∨s=7 then 4 else sz n
theorem qrv6(s n:Nat):qvy9 s n≤4:=by
 unfold qvy9 sz
 repeat (first | omega | split)
theorem q65n(s n:Nat)(w:World)(hs:s < 100)(hn:n < 4294967296) :
 Calls Tryz.prog 98 #[.int .i64 s,.int .u32 n] w fun e w'=>e = .returned (.int .i64 ((qvy9 s n:Nat):Int))∧w=w':=by
 unfold qvy9
 by_cases s1:s=1
 ·subst s1
  go_enter Tryz.func98,Tryz.ntmps98
  go_wp2
  go_ret
  exact⟨rfl,rfl⟩
 by_cases s2:s=2
 ·subst s2
  go_enter Tryz.func98,Tryz.ntmps98
  go_wp2
  go_ret
  exact⟨rfl,rfl⟩
 by_cases s5:s=5
 ·subst s5
  go_enter Tryz.func98,Tryz.ntmps98
  go_wp2
  go_ret
  exact⟨rfl,rfl⟩
 by_cases s6:s=6
 ·subst s6
  go_enter Tryz.func98,Tryz.ntmps98
  go_wp2
  go_ret
  exact⟨rfl,rfl⟩
 by_cases s3:s=3
 ·subst s3
  go_enter Tryz.func98,Tryz.ntmps98
  go_wp2
  go_ret
  exact⟨rfl,rfl⟩
 by_cases s7:s=7
 ·subst s7
  go_enter Tryz.func98,Tryz.ntmps98
  go_wp2
  go_ret
  exact⟨rfl,rfl⟩
 rw[if_neg s1,if_neg (by omega),if_neg (by omega)]
 have g1:((s:Int)==1)=false:=by simp;omega
 have g2:((s:Int)==2)=false:=by simp;omega
 have g3:((s:Int)==3)=false:=by simp;omega
 have g5:((s:Int)==5)=false:=by simp;omega
 have g6:((s:Int)==6)=false:=by simp;omega
 have g7:((s:Int)==7)=false:=by simp;omega
 have SZ:=Lib.hid (fun W=>qk0d (n:Int) W)
 have hw:IntKind.i64.wrap (n:Int)=(n:Int):=by simp only[IntKind.wrap_i64];omega
 clear hn s1 s2 s3 s5 s6 s7
 go_enter Tryz.func98,Tryz.ntmps98
 go_wp2_with fail
 refine(SZ.out _).mono ?_
 rintro e w' ⟨rfl,rfl⟩
 go_wp2_with fail
 go_ret
 exact⟨rfl,rfl⟩
def qboz(s:Nat)(p:Pr):Nat:=1+qvy9 s p.n+p.text.length+p.value.length
theorem qytc(s:Nat)(p:Pr)(w:World)(hs:s < 100)(hn:p.n < 4294967296)(h1:p.text.length≤70000)(h2:p.value.length≤70000) :
 Calls Tryz.prog 93 #[.int .i64 s,qbhk p] w fun e w'=>e = .returned (.int .i64 ((qboz s p:Nat):Int))∧Below w.heap.size w w':=by
 have FX:=fun W=>q65n s p.n W hs hn
 have hf:=qrv6 s p.n
 unfold qboz
 have M:=Lib.hid (qrxu.made w p)
 have hB:Below w.heap.size w (w.alloc (.cells #[.int .i64 p.id,.int .u32 p.n,.string (bs p.text),.string (bs p.value)] 25)):=(Below.refl _ _).alloc (Nat.le_refl _) _
 have HB:=Lib.hid (fun n=>qnpu hB n)
 have c1:=M.out.c1
 have c2:=M.out.c2
 have c3:=M.out.c3
 have z1:=q5zk p.text
 have z2:=q5zk p.value
 generalize qvy9 s p.n=f at *
 obtain⟨a,ha⟩:∃a:Int,((p.text.length:Nat):Int)=a:=⟨_,rfl⟩
 obtain⟨b,hb⟩:∃a:Int,((p.value.length:Nat):Int)=a:=⟨_,rfl⟩
 have l1:((bs p.text).size:Int)=a:=by rw[z1];exact ha
 have l2:((bs p.value).size:Int)=b:=by rw[z2];exact hb
 have hr:((1+f+p.text.length+p.value.length:Nat):Int)=1+(f:Int)+a+b:=by omega
 rw[hr]
 have a0:0≤a:=by omega
 have a1:a≤70000:=by omega
 have b0:0≤b:=by omega
 have b1:b≤70000:=by omega
 obtain⟨f',hf'⟩:∃a:Int,(f:Int)=a:=⟨_,rfl⟩
 rw[hf'] at FX
 rw[hf']
 have f0:0≤f':=by omega
 have f1:f'≤4:=by omega
 clear ha hb z1 z2 hr h1 h2 hf hf' hB hn
 have w1:IntKind.i64.wrap (1+f')=1+f':=by simp only[IntKind.wrap_i64];omega
 have w2:IntKind.i64.wrap (1+f'+a)=1+f'+a:=by simp only[IntKind.wrap_i64];omega
 have w3:IntKind.i64.wrap (1+f'+a+b)=1+f'+a+b:=by simp only[IntKind.wrap_i64];omega
 have QF:∀n,Calls Tryz.prog 98 #[.int .i64 s,.int .u32 p.n] ((w.alloc (.cells #[.int .i64 p.id,.int .u32 p.n,.string (bs p.text),.string (bs p.value)] 25)).drewN n) fun e w'=>e = .returned (.int .i64 f')∧∃m,w'=(w.alloc (.cells #[.int .i64 p.id,.int .u32 p.n,.string (bs p.text),.string (bs p.value)] 25)).drewN m:=fun n=>(FX _).mono fun _ _ h=>⟨h.1,n,h.2.symm⟩
 have QF1:=Lib.hid QF
 clear QF FX
 unfold qbhk
 go_enter Tryz.func93,Tryz.ntmps93
 go_wp2_with fail
 go_quiet (first | (go_at_call 98;exact QF1.out _))
 go_wp2_with fail
 go_ret
 exact⟨rfl,HB.out _⟩
theorem qttn{kind:Int}{p:Pr}(h:qr4y kind p=0):qboz (qwgc p.id) p=(oneP p).length∧p.text.length≤65535∧p.value.length≤65535∧(oneP p).length≤131075:=by
 obtain⟨hm,h4,h5⟩:=qo1o h
 obtain⟨r1,r2,f1,f2,f3,f4,_⟩:=qznl hm
 have key:qboz (qwgc p.id) p=(oneP p).length∧p.text.length≤65535∧p.value.length≤65535:=by
  rw[qnrl]
  unfold qboz qvy9 qgdb
  by_cases s4:qwgc p.id≤4
  ·obtain⟨e1,e2,_,hn⟩:=h4 s4
   rw[e1,e2]
   have:qwgc p.id=1∨qwgc p.id=2∨qwgc p.id=3∨qwgc p.id=4:=by omega
   rcases this with h | h | h | h<;>rw[h]<;>simp[q0rl,q8sw]<;>omega
  ·obtain⟨e1,hv7,hv6,hvt⟩:=h5 (by omega)
   have:qwgc p.id=5∨qwgc p.id=6∨qwgc p.id=7:=by omega
   rcases this with h | h | h
   ·have e2:=hv7 (by omega)
    have l1:=((qbv6 _).1 (hvt (by omega)).1).1
    rw[h,e2];simp[qnp6];omega
   ·have e2:=hv7 (by omega)
    have l1:=hv6 h
    rw[h,e2];simp[qnp6];omega
   ·have l1:=((qbv6 _).1 (hvt (by omega)).1).1
    have l2:=((qbv6 _).1 (hvt (by omega)).2).1
    rw[h];simp[qnp6];omega
 refine⟨key.1,key.2.1,key.2.2,?_⟩
 rw[←key.1]
 unfold qboz
 have:=qrv6 (qwgc p.id) p.n
 omega
theorem q2ss(kind:Int)(pre:List Pr)(p:Pr)(l:List Pr):q09m kind pre (p::l)=if qx3j kind pre p≠0 then qx3j kind pre p else q09m kind (pre++[p]) l:=by
 rw[q09m]
 unfold qx3j
 by_cases h:qr4y kind p≠0
 ·rw[if_pos h,if_pos h,if_pos h]
 ·rw[if_neg h,if_neg h]
  by_cases h2:qxv1 kind pre p.id=true
  ·rw[if_pos h2,if_pos h2];rfl
  ·rw[if_neg h2,if_neg h2];rfl
theorem qbq1{kind:Int}{pre:List Pr}{p:Pr}(h:qx3j kind pre p=0):qr4y kind p=0:=by
 unfold qx3j at h
 by_cases hc:qr4y kind p=0
 ·exact hc
 ·rw[if_pos hc] at h;exact h
theorem TalL.lt{W:World}{b mb:Nat}{kind:Int}{l:List Pr}(h:TalL W b mb kind l):b < W.heap.size∧mb < W.heap.size:=by obtain⟨s,h1,_⟩:=h;exact⟨h1.lt,h1.mlt⟩
theorem TalL.below{W W':World}{b mb:Nat}{kind:Int}{l:List Pr}(h:TalL W b mb kind l)(hb:Below W.heap.size W W'):TalL W' b mb kind l:=by obtain⟨s,h1,h2⟩:=h;exact⟨s,h1.below hb h1.lt h1.mlt,h2⟩
theorem TalL.alloc{W:World}{b mb:Nat}{kind:Int}{l:List Pr}(h:TalL W b mb kind l)(o:Obj):TalL (W.alloc o) b mb kind l:=h.below ((Below.refl _ _).alloc (Nat.le_refl _) _)
theorem TalL.draws{W:World}{b mb:Nat}{kind:Int}{l:List Pr}(h:TalL W b mb kind l)(n:Nat):TalL (W.drewN n) b mb kind l:=h
def MeS(w:World)(b mb v:Nat)(kind:Int)(p:Pr)(pre:List Pr)(W:World):Prop:=
 W.cell? ⟨v,0,none⟩=some (.int .i64 p.id)∧W.cell? ⟨v,1,none⟩=some (.int .u32 p.n)∧W.cell? ⟨v,2,none⟩=some (.string (bs p.text))∧W.cell? ⟨v,3,none⟩=some (.string (bs p.value))∧
 W.cell? ⟨b,1,none⟩=some (.map (some mb))∧
 (Instr.lookup 93 (.map (some mb)) (.int .i64 p.id) false).run Tryz.prog W = .ok (q3al (qwgc p.id) (qavf p.id) (prow p.id).least) W∧
 (qrxu W v p∧TalL W b mb kind pre∧w.grownBy W (some b))
theorem MeS.mk{w W:World}{b mb v:Nat}{kind:Int}{p:Pr}{pre:List Pr}(ok:PrOk p)(h1:qrxu W v p)(h2:TalL W b mb kind pre)(h3:w.grownBy W (some b)):MeS w b mb v kind p pre W:=by
 obtain⟨s,t1,t2⟩:=h2
 exact⟨h1.c0,h1.c1,h1.c2,h1.c3,t1.c1,t1.2.look ok.lo ok.hi,h1,⟨s,t1,t2⟩,h3⟩
theorem MeS.call{w W W':World}{b mb v:Nat}{kind:Int}{p:Pr}{pre:List Pr}(ok:PrOk p)(h:MeS w b mb v kind p pre W)(hb:Below W.heap.size W W'):MeS w b mb v kind p pre W':=by
 obtain⟨_,_,_,_,_,_,h1,h2,h3⟩:=h
 exact MeS.mk ok (h1.below hb h1.lt) (h2.below hb) (qo6d h3 (q9cp hb _))
theorem MeS.drew{w W:World}{b mb v:Nat}{kind:Int}{p:Pr}{pre:List Pr}(ok:PrOk p)(h:MeS w b mb v kind p pre W):MeS w b mb v kind p pre W.drew:=by
 obtain⟨_,_,_,_,_,_,h1,h2,h3⟩:=h
 exact MeS.mk ok h1 (h2.draws 1) h3.drew'
theorem qyea{w:World}{b mb:Nat}{kind:Int}(g i c:Nat)(l:List Pr)(h:TalL w b mb kind [])(hi:-9223372036854775808≤kind)(hj:kind≤9223372036854775807)(hl:PL w (some ⟨g,i,none⟩) l)(_hg:g < w.heap.size)(hgb:g≠b)(hn:l.length≤1000)(hc:l.length≤c)(ok:∀p∈l,PrOk p) :
 Calls Tryz.prog 53 #[.pointer (some ⟨b,0,none⟩),.slice (some ⟨g,i,none⟩) l.length c] w fun e w'=>
  e = .returned (.tuple #[.int .i64 ((if qpyu kind l=0 then(q636 l).length else 0:Nat):Int),.int .i64 ((qpyu kind l:Nat):Int)])∧w.grownBy w' (some b)∧(qpyu kind l=0→TalL w' b mb kind l):=by
 obtain⟨n,hN⟩:∃n,l.length=n:=⟨_,rfl⟩
 rw[hN] at hn hc ⊢
 have HN:=Lib.hid hN
 have HL:=Lib.hid hl
 have OK:=Lib.hid ok
 have H0:=Lib.hid h
 have hn2:(n:Int)≤1000:=by omega
 clear hN hl ok h hn
 obtain⟨V,hV⟩:∃V,qpyu kind l=V:=⟨_,rfl⟩
 obtain⟨T,hT⟩:∃T,(if V=0 then(q636 l).length else 0)=T:=⟨_,rfl⟩
 rw[hV,hT]
 have HV:=Lib.hid hV
 have HT:=Lib.hid hT
 clear hV hT
 go_enter Tryz.func53,Tryz.ntmps53
 go_wp2_with fail
 go_loopg [16,6] n (fun gk s16 s6 wx=>∃k t:Nat,k≤n∧gk=n - k∧s16 = .int .i64 (k:Int)∧s6 = .int .i64 (t:Int)∧t=(q636 (l.take k)).length∧t≤131075*k∧q09m kind (l.take k) (l.drop k)=q09m kind [] l∧TalL wx b mb kind (l.take k)∧w.grownBy wx (some b))
 case atStart=>exact⟨0,0,by omega,by omega,rfl,rfl,rfl,by omega,rfl,H0.out,World.grownBy.refl _ _⟩
 case round=>
  obtain⟨k,t,hk,hgk,rfl,rfl,ht,ht2,hE,hTl,hG⟩:=hrel
  by_cases hlt:k < n
  ·have hkl:k < l.length:=by rw[HN.out];exact hlt
   obtain⟨p,hp⟩:∃p,l[k]? = some p:=⟨_,List.getElem?_eq_getElem hkl⟩
   obtain⟨g',i',e',hg',c0,c1,c2,c3⟩:=(HL.out.grown hG (fun g' i' e=>by cases e;exact hgb)).at hp
   cases e'
   have g1:(k:Int) < (n:Int):=by omega
   have hG:=Lib.hid hG
   have okp:=OK.out p (List.mem_of_getElem? hp)
   have hdr:l.drop k=p::l.drop (k+1):=by
    rw[List.drop_eq_getElem_cons hkl];congr 1
    rw[List.getElem?_eq_getElem hkl] at hp;exact Option.some.inj hp
   have htk:l.take (k+1)=l.take k++[p]:=by rw[List.take_add_one,hp];rfl
   rw[hdr,q2ss] at hE
   have AD:=Lib.hid (q42n (w:=wr.alloc (.cells #[.int .i64 p.id,.int .u32 p.n,.string (bs p.text),.string (bs p.value)] 25)) p (hTl.alloc _) hi hj okp)
   have hv:wr.heap.size≠b:=by have:=hTl.lt.1;omega
   have G1:=Lib.hid (qo6d hG (World.grownBy_alloc wr (.cells #[.int .i64 p.id,.int .u32 p.n,.string (bs p.text),.string (bs p.value)] 25) (some b)))
   have P1:=Lib.hid (qrxu.made wr p)
   have HE:=Lib.hid hE
   have HTK:=Lib.hid htk
   have HT2:=Lib.hid ht2
   have HTT:=Lib.hid ht
   have OKP:=Lib.hid okp
   clear hG hTl hE htk hdr ht ht2 okp
   obtain⟨tp,htp⟩:∃tp,qx3j kind (l.take k) p=tp:=⟨_,rfl⟩
   rw[htp] at AD HE
   have HTP:=Lib.hid htp
   clear htp
   unfold qbhk at AD
   go_wp2_with fail
   refine(AD.out).mono ?_
   rintro e w2 ⟨rfl,hg2,ht3⟩
   have htp:=HTP.out
   by_cases hz:tp=0
   ·subst hz
    have ck:=qbq1 htp
    obtain⟨z1,z2,z3,z4⟩:=qttn ck
    have hS:=MeS.drew OKP.out (MeS.mk OKP.out (P1.out.of_block (hg2.block _ P1.out.lt (fun x=>hv (Option.some.inj x)))) (ht3 rfl) (qo6d G1.out hg2))
    have PS:=fun W=>qytc (qwgc p.id) p W (qyyb _) OKP.out.n (by omega) (by omega)
    rw[z1] at PS
    have h1:(q636 (l.take (k+1))).length=t+(oneP p).length:=by
     rw[HTK.out,qd67,List.length_append,←HTT.out]
     show _=t+(oneP p).length
     rw[qhx5,qodo,List.append_nil]
    have hE2:=HE.out
    rw[if_neg (by simp)] at hE2
    rw[←HTK.out] at hS hE2
    have MC:=Lib.hid (fun W W' h hb=>MeS.call (w:=w) (W:=W) (W':=W') (b:=b) (mb:=mb) (v:=wr.heap.size) (kind:=kind) (p:=p) (pre:=l.take (k+1)) OKP.out h hb)
    have LK:=Lib.hid (fun W (h:MeS w b mb wr.heap.size kind p (l.take (k+1)) W)=>h.2.2.2.2.2.1)
    have ht2:=HT2.out
    generalize (oneP p).length=o at *
    generalize qwgc p.id=s at *
    generalize qavf p.id=kk at *
    generalize (prow p.id).least=ll at *
    have hw:IntKind.i64.wrap ((t:Int)+(o:Int))=((t+o:Nat):Int):=by simp only[IntKind.wrap_i64];omega
    have FD:=qyw9 s kk ll
    unfold qbhk at PS
    unfold q3al at LK FD
    have PS1:=Lib.hid PS
    have H1:=Lib.hid h1
    have HE3:=Lib.hid hE2
    have HZ4:=Lib.hid z4
    clear PS h1 hE2 z4 ht2 z1 z2 z3 ck htp ht3 hg2 c0 c1 c2 c3 HTT HE HTK HTP G1 P1
    go_wp2_with fail
    go_region_held3 (fun w'=>w'.cell? ⟨wr.heap.size,0,none⟩=some (.int .i64 p.id)∧w'.cell? ⟨wr.heap.size,1,none⟩=some (.int .u32 p.n)∧w'.cell? ⟨wr.heap.size,2,none⟩=some (.string (bs p.text))∧w'.cell? ⟨wr.heap.size,3,none⟩=some (.string (bs p.value))∧w'.cell? ⟨b,1,none⟩=some (.map (some mb))∧
     (Instr.lookup 93 (.map (some mb)) (.int .i64 p.id) false).run Tryz.prog w' = .ok (.agg #[.int .i64 s,.int .u32 kk,.int .u32 ll]) w'∧(qrxu w' wr.heap.size p∧TalL w' b mb kind (l.take (k+1))∧w.grownBy w' (some b)))
     (exact⟨hS.1,hS.2.1,hS.2.2.1,hS.2.2.2.1,hS.2.2.2.2.1,LK.out _ hS,hS.2.2.2.2.2.2⟩)
     (first
      | (go_at_call 93;with_reducible refine(PS1.out _).mono ?_;rintro e w1 ⟨rfl,hb⟩;have hS:=MC.out _ _ hS hb;clear hb))
    rename_i hHeld
    have hF:=hS.2.2.2.2.2.2
    clear hHeld hS
    have HF:=Lib.hid hF
    clear hF
    go_wp2_with fail
    go_roundg (n - (k+1))
    case measure=>omega
    case rel=>exact⟨k+1,t+o,by omega,rfl,by go_num,by go_num,H1.out.symm,by have:=HZ4.out;have:=HT2.out;omega,HE3.out,HF.out.2.1,HF.out.2.2⟩
   ·have hE2:=HE.out
    rw[if_pos hz] at hE2
    have g1:((tp:Int)==0)=false:=by simp;omega
    have g2:((tp:Int) != 0)=true:=by simp;omega
    have hv2:V=tp:=by rw[←HV.out];unfold qpyu;rw[if_neg (by have:=HN.out;omega),←hE2,if_pos hz]
    have ht4:T=0:=by rw[←HT.out,if_neg (by rw[hv2];exact hz)]
    subst hv2
    subst ht4
    have G3:=Lib.hid (qo6d G1.out hg2)
    clear hg2 ht3 htp hE2
    go_wp2_with fail
    go_ret2
    exact⟨rfl,G3.out,fun h=>absurd h hz⟩
  ·obtain rfl:k=n:=by omega
   have ht1:l.take k=l:=List.take_of_length_le (by rw[HN.out];omega)
   have hd1:l.drop k=[]:=List.drop_of_length_le (by rw[HN.out];omega)
   rw[ht1] at hTl ht hE
   rw[hd1] at hE
   have hE:q09m kind [] l=0:=hE.symm
   have EN:=Lib.hid (qtn3 hTl)
   have hV:=HV.out
   unfold qpyu at hV
   rw[if_neg (by have:=HN.out;omega),if_neg (by simp[hE])] at hV
   have HG:=Lib.hid hG
   have HTL:=Lib.hid hTl
   have h3:t≤131075000:=by omega
   clear hE hG hTl ht1 hd1
   cases hlo:qwyx l with
   | true=>
    rw[hlo] at EN hV
    rw[if_pos rfl] at hV
    subst hV
    have hT:T=0:=by rw[←HT.out];rfl
    subst hT
    clear HV HT ht2 ht
    go_wp2_with fail
    refine(EN.out).mono ?_
    rintro e w2 ⟨rfl,rfl⟩
    go_wp2_with fail
    go_ret2
    exact⟨rfl,HG.out,fun h=>by cases h⟩
   | false=>
    rw[hlo] at EN hV
    rw[if_neg (by simp),if_neg (by omega)] at hV
    subst hV
    have hT:T=t:=by rw[←HT.out,ht];rfl
    subst hT
    have h4:(T:Int)≤131075000:=by omega
    clear HV HT ht2 ht h3
    go_wp2_with fail
    refine(EN.out).mono ?_
    rintro e w2 ⟨rfl,rfl⟩
    go_wp2_with fail
    go_ret2
    exact⟨rfl,HG.out,HTL.out⟩
theorem qwrj{B b:Nat}{W W':World}(hg:W.grownBy W' (some b))(hB:B≤W.heap.size)(hr:B≤b):Below B W W':=
 ⟨hg.os,hg.tape,hg.output,hg.size,fun k hk=>hg.block k (Nat.lt_of_lt_of_le hk hB) (fun e=>by have:=Option.some.inj e;omega)⟩
theorem qb0w{w:World}{b mb:Nat}{kind:Int}(A:Option Addr)(c:Nat)(h:TalL w b mb kind []) :
 Calls Tryz.prog 53 #[.pointer (some ⟨b,0,none⟩),.slice A 0 c] w fun e w'=>e = .returned (.tuple #[.int .i64 0,.int .i64 0])∧w=w':=by
 have EN:=qtn3 h
 change Calls _ _ _ _ (fun e w'=>e=Ending.returned (.int .i64 0)∧_) at EN
 have EN:=Lib.hid EN
 go_enter Tryz.func53,Tryz.ntmps53
 go_wp2_with fail
 refine wp_loop_rounds 1 ?_
 rw[rounds_succ]
 go_wp2_with fail
 refine(EN.out).mono ?_
 rintro e w2 ⟨rfl,rfl⟩
 go_wp2_with fail
 go_ret2
 exact⟨rfl,rfl⟩
theorem qs4j{w:World}{b n:Nat}(A:Option Addr)(c:Nat)(hn:1000 < n) :
 Calls Tryz.prog 53 #[.pointer (some ⟨b,0,none⟩),.slice A n c] w fun e w'=>e = .returned (.tuple #[.int .i64 0,.int .i64 4])∧w=w':=by
 have h:(1000:Int) < (n:Int):=by omega
 clear hn
 go_enter Tryz.func53,Tryz.ntmps53
 go_wp2_with fail
 go_ret2
 exact⟨rfl,rfl⟩
theorem q2yl{w:World}{b mb:Nat}{kind:Int}(A:Option Addr)(n c:Nat)(l:List Pr)(h:TalL w b mb kind [])(hi:-9223372036854775808≤kind)(hj:kind≤9223372036854775807)(hl:PL w A l)(hgb:∀g i,A=some ⟨g,i,none⟩→l≠[]→g≠b)(hn:l.length=n)(hc:n≤c)(ok:∀p∈l,PrOk p) :
 Calls Tryz.prog 53 #[.pointer (some ⟨b,0,none⟩),.slice A n c] w fun e w'=>
  e = .returned (.tuple #[.int .i64 ((if qpyu kind l=0 then(q636 l).length else 0:Nat):Int),.int .i64 ((qpyu kind l:Nat):Int)])∧w.grownBy w' (some b)∧(qpyu kind l=0→TalL w' b mb kind l):=by
 subst hn
 by_cases h0:l=[]
 ·subst h0
  exact(qb0w A c h).mono fun e w' ⟨he,hw⟩=>⟨he,hw▸World.grownBy.refl _ _,fun _=>hw▸h⟩
 by_cases h1:1000 < l.length
 ·have hv:qpyu kind l=4:=by unfold qpyu;rw[if_pos h1]
  rw[hv]
  exact(qs4j A c h1).mono fun e w' ⟨he,hw⟩=>⟨he,hw▸World.grownBy.refl _ _,fun h=>by cases h⟩
 ·obtain⟨g,i,rfl,hg⟩:=hl.addr h0
  exact qyea g i c l h hi hj hl hg (hgb g i rfl h0) (by omega) hc ok
theorem qirc(kind:Int)(A:Option Addr)(n c:Nat)(l:List Pr)(w:World)(hi:-9223372036854775808≤kind)(hj:kind≤9223372036854775807)(hl:PL w A l)(hn:l.length=n)(hc:n≤c)(ok:∀p∈l,PrOk p) :
 Calls Tryz.prog 26 #[.int .i64 kind,.slice A n c] w fun e w'=>e = .returned (.int .i64 ((qpyu kind l:Nat):Int))∧Below w.heap.size w w':=by
 have MS:=Lib.hid (fun W b mb (h:TalL W b mb kind []) hP hg=>q2yl (w:=W) (b:=b) (mb:=mb) A n c l h hi hj hP hg hn hc ok)
 have HL:=Lib.hid hl
 generalize qpyu kind l=V at *
 generalize hT:(if V=0 then(q636 l).length else 0:Nat)=T at *
 clear hT hn hc ok hl
 go_enter Tryz.func26,Tryz.ntmps26
 go_wp2_with fail
 refine(qkou kind w).mono ?_
 rintro e w1 ⟨b,mb,rfl,ht,hb,hb2,hm2⟩
 have M1:=Lib.hid (MS.out w1 b mb ⟨0,ht,q6mr.nil⟩ (HL.out.below hb) (fun g i e hne=>by
  obtain⟨g',i',e',hg'⟩:=HL.out.addr hne
  rw[e] at e'
  cases e'
  omega))
 have HB:=Lib.hid hb
 have B2:=Lib.hid hb2
 clear ht hb hm2 hb2 MS HL
 go_wp2_with fail
 refine(M1.out).mono ?_
 rintro e w2 ⟨rfl,hg,_⟩
 have HG:=Lib.hid (HB.out.trans (qwrj hg HB.out.size B2.out))
 clear hg
 go_wp2_with fail
 go_ret
 exact⟨rfl,HG.out⟩
end Go.Proofs.YtbklidpadffpgaaGreat
