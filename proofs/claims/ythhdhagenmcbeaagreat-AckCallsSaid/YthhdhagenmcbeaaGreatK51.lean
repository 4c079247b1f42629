/- The contract of polyglotref05.Read. Condition: at most 2,000 bytes. -/
import Derived.Deep.RegionHeld3
import Derived.Deep.LoopGhost
import Derived.Test.YthhdhagenmcbeaaGreatK47
import Derived.Test.YthhdhagenmcbeaaGreatK50
import Derived.Test.YthhdhagenmcbeaaGreatK36
import Derived.Test.YthhdhagenmcbeaaGreatK45
import Derived.Test.YthhdhagenmcbeaaGreatK09
import Derived.Test.YthhdhagenmcbeaaGreatK10
set_option maxRecDepth 100000
set_option maxHeartbeats 4000000
namespace Go.Proofs.YthhdhagenmcbeaaGreat
open Go.RowKit
theorem qqjl(xn:Nat)(hx:xn < 256)(r:List UInt8):PrOk (qij7 xn r).1:=by
 have hnum:∀c,c≤4→PrOk (numP xn c r).1:=fun c hc=>by
  unfold numP
  split
  ·exact⟨by show _≤(xn:Int);omega,by show(xn:Int)≤_;omega,by show 0 < 4294967296;decide,Nat.zero_le _,Nat.zero_le _⟩
  ·refine⟨by show _≤(xn:Int);omega,by show(xn:Int)≤_;omega,?_,Nat.zero_le _,Nat.zero_le _⟩
   have h1:=qn9h (r.take c)
   have h2:256^(r.take c).length≤256^4:=Nat.pow_le_pow_right (by decide) (by rw[List.length_take];omega)
   have h3:256^4=4294967296:=by decide
   show num _ < _
   omega
 have htx:∀d q,(q91e d q).1.length≤65535:=fun d q=>by
  have h:=(q3gm q).2
  rcases q7jb d q with ⟨_,h2⟩ | ⟨_,_,_,h2⟩ | ⟨_,_,h2⟩
  ·rw[h2];exact Nat.zero_le _
  ·rw[h2];exact Nat.zero_le _
  ·rw[h2];exact h
 have hz:PrOk ⟨(xn:Int),0,[],[]⟩:=⟨by show _≤(xn:Int);omega,by show(xn:Int)≤_;omega,by show 0 < 4294967296;decide,Nat.zero_le _,Nat.zero_le _⟩
 have mk:∀(n:Nat) (a b:List UInt8),n < 4294967296→a.length≤65535→b.length≤65535→PrOk ⟨(xn:Int),n,a,b⟩:=fun n a b h1 h2 h3=>⟨by show _≤(xn:Int);omega,by show(xn:Int)≤_;omega,h1,by show a.length≤_;omega,by show b.length≤_;omega⟩
 unfold qij7
 split
 ·exact hnum 1 (by decide)
 split
 ·exact hnum 2 (by decide)
 split
 ·exact hnum 4 (by decide)
 split
 ·split
  ·exact hz
  ·have:=(qips r).2.1;exact mk _ _ _ (by omega) (by decide) (by decide)
 split
 ·split
  ·exact hz
  split
  ·exact hz
  ·exact mk _ _ _ (by decide) (htx _ _) (htx _ _)
 split
 ·exact hz
 ·exact mk _ _ _ (by decide) (htx _ _) (by decide)
theorem qwhy{W:World}{v:Value}{base nA g i m c:Nat}{L M:List Pr}(ty:TypeId)(hown:W.ownsRow base 25 4 v nA (pcs L))(hM:PL W (some ⟨g,i,none⟩) M)(hm:M.length=m)(hn:nA+m≤3000)(hb:base≤W.heap.size) :
 ∃v' w',(Builtin.append_ #[26,26] ty #[v,.slice (some ⟨g,i,none⟩) m c]).run Tryz.prog W = .ok v' w'∧w'.ownsRow base 25 4 v' (nA+m) (pcs (L++M))∧Below base W w'∧W.grownBy w' v.ownBlock:=by
 obtain⟨i0,hi,hz0,hz1,hz2⟩:=info_parts qvch
 obtain⟨v',w',hr,h2,h3,_,_⟩:=run_append_own_at (P:=Tryz.prog) W base 26 ty 25 i0 (.agg #[.int .i64 0,.int .u32 0,.string .empty,.string .empty]) 4 48 Tryz.underlying26 hi hz0 hz1 hz2 rfl (by decide) v nA (pcs L) hown ⟨g,i,none⟩ m c (pcs M) (by rw[qv9d,hm]) hM.cells (qtvz M) (by simp only[maxLen];omega) (by omega) hb
 rw[←qdoo] at h2
 exact⟨v',w',hr,h2,q58f hown h3 hb,h3⟩
theorem qqad{W:World}{ops:Array Oper}{o:Oper}{a:Act}{K:Act→World→Prop}{Q:Exit→Act→World→Prop}{E:Prop}(hgd:o.guard=none)(s x:Operand)
 (ho:o.op = .call {callee := .builtin .append,args:=#[s,x],argTypes:=#[26,26]})
 {v:Value} {base nA g i m c:Nat} {L M:List Pr} (hs:a.eval s=v) (hx:a.eval x = .slice (some ⟨g,i,none⟩) m c) (hown:W.ownsRow base 25 4 v nA (pcs L)) (hM:PL W (some ⟨g,i,none⟩) M) (hm:M.length=m) (hn:nA+m≤3000) (hb:base≤W.heap.size)
 (h:∀v' w',w'.ownsRow base 25 4 v' (nA+m) (pcs (L++M))→Below base W w'→W.grownBy w' v.ownBlock→K (a.put o.dst v') w'):if Region.wanted o (yielded ops a.tmps)=true then Oper.wp Tryz.prog o a W K Q else E:=by
 have hw:Region.wanted o (yielded ops a.tmps)=true:=by simp[Region.wanted,hgd]
 rw[if_pos hw]
 obtain⟨v',w',hr,h2,h3,h4⟩:=qwhy o.type hown hM hm hn hb
 exact q2qx s x _ ho hs hx hr (h v' w' h2 h3 h4)
structure RfB(w:World)(kind:Int)(R:List Pr×Nat)(out:List Pr)(f:Nat)(lv:ByteArray)(v:Value)(W:World):Prop where
 own:W.ownsRow w.heap.size 25 4 v out.length (pcs out)
 low:Below w.heap.size w W
 len:out.length≤1000
 ok:∀p∈out,PrOk p
 eq:R=qwdr kind f out lv.data.toList
 fu:lv.size≤f
 sz:lv.size≤2000
theorem qx1z(xn:Nat)(r:List UInt8):(qij7 xn r).1.text.length≤70000:=by
 have htx:∀d q,(q91e d q).1.length≤70000:=fun d q=>by
  have h:=(q3gm q).2
  rcases q7jb d q with ⟨_,h2⟩ | ⟨_,_,_,h2⟩ | ⟨_,_,h2⟩
  ·rw[h2];exact Nat.zero_le _
  ·rw[h2];exact Nat.zero_le _
  ·rw[h2];exact Nat.le_trans h (by decide)
 have hnum:∀c,(numP xn c r).1.text.length≤70000:=fun c=>by unfold numP;split<;>exact Nat.zero_le _
 unfold qij7
 repeat' split
 all_goals first | exact hnum _ | exact Nat.zero_le _ | exact htx _ _
theorem RfB.end{w W:World}{kind:Int}{R:List Pr×Nat}{out:List Pr}{f V:Nat}{lv:ByteArray}{v:Value}{x:UInt8}{r:List UInt8}(h:RfB w kind R out f lv v W)(hx:lv.data.toList=x::r)
 (hE:(if qzyg kind out x r≠0 then qzyg kind out x r else if 1000≤out.length then 4 else 0)=V) (h0:V≠0):R=([],V):=by
 have hf:=h.fu
 rw[q4ad,hx,List.length_cons] at hf
 obtain⟨g,rfl⟩:∃g,f=g+1:=⟨f - 1,by omega⟩
 rw[h.eq,hx,q4zj]
 by_cases h1:qzyg kind out x r≠0
 ·rw[if_pos h1] at hE ⊢;rw[hE]
 ·rw[if_neg h1] at hE ⊢
  by_cases h2:1000≤out.length
  ·rw[if_pos h2] at hE ⊢;rw[hE]
  ·rw[if_neg h2] at hE;exact absurd hE.symm h0
theorem RfB.next{w W W':World}{kind:Int}{R:List Pr×Nat}{out:List Pr}{f k:Nat}{lv:ByteArray}{v v':Value}{x:UInt8}{r:List UInt8}{p:Pr}(h:RfB w kind R out f lv v W)(hx:lv.data.toList=x::r)
 (hE:qzyg kind out x r=0) (hl:¬1000≤out.length) (hp:p=(qij7 x.toNat r).1) (hk:k=1+(qij7 x.toNat r).2.1) (hkr:(qij7 x.toNat r).2.1≤r.length) (ok:PrOk p)
 (ho:W'.ownsRow w.heap.size 25 4 v' (out.length+1) (pcs (out++[p]))) (hb:Below w.heap.size w W'):∃f,RfB w kind R (out++[p]) f (lv.extract k lv.size) v' W'∧(lv.extract k lv.size).size < lv.size:=by
 have hf:=h.fu
 rw[q4ad,hx,List.length_cons] at hf
 obtain⟨g,rfl⟩:∃g,f=g+1:=⟨f - 1,by omega⟩
 have he:=h.eq
 rw[hx,q4zj,if_neg (by simp[hE]),if_neg hl] at he
 have hd:(lv.extract k lv.size).data.toList=r.drop (qij7 x.toNat r).2.1:=by
  rw[qh3u,hx,hk,Nat.add_comm,List.drop_succ_cons]
 have hs:(lv.extract k lv.size).size=r.length - (qij7 x.toNat r).2.1:=by rw[q4ad,hd,List.length_drop]
 have hlv:lv.size=r.length+1:=by rw[q4ad,hx,List.length_cons]
 refine⟨g,⟨by rw[List.length_append];exact ho,hb,by rw[List.length_append];simp;omega,?_,?_,by omega,by have:=h.sz;omega⟩,by omega⟩
 ·intro q hq
  rcases List.mem_append.1 hq with hq | hq
  ·exact h.ok q hq
  ·rw[List.mem_singleton.1 hq];exact ok
 ·rw[hd,hp];exact he
theorem qwqg(kind:Int)(s:ByteArray)(w:World)(hm:s.size≤2000)(hk0:-9223372036854775808≤kind)(hk1:kind≤9223372036854775807) :
 Calls Tryz.prog 96 #[.int .i64 kind,.string s] w (PrdP w (qflw kind s.data.toList)):=by
 have RD:=qtpo s w (by omega)
 unfold qwlf q51h at RD
 obtain⟨Q,hQ⟩:∃Q,qflw kind s.data.toList=Q:=⟨_,rfl⟩
 have hQ2:=hQ
 unfold qflw at hQ2
 rw[hQ]
 obtain⟨f1,f2,f3⟩:=qips s.data.toList
 have hsz:s.data.toList.length=s.size:=by rw[q4ad]
 obtain⟨n,hn⟩:∃n,rdN s.data.toList=n:=⟨_,rfl⟩
 obtain⟨v,hv⟩:∃n,rdV s.data.toList=n:=⟨_,rfl⟩
 obtain⟨z,hz⟩:∃n,rdE s.data.toList=n:=⟨_,rfl⟩
 rw[hn,hv,hz] at RD hQ2
 rw[hn,hv,hz] at f3
 rw[hn,hsz] at f1
 rw[hv] at f2
 rw[hsz] at hQ2
 by_cases h0:z=0
 ·subst h0
  rw[if_neg (by simp)] at hQ2
  obtain⟨y,hy⟩:∃y,s.size - n=y:=⟨_,rfl⟩
  have q1:IntKind.i64.wrap ((s.size:Int) - (n:Int))=(y:Int):=by simp only[IntKind.wrap_i64];omega
  by_cases h1:s.size < n+v
  ·rw[if_pos h1] at hQ2
   have q2:(y:Int) < (v:Int):=by omega
   have HQ:=Lib.hid hQ2
   have HR:=Lib.hid RD
   clear RD hQ hQ2 f1 f2 f3 hsz hn hv hz hy h1 hm hk0 hk1
   go_enter Tryz.func96,Tryz.ntmps96
   go_wp2_with fail
   refine(HR.out).mono ?_
   rintro e w1 ⟨rfl,rfl⟩
   go_wp2_with fail
   go_ret3
   exact PrdP.none (Below.refl _ _) HQ.out.symm
  ·rw[if_neg h1] at hQ2
   have q2:¬(y:Int) < (v:Int):=by omega
   obtain⟨t,ht⟩:∃t,n+v=t:=⟨_,rfl⟩
   have q3:IntKind.i64.wrap ((n:Int)+(v:Int))=(t:Int):=by simp only[IntKind.wrap_i64];omega
   have q4:(n:Int)≤(t:Int):=by omega
   have q5:(t:Int)≤(s.size:Int):=by omega
   have q6:(0:Int)≤(n:Int):=by omega
   have he:(s.extract n t).data.toList=(s.data.toList.drop n).take v:=by
    rw[←ht];simp[List.extract_eq_take_drop]
   have hes:(s.extract n t).size=v:=by
    rw[q4ad,he,List.length_take,List.length_drop,hsz];omega
   obtain⟨R,hR⟩:∃R,qwdr kind v [] ((s.data.toList.drop n).take v)=R:=⟨_,rfl⟩
   rw[hR] at hQ2
   have I0:RfB w kind R [] v (s.extract n t) (.slice none 0 0) w:=⟨World.ownsRow_nil _ _ _ _,Below.refl _ _,Nat.zero_le _,fun p h=>(by cases h),by rw[he];exact hR.symm,by omega,by omega⟩
   have HQ:=Lib.hid hQ2
   have HR:=Lib.hid RD
   have HT:=Lib.hid ht
   have I0:=Lib.hid I0
   have K0:=Lib.hid hk0
   have K1:=Lib.hid hk1
   clear RD hQ hQ2 f1 f2 f3 hsz hn hv hz hy h1 hm hk0 hk1 he hes ht hR
   go_enter Tryz.func96,Tryz.ntmps96
   go_wp2_with fail
   refine(HR.out).mono ?_
   rintro e w1 ⟨rfl,rfl⟩
   go_wp2_with fail
   generalize s.extract n t=lv0 at *
   have bq:decide (y < v)=false:=decide_eq_false (by omega)
   rw[bq]
   clear bq
   go_loopg [10,11] lv0.size (fun gk s10 s11 wx=>∃(out:List Pr) (f:Nat) (lv:ByteArray),gk=lv.size∧s11 = .string lv∧RfB w kind R out f lv s10 wx)
   case atStart=>exact⟨[],v,lv0,rfl,rfl,I0.out⟩
   case round=>
    obtain⟨out,f,lv,rfl,rfl,hI⟩:=hrel
    clear q2
    obtain⟨m,hmm⟩:∃m,out.length=m:=⟨_,rfl⟩
    have own':=hI.own
    rw[hmm] at own'
    obtain⟨A,c,rfl,hcc,hP,_⟩:=PL.owned own' hmm.symm
    have I:=Lib.hid hI
    have HP:=Lib.hid hP
    have HL:=Lib.hid hI.len
    have HM:=Lib.hid hmm
    clear hI hP hcc I0 own'
    cases hx:lv.data.toList with
    | nil=>
     have hlv:lv=⟨#[]⟩:=by rw[←qhho lv,hx];rfl
     subst hlv
     have hRR:R=(out,0):=by rw[I.out.eq];show qwdr kind f out []=_;exact qrvb _ _ _
     have hq:=HQ.out
     rw[hRR] at hq
     simp only[ne_eq,not_true_eq_false,if_false] at hq
     have LO:=qjco A m c out wr HP.out hmm (by have:=HL.out;omega)
     obtain⟨b,hb⟩:∃b,qwyx out=b:=⟨_,rfl⟩
     rw[hb] at hq LO
     have LO:=Lib.hid LO
     have HQ2:=Lib.hid hq
     clear hx hRR hq hb hmm
     cases b with
     | true=>
      go_wp2_with fail
      refine(LO.out).mono ?_
      rintro e w2 ⟨rfl,hb⟩
      have HB:=Lib.hid (I.out.low.trans (hb.mono I.out.low.size))
      clear hb
      go_wp2_with fail
      go_ret3
      have hq:=HQ2.out
      (try simp only[if_true] at hq)
      exact PrdP.none HB.out hq.symm
     | false=>
      go_wp2_with fail
      refine(LO.out).mono ?_
      rintro e w2 ⟨rfl,hb⟩
      have HB:=Lib.hid (I.out.low.trans (hb.mono I.out.low.size))
      have OW:=Lib.hid (qzd3 I.out.own hb)
      clear hb
      go_wp2_with fail
      go_ret3
      have hq:=HQ2.out
      (try simp only[Bool.false_eq_true,if_false] at hq)
      rw[HT.out] at hq
      subst hq
      refine⟨HB.out,I.out.ok,HL.out,_,rfl,?_⟩
      exact OW.out
    | cons x r=>
     have hls:lv.size=r.length+1:=by rw[q4ad,hx,List.length_cons]
     have h0:0 < lv.size:=by omega
     have hlx:lv[0]'h0=x:=by
      have e:lv.data.toList[0]? = some (lv[0]'h0):=by rw[List.getElem?_eq_getElem (by rw[←q4ad];exact h0)];rfl
      rw[hx] at e
      exact(Option.some.inj e).symm
     obtain⟨xn,hxn⟩:∃xn,x.toNat=xn:=⟨_,rfl⟩
     have hxx:(((lv[0]'h0).toNat:Nat):Int)=((xn:Nat):Int):=by rw[hlx,hxn]
     have hxl:=x.toNat_lt
     have wx:IntKind.i64.wrap ((xn:Nat):Int)=((xn:Nat):Int):=by simp only[IntKind.wrap_i64];omega
     have k1:(lv.toList==[])=false:=by rw[qrze,hx];rfl
     have k2:lv.toList.isEmpty=false:=by rw[qrze,hx];rfl
     have g0:(0:Int) < (lv.size:Int):=by omega
     have e0:¬lv=ByteArray.empty:=fun e=>by rw[e] at h0;exact absurd h0 (by decide)
     have MY:=q9my kind xn
     have hsz7:lv.size≤70000:=by have:=I.out.sz;omega
     obtain⟨M,hM⟩:∃M,mayP kind xn=M:=⟨_,rfl⟩
     rw[hM] at MY
     have MY:=Lib.hid MY
     have HX:=Lib.hid hx
     have HXN:=Lib.hid hxn
     cases M with
     | false=>
      have hRR:R=([],9):=I.out.end (V:=9) hx (by unfold qzyg;rw[hxn,if_pos hM];rfl) (by decide)
      have hq:=HQ.out
      rw[hRR] at hq
      simp only[ne_eq,show ¬(9:Nat)=0 by decide,not_false_eq_true,if_true] at hq
      have HQ2:=Lib.hid hq
      clear hRR hq hx hls hlx hxn hxl hsz7 hM hmm
      go_wp2_with fail
      refine(MY.out _).mono ?_
      rintro e w2 ⟨rfl,hb⟩
      have HB:=Lib.hid (I.out.low.trans (hb.mono I.out.low.size))
      clear hb
      go_wp2_with fail
      go_ret3
      exact PrdP.none HB.out HQ2.out.symm
     | true=>
      have row:=qznl hM
      have NX:=Lib.hid (fun W=>qvny lv x r hx hsz7 (by rw[hxn];exact row.1) (by rw[hxn];exact row.2.1) W)
      have HMM:=Lib.hid hM
      have HLS:=Lib.hid hls
      clear hx hls hlx hxn hxl hsz7 hM hmm row
      go_wp2_with fail
      refine(MY.out _).mono ?_
      rintro e w2 ⟨rfl,hb⟩
      have HB:=Lib.hid (I.out.low.trans (hb.mono I.out.low.size))
      have OW:=Lib.hid (qzd3 I.out.own hb)
      have HWW:=Lib.hid hb
      clear hb k1 k2
      go_wp2_with fail
      refine(NX.out _).mono ?_
      rintro e w3 ⟨p,n',E,rfl,hb,hE,hok⟩
      have HB:=Lib.hid (HB.out.trans (hb.mono HB.out.size))
      have OW:=Lib.hid (qzd3 OW.out hb)
      have HWW:=Lib.hid (HWW.out.trans (hb.mono HWW.out.size))
      have W3S:=Lib.hid HWW.out.size
      have HE:=Lib.hid hE
      have HO:=Lib.hid hok
      clear hb hE hok NX g0 e0 wx hxx
      unfold qbhk
      by_cases z0:E=0
      ·subst z0
       obtain⟨hp1,hp2,hp3⟩:=HO.out rfl
       have hid:p.id=(xn:Int):=by rw[hp1,HXN.out];exact qdd2 _ _
       have ok:PrOk p:=by rw[hp1,HXN.out];exact qqjl xn (by rw[←HXN.out];exact x.toNat_lt) r
       obtain⟨kk,hkk⟩:∃kk,1+(qij7 x.toNat r).2.1=kk:=⟨_,rfl⟩
       rw[hkk] at hp2
       subst hp2
       have hst:qzyg kind out x r=qx3j kind out p:=by
        unfold qzyg
        rw[hp1,HXN.out,if_neg (by rw[HMM.out];decide),if_neg (by rw[←HXN.out,←HE.out];decide)]
       obtain⟨C,hC⟩:∃C,qr4y kind p=C:=⟨_,rfl⟩
       have CK:=fun W=>q9ay kind p W (by
        have h1:=(q3gm r).2
        have:=(qqjl xn (by rw[←HXN.out];exact x.toNat_lt) r)
        have h2:p.text.length≤70000:=by rw[hp1,HXN.out];exact qx1z xn r
        omega)
       rw[hC] at CK
       unfold qbhk at CK
       have CK:=Lib.hid CK
       have HST:=Lib.hid hst
       have OKP:=Lib.hid ok
       have HID:=Lib.hid hid
       have HP1:=Lib.hid hp1
       have HP3:=Lib.hid hp3
       have HKK:=Lib.hid hkk
       have HC:=Lib.hid hC
       have PB:=Lib.hid (heap_alloc_new w3 (.cells #[.int .i64 p.id,.int .u32 p.n,.string (bs p.text),.string (bs p.value)] 25))
       have HB:=Lib.hid (HB.out.alloc HB.out.size (.cells #[.int .i64 p.id,.int .u32 p.n,.string (bs p.text),.string (bs p.value)] 25))
       have OW:=Lib.hid (OW.out.alloc (.cells #[.int .i64 p.id,.int .u32 p.n,.string (bs p.text),.string (bs p.value)] 25))
       have HWW:=Lib.hid (HWW.out.alloc HWW.out.size (.cells #[.int .i64 p.id,.int .u32 p.n,.string (bs p.text),.string (bs p.value)] 25))
       clear hp1 hp3 hid ok hkk hst hC HO
       by_cases c0':C=0
       ·subst c0'
        obtain⟨b,hb⟩:∃b,qxv1 kind out p.id=b:=⟨_,rfl⟩
        have TW:=Lib.hid (fun W (h:Below wr.heap.size wr W)=>qdfs kind A m c out p.id W (HP.out.below h) HM.out (by have:=HL.out;rw[HM.out] at this;omega))
        rw[hb] at TW
        have HTW:=Lib.hid hb
        clear hb
        go_wp2_with fail
        refine(CK.out _).mono ?_
        rintro e w4 ⟨rfl,hb⟩
        have HB:=Lib.hid (HB.out.trans (hb.mono HB.out.size))
        have OW:=Lib.hid (qzd3 OW.out hb)
        have PB:=Lib.hid ((hb.block _ (lt_of_block PB.out)).trans PB.out)
        have HW:=Lib.hid (HWW.out.trans (hb.mono HWW.out.size))
        clear hb
        have d0:=cell_of_row _ w3.heap.size 0 _ _ _ PB.out
        go_wp2_with fail
        refine(TW.out _ HW.out).mono ?_
        rintro e w5 ⟨rfl,hb⟩
        have HB:=Lib.hid (HB.out.trans (hb.mono HB.out.size))
        have OW:=Lib.hid (qzd3 OW.out hb)
        have PB:=Lib.hid ((hb.block _ (lt_of_block PB.out)).trans PB.out)
        clear hb d0
        have TC:qx3j kind out p=if b=true then 9 else 0:=by
         unfold qx3j
         rw[HC.out,if_neg (by simp),HTW.out]
        have TCH:=Lib.hid TC
        clear TC
        cases b with
        | true=>
         have hRR:R=([],9):=I.out.end (V:=9) HX.out (by rw[HST.out,TCH.out];rfl) (by decide)
         have hq:=HQ.out
         rw[hRR] at hq
         simp only[ne_eq,show ¬(9:Nat)=0 by decide,not_false_eq_true,if_true] at hq
         have HQ2:=Lib.hid hq
         clear hRR hq
         go_wp2_with fail
         go_ret3
         exact PrdP.none HB.out HQ2.out.symm
        | false=>
         by_cases h1000:1000≤m
         ·have q9:(1000:Int)≤(m:Int):=by omega
          have H1:=Lib.hid h1000
          clear h1000
          have hRR:R=([],4):=I.out.end (V:=4) HX.out (by rw[HST.out,TCH.out];show(if (0:Nat)≠0 then _ else _)=4;rw[if_neg (by decide),HM.out,if_pos H1.out]) (by decide)
          have hq:=HQ.out
          rw[hRR] at hq
          simp only[ne_eq,show ¬(4:Nat)=0 by decide,not_false_eq_true,if_true] at hq
          have HQ2:=Lib.hid hq
          clear hRR hq
          go_wp2_with fail
          go_ret3
          exact PrdP.none HB.out HQ2.out.symm
         ·have q9:¬(1000:Int)≤(m:Int):=by omega
          have H1:=Lib.hid h1000
          have q7:(kk:Int)≤(lv.size:Int):=by have:=HKK.out;have:=HP3.out;have:=HLS.out;omega
          have q8:(0:Int)≤(kk:Int):=by omega
          have PA:PL (w5.alloc (.cells #[.int .i64 p.id,.int .u32 p.n,.string (bs p.text),.string (bs p.value)] 25)).drew (some ⟨w5.heap.size,0,none⟩) [p]:=PL.made w5 [p] _ _ rfl
          have OA:=Lib.hid (OW.out.alloc (.cells #[.int .i64 p.id,.int .u32 p.n,.string (bs p.text),.string (bs p.value)] 25)).drew
          have PA:=Lib.hid PA
          have BA:=Lib.hid (qnpu (HB.out.alloc HB.out.size (.cells #[.int .i64 p.id,.int .u32 p.n,.string (bs p.text),.string (bs p.value)] 25)) 1)
          have N3:=Lib.hid (show out.length+1≤3000 by rw[HM.out];omega)
          have PBK:=Lib.hid (fun W (h:Below w5.heap.size w5 W)=>(h.block _ (lt_of_block PB.out)).trans PB.out)
          have MK:=Lib.hid (fun W (h:Below w.heap.size w W) (h2:W.heap[w3.heap.size]? = some (.cells #[.int .i64 p.id,.int .u32 p.n,.string (bs p.text),.string (bs p.value)] 25 (0,0)))=>(show W.cell? ⟨w3.heap.size,0,none⟩=some (.int .i64 p.id)∧W.cell? ⟨w3.heap.size,1,none⟩=some (.int .u32 p.n)∧W.cell? ⟨w3.heap.size,2,none⟩=some (.string (bs p.text))∧W.cell? ⟨w3.heap.size,3,none⟩=some (.string (bs p.value))∧Below w.heap.size w W from
           ⟨cell_of_row _ _ _ _ _ _ h2,cell_of_row _ _ _ _ _ _ h2,cell_of_row _ _ _ _ _ _ h2,cell_of_row _ _ _ _ _ _ h2,h⟩))
          have hS:=MK.out w5.drew (qnpu HB.out 1) PB.out
          have hA0:=MK.out (w5.alloc (.cells #[.int .i64 p.id,.int .u32 p.n,.string (bs p.text),.string (bs p.value)] 25)).drew BA.out ((heap_alloc_old w5 (.cells #[.int .i64 p.id,.int .u32 p.n,.string (bs p.text),.string (bs p.value)] 25) (lt_of_block PB.out)).trans PB.out)
          have HA0:=Lib.hid hA0
          have GN:=Lib.hid (fun W (h:(w5.alloc (.cells #[.int .i64 p.id,.int .u32 p.n,.string (bs p.text),.string (bs p.value)] 25)).drew.grownBy W (Value.slice A m c).ownBlock)=>(show W.heap[w3.heap.size]? = some (.cells #[.int .i64 p.id,.int .u32 p.n,.string (bs p.text),.string (bs p.value)] 25 (0,0)) from
           (h.block w3.heap.size (by show _ < (w5.alloc _).heap.size;rw[World.size_alloc];have:=lt_of_block PB.out;omega) (fun e=>by have:=(I.out.own.lt _ e.symm).2;have:=W3S.out;omega)).trans ((heap_alloc_old w5 (.cells #[.int .i64 p.id,.int .u32 p.n,.string (bs p.text),.string (bs p.value)] 25) (lt_of_block PB.out)).trans PB.out)))
          clear hA0 h1000
          go_wp2_with fail
          go_region_held3 (fun w'=>w'.cell? ⟨w3.heap.size,0,none⟩=some (.int .i64 p.id)∧w'.cell? ⟨w3.heap.size,1,none⟩=some (.int .u32 p.n)∧w'.cell? ⟨w3.heap.size,2,none⟩=some (.string (bs p.text))∧w'.cell? ⟨w3.heap.size,3,none⟩=some (.string (bs p.value))∧Below w.heap.size w w')
           (first | exact hS | exact HA0.out)
           (first
            | (refine qqad (by rfl) _ _ (by rfl) (by rfl) (by rfl) OA.out PA.out rfl N3.out BA.out.size ?_;intro v6 w6 ho6 hb6 hg6;have hS:=MK.out _ (BA.out.trans hb6) (GN.out _ hg6)))
          rename_i hHeld
          have HB6:=Lib.hid hS.2.2.2.2
          have HO6:=Lib.hid ho6
          clear hHeld hS ho6 hb6 hg6
          go_wp2_with fail
          obtain⟨f',hF,hlt⟩:=I.out.next HX.out (by rw[HST.out,TCH.out];rfl) (by rw[HM.out];exact H1.out) HP1.out HKK.out.symm HP3.out OKP.out HO6.out HB6.out
          go_roundg (lv.extract kk lv.size).size
          case measure=>exact hlt
          case rel=>exact⟨_,f',_,rfl,rfl,hF⟩
       ·have n0:(((C:Nat):Int) != 0)=true:=by rw[bne_iff_ne];omega
        have n1:(((C:Nat):Int)==0)=false:=by rw[beq_eq_false_iff_ne];omega
        have hRR:R=([],C):=I.out.end (V:=C) HX.out (by
         have h2:qzyg kind out x r=C:=by
          rw[HST.out];unfold qx3j;rw[HC.out,if_pos c0']
         rw[h2,if_pos c0']) c0'
        have hq:=HQ.out
        rw[hRR] at hq
        simp only[ne_eq,c0',not_false_eq_true,if_true] at hq
        have HQ2:=Lib.hid hq
        clear hRR hq c0'
        go_wp2_with fail
        refine(CK.out _).mono ?_
        rintro e w4 ⟨rfl,hb⟩
        have HB:=Lib.hid (HB.out.trans (hb.mono HB.out.size))
        clear hb
        go_wp2_with fail
        go_ret3
        exact PrdP.none HB.out HQ2.out.symm
      ·have n0:(((E:Nat):Int) != 0)=true:=by rw[bne_iff_ne];omega
       have n1:(((E:Nat):Int)==0)=false:=by rw[beq_eq_false_iff_ne];omega
       have hRR:R=([],E):=I.out.end (V:=E) HX.out (by
        have h2:qzyg kind out x r=E:=by
         unfold qzyg;rw[HXN.out] at HE ⊢;rw[if_neg (by rw[HMM.out];decide),←HE.out,if_pos z0]
        rw[h2,if_pos z0]) z0
       have hq:=HQ.out
       rw[hRR] at hq
       simp only[ne_eq,z0,not_false_eq_true,if_true] at hq
       have HQ2:=Lib.hid hq
       clear hRR hq z0
       go_wp2_with fail
       go_ret3
       exact PrdP.none (HB.out.alloc HB.out.size _) HQ2.out.symm
 ·have q1:(((z:Nat):Int) != 0)=true:=by simp;exact h0
  rw[if_pos h0] at hQ2
  have HQ:=Lib.hid hQ2
  have HR:=Lib.hid RD
  clear RD hQ hQ2 f1 f2 f3 hsz hn hv hz h0 hm hk0 hk1
  go_enter Tryz.func96,Tryz.ntmps96
  go_wp2_with fail
  refine(HR.out).mono ?_
  rintro e w1 ⟨rfl,rfl⟩
  go_wp2_with fail
  go_ret3
  exact PrdP.none (Below.refl _ _) HQ.out.symm
theorem qtrv{W:World}{base n c:Nat}{A:Option Addr}{l:List Value}{t:TypeId}(h:W.ownsRow base t 4 (.slice A n c) n l):c≤9223372036854775807:=by
 rcases h.2 with ⟨e,_⟩ | ⟨g,cap,cur,e,_,_,_,hm,_⟩
 ·cases e;exact Nat.zero_le _
 ·cases e;unfold maxLen at hm;omega
section
variable{w W W':World}{cb:Nat}{s:ByteArray}{x:Cs}
theorem qlo7(v kind:Int)(hv:v=4∨v=5)(hk0:-9223372036854775808≤kind)(hk1:kind≤9223372036854775807)(hm:s.size≤2000)(h:RsAt w cb s x) :
 Calls Tryz.prog 63 #[.int .i64 v,.int .i64 kind,.pointer (some ⟨cb,0,none⟩)] w fun e w'=>(∃A c,e = .returned (.slice A (x.props v kind).1.length c)∧(x.props v kind).1.length≤c∧c≤9223372036854775807∧PL w' A (x.props v kind).1∧∀g i,A=some ⟨g,i,none⟩→w.heap.size≤g)∧RsAt w' cb s (x.props v kind).2∧w.grownBy w' (some cb):=by
 have hcb:=h.lt
 have HH:=Lib.hid h
 obtain⟨i,hi,hc,hr⟩:=h
 have hl:x.r.length=s.size - i:=by rw[←hr,List.length_drop,←q4ad]
 have h2:=hc.c2
 rcases hv with rfl | rfl
 ·have e1:x.props 4 kind=([],x):=by unfold Cs.props;rw[if_pos (.inr (by decide))]
  rw[e1]
  clear hc hr hi hl e1 h2
  go_enter Tryz.func63,Tryz.ntmps63
  go_wp2_with fail
  go_ret
  exact⟨⟨none,0,rfl,Nat.zero_le _,Nat.zero_le _,(fun e=>absurd rfl e),(fun g i e=>by cases e)⟩,HH.out,World.grownBy.refl _ _⟩
 ·by_cases he:x.e=0
  ·rw[he] at hc h2
   have RS:=qv27 hc hi
   rw[qo1z s i hi,hr] at RS
   have RD:=fun W=>qwqg kind (bs x.r) W (by rw[q5zk];omega) hk0 hk1
   rw[qkd1] at RD
   have e1:x.props 5 kind=((qflw kind x.r).1,⟨x.r.drop (qflw kind x.r).2.1,(qflw kind x.r).2.2⟩):=by unfold Cs.props;rw[if_neg (by rw[he];decide)]
   rw[e1]
   have hz:(qflw kind x.r).2.1≤x.r.length:=by
    by_cases hF:(qflw kind x.r).2.2=0
    ·exact(qugf (show qflw kind x.r=((qflw kind x.r).1,(qflw kind x.r).2.1,0) by rw[←hF])).2.1
    ·rw[qjfk hF];exact Nat.zero_le _
   unfold PrdP at RD
   obtain⟨z,hzz⟩:∃z,(qflw kind x.r).2.1=z:=⟨_,rfl⟩
   obtain⟨f,hf⟩:∃f,(qflw kind x.r).2.2=f:=⟨_,rfl⟩
   rw[hzz] at hz RD ⊢
   rw[hf] at RD ⊢
   generalize (qflw kind x.r).1=L at *
   have hw:IntKind.i64.wrap ((i:Int)+(z:Int))=((i+z:Nat):Int):=by rw[IntKind.wrap_i64];omega
   have h1:=hc.c1
   have f1:=hc.fr 1
   have f2:=hc.fr 2
   have HC:=Lib.hid hc
   have RS:=Lib.hid RS
   have RD:=Lib.hid RD
   have HR:=Lib.hid hr
   have HZ:=Lib.hid hz
   have HL:=Lib.hid hl
   have HI:=Lib.hid hi
   have CB:=Lib.hid hcb
   clear hc hr hz hl hi he hzz hf e1 hcb
   go_enter Tryz.func63,Tryz.ntmps63
   go_wp2_with fail
   refine(RS.out).mono ?_
   rintro e W ⟨rfl,n,rfl⟩
   go_wp2_with fail
   refine(RD.out _).mono ?_
   rintro e W ⟨hb,_,_,vv,rfl,ho⟩
   obtain⟨A,c,rfl,hc,hP,hg⟩:=PL.owned ho rfl
   have hcm:=qtrv ho
   have HC2:=Lib.hid ((HC.out.draws n).of_block (hb.block cb CB.out))
   have h1:W.cell? ⟨cb,1,none⟩=some (.int .i64 i):=HC2.out.c1
   have h2:W.cell? ⟨cb,2,none⟩=some (.int .i64 0):=HC2.out.c2
   have f1:=HC2.out.fr 1
   have f2:=HC2.out.fr 2
   have GB:=Lib.hid (qgju (n:=n) (q9cp hb (some cb)))
   have HP:=Lib.hid hP
   have HG:=Lib.hid hg
   have HX:=Lib.hid (And.intro hc hcm)
   clear hb ho hc hP hg hcm
   go_wp2_with fail
   go_ret
   have GK:W.grownBy ((W.setCell ⟨cb,2,none⟩ (.int .i64 f)).setCell ⟨cb,1,none⟩ (.int .i64 ((i+z:Nat):Int))) (some cb):=qo6d (q99v _ _ _ _) (q99v _ _ _ _)
   refine⟨⟨A,c,rfl,HX.out.1,HX.out.2,HP.out.grown GK (fun g j e=>by have:=HG.out g j e;have:=CB.out;intro e2;subst e2;exact absurd (HG.out g j e) (by show ¬w.heap.size≤g;omega)),HG.out⟩,⟨i+z,by have:=HI.out;have:=HZ.out;have:=HL.out;omega,(HC2.out.fail f).to (i+z),by rw[←HR.out,List.drop_drop]⟩,qo6d GB.out GK⟩
  ·have e1:x.props 5 kind=([],x):=by unfold Cs.props;rw[if_pos (.inl he)]
   rw[e1]
   have he2:(((x.e:Nat):Int)==0)=false:=by simp;omega
   have he3:(((x.e:Nat):Int) != 0)=true:=by simp;omega
   clear hc hr hi hl e1 he
   go_enter Tryz.func63,Tryz.ntmps63
   go_wp2_with fail
   go_ret
   exact⟨⟨none,0,rfl,Nat.zero_le _,Nat.zero_le _,(fun e=>absurd rfl e),(fun g i e=>by cases e)⟩,HH.out,World.grownBy.refl _ _⟩
end
theorem q7ml(kind:Int)(s:List UInt8):(qflw kind s).1.length≤1010∧(∀p∈(qflw kind s).1,p.text.length≤200000)∧(q5aq kind (qflw kind s).1).1.length≤300000010:=by
 obtain⟨h1,h2⟩:=qdz1 kind s
 refine⟨by omega,fun p hp=>by have:=(h1 p hp).2.1;omega,?_⟩
 by_cases hF:(qflw kind s).2.2=0
 ·have hv:=(qugf (show qflw kind s=((qflw kind s).1,(qflw kind s).2.1,0) by rw[←hF])).1
  have lt:=qp2i (v:=5) (kind:=kind) (l:=(qflw kind s).1) (by unfold qfk9;rw[if_pos rfl];exact hv)
  rw[qasq,if_pos rfl] at lt
  omega
 ·rw[qjfk hF]
  show(q5aq kind []).1.length≤_
  have:(q5aq kind []).1=[0]:=by
   unfold q5aq
   rw[if_neg (by show ¬(qpyu kind []≠0);simp[qpyu,q09m,qwyx,q636,hasP])]
   rfl
  rw[this];decide
section
variable{w W W':World}{cb:Nat}{s:ByteArray}{x:Cs}
theorem q9nw(h:RsAt w cb s x) :
 Calls Tryz.prog 62 #[.pointer (some ⟨cb,0,none⟩)] w fun e w'=>e = .returned (.string (bs x.r))∧RsAt w' cb s x∧w.grownBy w' (some cb):=by
 obtain⟨i,hi,hc,hr⟩:=h
 rw[←hr,←qo1z s i hi]
 refine(qv27 hc hi).mono fun e w' ⟨h1,n,h2⟩=>⟨h1,h2▸⟨i,hi,hc.draws n,hr⟩,h2▸qgju (n:=n) (World.grownBy.refl _ _)⟩
structure RrA(w:World)(cb:Nat)(s:ByteArray)(y:Cs)(W:World):Prop where
 cs:RsAt W cb s y
 g:w.grownBy W (some cb)
theorem RrA.call{y z:Cs}(h:RrA w cb s y W)(hc:RsAt W' cb s z)(hg:W.grownBy W' (some cb)):RrA w cb s z W':=⟨hc,qo6d h.g hg⟩
theorem RrA.e2{y:Cs}(h:RrA w cb s y W):W.cell? ⟨cb,2,none⟩=some (.int .i64 ((y.e:Nat):Int)):=h.cs.err
structure RlA(w:World)(A:Option Addr)(c:Nat)(L:List Pr)(W:World):Prop where
 pl:PL W A L
 cap:L.length≤c
 capm:c≤9223372036854775807
 far:∀g i,A=some ⟨g,i,none⟩→w.heap.size≤g
theorem RlA.call{A:Option Addr}{c:Nat}{L:List Pr}(h:RlA w A c L W)(hcb:cb < w.heap.size)(hg:W.grownBy W' (some cb)):RlA w A c L W':=⟨h.pl.grown hg (fun g i e=>by have:=h.far g i e;omega),h.cap,h.capm,h.far⟩
theorem qtma(v kind:Int)(hv:v=4∨v=5)(hk0:-9223372036854775808≤kind)(hk1:kind≤9223372036854775807)(hm:s.size≤2000)(h:RsAt w cb s x) :
 Calls Tryz.prog 40 #[.int .i64 v,.int .i64 kind,.pointer (some ⟨cb,0,none⟩)] w fun e w'=>(∃A c,e = .returned (.tuple #[.int .i64 ((x.rest v kind).1.1:Nat),.slice A (x.rest v kind).1.2.length c])∧RlA w A c (x.rest v kind).1.2 w')∧RrA w cb s (x.rest v kind).2 w':=by
 have hm9:s.size≤9223372036854775807:=by omega
 have CB:=Lib.hid h.lt
 have S0:Hid (RrA w cb s x w):=Lib.hid ⟨h,World.grownBy.refl _ _⟩
 have NL:∀W,RlA w none 0 [] W:=fun W=>⟨PL.nil,Nat.le_refl _,by decide,fun g i e=>by cases e⟩
 have LF:=fun(z:Cs) W (h:RrA w cb s z W)=>(q5u4 hm9 h.cs).mono fun e W' hh=>(⟨hh.1,h.call hh.2.1 hh.2.2⟩:_∧RrA w cb s z W')
 unfold Cs.rest
 by_cases hc:v≠5∨x.e≠0∨x.r=[]
 ·rw[if_pos hc]
  have NL:=Lib.hid NL
  rcases hv with rfl | rfl
  ·clear hc h LF hm hm9
   go_enter Tryz.func40,Tryz.ntmps40
   go_wp2_with fail
   go_ret2
   exact⟨⟨none,0,rfl,NL.out _⟩,S0.out⟩
  ·by_cases he:x.e=0
   ·have hr:x.r=[]:=by
     rcases hc with h | h | h
     ·exact absurd rfl h
     ·exact absurd he h
     ·exact h
    have c2:=S0.out.e2
    have L1:=LF x w S0.out
    rw[hr] at L1
    rw[he] at c2
    replace L1:=Lib.hid L1
    clear hc h LF hm hm9 he hr
    go_enter Tryz.func40,Tryz.ntmps40
    go_wp2_with fail
    refine(L1.out).mono ?_
    rintro e W1 ⟨rfl,hS⟩
    have S1:=Lib.hid hS
    clear hS c2
    go_wp2_with fail
    go_ret2
    exact⟨⟨none,0,rfl,NL.out _⟩,S1.out⟩
   ·have c2:=S0.out.e2
    obtain⟨f,hf⟩:∃f,x.e=f:=⟨_,rfl⟩
    rw[hf] at c2 he
    have q1:((f:Int)==0)=false:=by simp;omega
    have q2:((f:Int) != 0)=true:=by simp;omega
    clear hc h LF hm hm9 he hf
    go_enter Tryz.func40,Tryz.ntmps40
    go_wp2_with fail
    go_ret2
    exact⟨⟨none,0,rfl,NL.out _⟩,S0.out⟩
 ·rw[if_neg hc]
  have h5:v=5:=by
   by_cases e:v=5
   ·exact e
   ·exact absurd (.inl e) hc
  have he:x.e=0:=by
   by_cases e:x.e=0
   ·exact e
   ·exact absurd (.inr (.inl e)) hc
  have hr:x.r≠[]:=fun e=>hc (.inr (.inr e))
  subst h5
  clear hc hv
  have c2:=S0.out.e2
  rw[he] at c2
  have L1:=LF x w S0.out
  have q1:(((x.r.length:Nat):Int)==0)=false:=by
   have:=List.length_pos_iff.2 hr
   simp;omega
  generalize x.r.length=n1 at *
  have RS:=fun W (h:RrA w cb s x W)=>(q9nw h.cs).mono fun e W' hh=>(⟨hh.1,h.call hh.2.1 hh.2.2⟩:_∧RrA w cb s x W')
  have NM:=fun W (h:RrA w cb s x W)=>(qyb5 1 (by decide) hm9 h.cs).mono fun e W' hh=>(⟨hh.1,h.call hh.2.1 hh.2.2⟩:_∧RrA w cb s (x.num 1).2 W')
  obtain⟨z,hz⟩:∃z,x.num 1=z:=⟨_,rfl⟩
  obtain⟨b,t,h1,h2⟩:∃b t,x.r=b::t∧x.num 1=(b.toNat,⟨t,0⟩):=by
   obtain⟨r,e⟩:=x
   simp only at he hr
   subst he
   cases r with
   | nil=>exact absurd rfl hr
   | cons b t=>exact⟨b,t,rfl,Cs.num_one⟩
  have hb:=b.toNat_lt
  rw[h2] at NM ⊢
  simp only at NM ⊢
  obtain⟨bn,hbn⟩:∃n,b.toNat=n:=⟨_,rfl⟩
  rw[hbn] at NM hb ⊢
  have hb0:(bn:Int) < 256:=by omega
  obtain⟨X,hX⟩:∃X,x.r=X:=⟨_,rfl⟩
  rw[hX] at RS ⊢
  obtain⟨p,hp⟩:∃p,(if t=[] then([],(⟨t,0⟩:Cs)) else(Cs.mk t 0).props 5 kind)=p:=⟨_,rfl⟩
  rw[hp]
  have PP:t≠[]→∀W,RrA w cb s ⟨t,0⟩ W→Calls Tryz.prog 63 #[.int .i64 5,.int .i64 kind,.pointer (some ⟨cb,0,none⟩)] W fun e W'=>∃A c,e = .returned (.slice A p.1.length c)∧RlA w A c p.1 W'∧RrA w cb s p.2 W':=fun ht W h=>by
   rw[if_neg ht] at hp
   rw[←hp]
   exact(qlo7 5 kind (.inr rfl) hk0 hk1 hm h.cs).mono fun e W' ⟨⟨A,c,h1,h2,h3,h4,h5⟩,h6,h7⟩=>⟨A,c,h1,⟨h4,h2,h3,fun g i e=>by have:=h5 g i e;have:=h.g.size;omega⟩,h.call h6 h7⟩
  have PN:t=[]→p=([],⟨[],0⟩):=fun ht=>by rw[←hp,if_pos ht,ht]
  have PF:p.1.length≤1010∧(∀q∈p.1,q.text.length≤200000)∧(q5aq kind p.1).1.length≤300000010:=by
   rw[←hp]
   have hq:=q7ml kind t
   have hn:=q7ml kind []
   rw[qjdx] at hn
   split
   ·exact hn
   ·unfold Cs.props
    rw[if_neg (by simp)]
    exact hq
  obtain⟨L,y⟩:=p
  simp only at PP PN PF ⊢
  have SH:=fun A c W (h:RlA w A c L W) (hS:RrA w cb s y W)=>(qo8d 5 kind bn A L.length c L W (.inr rfl) (by omega) ⟨h.pl,rfl,h.cap,h.capm,PF.1,PF.2.1⟩ PF.2.2).mono fun e W' hh=>(⟨hh.1,h.call CB.out (q9cp hh.2 _),hS.call (hS.cs.below hh.2) (q9cp hh.2 _)⟩:_∧RlA w A c L W'∧RrA w cb s y W')
  have LT:=LF ⟨t,0⟩
  have LY:=fun A c W (h:RlA w A c L W∧RrA w cb s y W)=>(q5u4 hm9 h.2.cs).mono fun e W' hh=>(⟨hh.1,h.1.call CB.out hh.2.2,h.2.call hh.2.1 hh.2.2⟩:_∧RlA w A c L W'∧RrA w cb s y W')
  obtain⟨dd,hdd⟩:∃d,decide (y.e=0∧y.r=[]∧qzno 5 kind (bn:Int) L≠X)=d:=⟨_,rfl⟩
  obtain⟨Y,hY⟩:∃Y,(if y.e=0∧y.r=[]∧qzno 5 kind (bn:Int) L≠X then y.fail 5 else y)=Y:=⟨_,rfl⟩
  rw[hY]
  have hYd:(if dd=true then y.fail 5 else y)=Y:=by
   rw[←hY,←hdd]
   simp only[decide_eq_true_eq]
  have FL:=fun A c W (h:RlA w A c L W∧RrA w cb s y W)=>(qw3h 5 h.2.cs).mono fun e W' hh=>(⟨hh.1,h.1.call CB.out hh.2.2,h.2.call hh.2.1 hh.2.2⟩:_∧RlA w A c L W'∧RrA w cb s (y.fail 5) W')
  obtain⟨T,hT⟩:∃T,qzno 5 kind (bn:Int) L=T:=⟨_,rfl⟩
  rw[hT] at SH hdd
  have hTX:((bs T).toList==(bs X).toList)=decide (T=X):=by
   rw[q0c6,q0c6]
   by_cases e:T=X<;>simp[e]
  have hTX2:((bs T).toList != (bs X).toList)=decide (T≠X):=by
   rw[show((bs T).toList != (bs X).toList)=!((bs T).toList==(bs X).toList) from rfl,hTX,decide_not]
  have HDD:=Lib.hid hdd
  have HYD:=Lib.hid hYd
  have HTX:=Lib.hid (And.intro hTX hTX2)
  have NLL:=Lib.hid NL
  replace L1:=Lib.hid L1
  replace RS:=Lib.hid RS
  replace NM:=Lib.hid NM
  replace SH:=Lib.hid SH
  replace FL:=Lib.hid FL
  replace PP:=Lib.hid PP
  replace PN:=Lib.hid PN
  replace LT:=Lib.hid LT
  replace LY:=Lib.hid LY
  clear h LF hm hm9 he hr hz h1 h2 hb hbn hX hp PF hdd hY hYd hT hTX hTX2 NL hk0 hk1
  go_enter Tryz.func40,Tryz.ntmps40
  go_wp2_with fail
  refine(L1.out).mono ?_
  rintro e W1 ⟨rfl,hS⟩
  have S1:=Lib.hid hS
  clear hS L1 c2 S0
  go_wp2_with fail
  refine(RS.out _ S1.out).mono ?_
  rintro e W2 ⟨rfl,hS⟩
  have S2:=Lib.hid hS
  clear hS RS S1
  go_wp2_with fail
  refine(NM.out _ S2.out).mono ?_
  rintro e W3 ⟨rfl,hS⟩
  have S3:=Lib.hid hS
  clear hS NM S2
  go_upto_region 6 with fail
  go_cut [32] (fun s32 wx=>s32 = .bool (!t.isEmpty)∧RrA w cb s ⟨t,0⟩ wx)
  case first=>
   have LX:=LT.out _ S3.out
   cases t with
   | nil=>
    replace LX:=Lib.hid LX
    clear LT PP PN
    go_wp2_with fail
    refine(LX.out).mono ?_
    rintro e W4 ⟨rfl,hS⟩
    have S4:=Lib.hid hS
    clear hS
    go_wp2_with fail
    go_meet
    exact⟨rfl,S4.out⟩
   | cons t1 t2=>
    have hn:decide ((0:Int) < (((t1::t2).length:Nat):Int))=true:=decide_eq_true (by simp)
    obtain⟨n,hnn⟩:∃n:Int,(((t1::t2).length:Nat):Int)=n:=⟨_,rfl⟩
    rw[hnn] at LX hn
    replace LX:=Lib.hid LX
    clear LT PP PN hnn
    go_wp2_with fail
    refine(LX.out).mono ?_
    rintro e W4 ⟨rfl,hS⟩
    have S4:=Lib.hid hS
    clear hS
    go_wp2_with fail
    go_meet
    exact⟨rfl,S4.out⟩
  case rest=>
   obtain⟨rfl,hS⟩:=hcut
   have S4:=Lib.hid hS
   clear hS S3 LT
   go_upto_if 32 with fail
   go_cut [10] (fun s10 wx=>∃A c,s10 = .slice A L.length c∧RlA w A c L wx∧RrA w cb s y wx)
   case first=>
    cases t with
    | nil=>
     have e:=PN.out rfl
     simp only[Prod.mk.injEq] at e
     obtain⟨rfl,rfl⟩:=e
     clear PP PN
     go_wp2_with fail
     go_meet
     exact⟨none,0,rfl,NLL.out _,S4.out⟩
    | cons t1 t2=>
     have PX:=Lib.hid (PP.out (by simp))
     clear PP PN
     go_wp2_with fail
     refine(PX.out _ S4.out).mono ?_
     rintro e W5 ⟨A,c,rfl,hl,hS⟩
     have S5:=Lib.hid (And.intro hl hS)
     clear hl hS
     go_wp2_with fail
     go_meet
     exact⟨A,c,rfl,S5.out.1,S5.out.2⟩
   case rest=>
    obtain⟨A,c,rfl,hl,hS⟩:=hcut
    have S5:=Lib.hid hS
    have R5:=Lib.hid hl
    clear hl hS S4 PP PN NLL
    go_upto_region 8 with fail
    go_cut [55] (fun s55 wx=>s55 = .bool dd∧RlA w A c L wx∧RrA w cb s y wx)
    case first=>
     have c2:=S5.out.e2
     by_cases he:y.e=0
     ·rw[he] at c2
      have LX:=LY.out A c _ ⟨R5.out,S5.out⟩
      by_cases hr:y.r=[]
      ·have hd:=HDD.out
       rw[decide_eq_decide.2 (show(y.e=0∧y.r=[]∧T≠X)↔T≠X from⟨fun h=>h.2.2,fun h=>⟨he,hr,h⟩⟩)] at hd
       rw[hr] at LX
       have hx1:=HTX.out.1
       have hx2:=HTX.out.2
       rw[hd] at hx2
       have hx3:((bs T).toList==(bs X).toList)=!dd:=by rw[←hx2,bne,Bool.not_not]
       have HX:=Lib.hid (And.intro hx3 hx2)
       replace LX:=Lib.hid LX
       clear he hr hd hx1 hx2 hx3 LY HDD HTX
       generalize bs T=T' at *
       generalize bs X=X' at *
       go_wp2_with fail
       refine(LX.out).mono ?_
       rintro e W6 ⟨rfl,hS⟩
       have S6:=Lib.hid hS
       clear hS c2
       have SX:=Lib.hid (SH.out A c W6 S6.out.1 S6.out.2)
       have c2:=S6.out.2.e2
       have hx3:=HX.out.1
       have hx2:=HX.out.2
       go_wp2_with fail
       refine(SX.out).mono ?_
       rintro e W7 ⟨rfl,hS⟩
       have S7:=Lib.hid hS
       clear hS
       go_wp2_with fail
       go_meet
       exact⟨rfl,S7.out⟩
      ·have q3:(((y.r.length:Nat):Int)==0)=false:=by
        have:=List.length_pos_iff.2 hr
        simp;omega
       have hd:=HDD.out
       rw[decide_eq_false (fun h=>hr h.2.1)] at hd
       subst hd
       generalize y.r.length=n3 at *
       replace LX:=Lib.hid LX
       clear he hr LY HDD HTX
       go_wp2_with fail
       refine(LX.out).mono ?_
       rintro e W6 ⟨rfl,hS⟩
       have S6:=Lib.hid hS
       clear hS
       go_wp2_with fail
       go_meet
       exact⟨rfl,S6.out⟩
     ·have hd:=HDD.out
      rw[decide_eq_false (fun h=>he h.1)] at hd
      subst hd
      obtain⟨f,hf⟩:∃f,y.e=f:=⟨_,rfl⟩
      rw[hf] at c2 he
      have q3:((f:Int)==0)=false:=by simp;omega
      clear he hf LY HDD HTX
      go_wp2_with fail
      go_meet
      exact⟨rfl,R5.out,S5.out⟩
    case rest=>
     obtain⟨rfl,hl,hS⟩:=hcut
     have S6:=Lib.hid (And.intro hl hS)
     clear hl hS S5 R5 SH LY HDD HTX
     go_upto_if 55 with fail
     go_cut [] (fun wx=>RlA w A c L wx∧RrA w cb s Y wx)
     case first=>
      cases dd with
      | true=>
       have hy:=HYD.out
       rw[if_pos rfl] at hy
       have HY:=Lib.hid hy
       clear hy HYD
       go_wp2_with fail
       refine(FL.out A c _ S6.out).mono ?_
       rintro e W7 ⟨rfl,hS⟩
       have S7:=Lib.hid hS
       clear hS
       go_wp2_with fail
       go_meet
       rw[←HY.out]
       exact S7.out
      | false=>
       have hy:=HYD.out
       rw[if_neg (by decide)] at hy
       have HY:=Lib.hid hy
       clear hy HYD
       go_wp2_with fail
       go_meet
       rw[←HY.out]
       exact S6.out
     case rest=>
      have S7:=Lib.hid hcut
      clear hcut S6
      go_wp2_with fail
      go_ret2
      exact⟨⟨A,c,rfl,S7.out.1⟩,S7.out.2⟩
end
end Go.Proofs.YthhdhagenmcbeaaGreat
