/- The contract of polyglotref05.Read. Condition: at most 2,000 bytes. -/
import Derived.Deep.RegionHeld3
import Derived.Deep.LoopGhost
import Derived.Deep.DeepCutAuto
import Derived.Test.YtaahhbjnflimnaaGreatK47
import Derived.Test.YtaahhbjnflimnaaGreatK49
import Derived.Test.YtaahhbjnflimnaaGreatK35
import Derived.Test.YtaahhbjnflimnaaGreatK42
import Derived.Test.YtaahhbjnflimnaaGreatK45
import Derived.Test.YtaahhbjnflimnaaGreatK48
set_option maxRecDepth 100000
set_option maxHeartbeats 4000000
namespace Go.Proofs.YtaahhbjnflimnaaGreat
open Go.RowKit
theorem qqjl(xn:Nat)(hx:xn < 256)(r:List UInt8):PrOk (qij7 xn r).1:=by
 have hnum:∀c,c≤4→PrOk (numP xn c r).1:=fun c hc=>by
  unfold numP
  split
  ·exact⟨by show _≤(xn:Int);omega,by show(xn:Int)≤_;omega,by show 0 < 4294967296;decide,Nat.zero_le _,Nat.zero_le _⟩
  ·refine⟨by show _≤(xn:Int);omega,by show(xn:Int)≤_;omega,?_,Nat.zero_le _,Nat.zero_le _⟩
   have h1:=qn9h (r.take c)
   have h2:256^(r.take c).length≤256^4:=Nat.pow_le_pow_right (by decide) (by rw[List.length_take];omega)
   have h3:256^4=4294967296:=by decide
   show num _ < _
   omega
 have htx:∀d q,(q91e d q).1.length≤65535:=fun d q=>by
  have h:=(q3gm q).2
  rcases q7jb d q with ⟨_,h2⟩ | ⟨_,_,_,h2⟩ | ⟨_,_,h2⟩
  ·rw[h2];exact Nat.zero_le _
  ·rw[h2];exact Nat.zero_le _
  ·rw[h2];exact h
 have hz:PrOk ⟨(xn:Int),0,[],[]⟩:=⟨by show _≤(xn:Int);omega,by show(xn:Int)≤_;omega,by show 0 < 4294967296;decide,Nat.zero_le _,Nat.zero_le _⟩
 have mk:∀(n:Nat) (a b:List UInt8),n < 4294967296→a.length≤65535→b.length≤65535→PrOk ⟨(xn:Int),n,a,b⟩:=fun n a b h1 h2 h3=>⟨by show _≤(xn:Int);omega,by show(xn:Int)≤_;omega,h1,by show a.length≤_;omega,by show b.length≤_;omega⟩
 unfold qij7
 split
 ·exact hnum 1 (by decide)
 split
 ·exact hnum 2 (by decide)
 split
 ·exact hnum 4 (by decide)
 split
 ·split
  ·exact hz
  ·have:=(qips r).2.1;exact mk _ _ _ (by omega) (by decide) (by decide)
 split
 ·split
  ·exact hz
  split
  ·exact hz
  ·exact mk _ _ _ (by decide) (htx _ _) (htx _ _)
 split
 ·exact hz
 ·exact mk _ _ _ (by decide) (htx _ _) (by decide)
theorem qwhy{W:World}{v:Value}{base nA g i m c:Nat}{L M:List Pr}(ty:TypeId)(hown:W.ownsRow base 46 4 v nA (pcs L))(hM:PL W (some ⟨g,i,none⟩) M)(hm:M.length=m)(hn:nA+m≤3000)(hb:base≤W.heap.size) :
 ∃v' w',(Builtin.append_ #[22,22] ty #[v,.slice (some ⟨g,i,none⟩) m c]).run Tryz.prog W = .ok v' w'∧w'.ownsRow base 46 4 v' (nA+m) (pcs (L++M))∧Below base W w'∧W.grownBy w' v.ownBlock:=by
 obtain⟨i0,hi,hz0,hz1,hz2⟩:=info_parts qvch
 obtain⟨v',w',hr,h2,h3,_,_⟩:=run_append_own_at (P:=Tryz.prog) W base 22 ty 46 i0 (.agg #[.int .i64 0,.int .u32 0,.string .empty,.string .empty]) 4 48 Tryz.underlying22 hi hz0 hz1 hz2 rfl (by decide) v nA (pcs L) hown ⟨g,i,none⟩ m c (pcs M) (by rw[qv9d,hm]) hM.cells (qtvz M) (by simp only[maxLen];omega) (by omega) hb
 rw[←qdoo] at h2
 exact⟨v',w',hr,h2,q58f hown h3 hb,h3⟩
theorem qqad{W:World}{ops:Array Oper}{o:Oper}{a:Act}{K:Act→World→Prop}{Q:Exit→Act→World→Prop}{E:Prop}(hgd:o.guard=none)(s x:Operand)
 (ho:o.op = .call {callee := .builtin .append,args:=#[s,x],argTypes:=#[22,22]})
 {v:Value} {base nA g i m c:Nat} {L M:List Pr} (hs:a.eval s=v) (hx:a.eval x = .slice (some ⟨g,i,none⟩) m c) (hown:W.ownsRow base 46 4 v nA (pcs L)) (hM:PL W (some ⟨g,i,none⟩) M) (hm:M.length=m) (hn:nA+m≤3000) (hb:base≤W.heap.size)
 (h:∀v' w',w'.ownsRow base 46 4 v' (nA+m) (pcs (L++M))→Below base W w'→W.grownBy w' v.ownBlock→K (a.put o.dst v') w'):if Region.wanted o (yielded ops a.tmps)=true then Oper.wp Tryz.prog o a W K Q else E:=by
 have hw:Region.wanted o (yielded ops a.tmps)=true:=by simp[Region.wanted,hgd]
 rw[if_pos hw]
 obtain⟨v',w',hr,h2,h3,h4⟩:=qwhy o.type hown hM hm hn hb
 exact q2qx s x _ ho hs hx hr (h v' w' h2 h3 h4)
structure RfB(w:World)(kind:Int)(R:List Pr×Nat)(out:List Pr)(f:Nat)(lv:ByteArray)(v:Value)(W:World):Prop where
 own:W.ownsRow w.heap.size 46 4 v out.length (pcs out)
 low:Below w.heap.size w W
 len:out.length≤1000
 ok:∀p∈out,PrOk p
 eq:R=qwdr kind f out lv.data.toList
 fu:lv.size≤f
 sz:lv.size≤2000
theorem qx1z(xn:Nat)(r:List UInt8):(qij7 xn r).1.text.length≤70000:=by
 have htx:∀d q,(q91e d q).1.length≤70000:=fun d q=>by
  have h:=(q3gm q).2
  rcases q7jb d q with ⟨_,h2⟩ | ⟨_,_,_,h2⟩ | ⟨_,_,h2⟩
  ·rw[h2];exact Nat.zero_le _
  ·rw[h2];exact Nat.zero_le _
  ·rw[h2];exact Nat.le_trans h (by decide)
 have hnum:∀c,(numP xn c r).1.text.length≤70000:=fun c=>by unfold numP;split<;>exact Nat.zero_le _
 unfold qij7
 repeat' split
 all_goals first | exact hnum _ | exact Nat.zero_le _ | exact htx _ _
theorem RfB.end{w W:World}{kind:Int}{R:List Pr×Nat}{out:List Pr}{f V:Nat}{lv:ByteArray}{v:Value}{x:UInt8}{r:List UInt8}(h:RfB w kind R out f lv v W)(hx:lv.data.toList=x::r)
 (hE:(if qzyg kind out x r≠0 then qzyg kind out x r else if 1000≤out.length then 4 else 0)=V) (h0:V≠0):R=([],V):=by
 have hf:=h.fu
 rw[q4ad,hx,List.length_cons] at hf
 obtain⟨g,rfl⟩:∃g,f=g+1:=⟨f - 1,by omega⟩
 rw[h.eq,hx,q4zj]
 by_cases h1:qzyg kind out x r≠0
 ·rw[if_pos h1] at hE ⊢;rw[hE]
 ·rw[if_neg h1] at hE ⊢
  by_cases h2:1000≤out.length
  ·rw[if_pos h2] at hE ⊢;rw[hE]
  ·rw[if_neg h2] at hE;exact absurd hE.symm h0
theorem RfB.next{w W W':World}{kind:Int}{R:List Pr×Nat}{out:List Pr}{f k:Nat}{lv:ByteArray}{v v':Value}{x:UInt8}{r:List UInt8}{p:Pr}(h:RfB w kind R out f lv v W)(hx:lv.data.toList=x::r)
 (hE:qzyg kind out x r=0) (hl:¬1000≤out.length) (hp:p=(qij7 x.toNat r).1) (hk:k=1+(qij7 x.toNat r).2.1) (hkr:(qij7 x.toNat r).2.1≤r.length) (ok:PrOk p)
 (ho:W'.ownsRow w.heap.size 46 4 v' (out.length+1) (pcs (out++[p]))) (hb:Below w.heap.size w W'):∃f,RfB w kind R (out++[p]) f (lv.extract k lv.size) v' W'∧(lv.extract k lv.size).size < lv.size:=by
 have hf:=h.fu
 rw[q4ad,hx,List.length_cons] at hf
 obtain⟨g,rfl⟩:∃g,f=g+1:=⟨f - 1,by omega⟩
 have he:=h.eq
 rw[hx,q4zj,if_neg (by simp[hE]),if_neg hl] at he
 have hd:(lv.extract k lv.size).data.toList=r.drop (qij7 x.toNat r).2.1:=by
  rw[qh3u,hx,hk,Nat.add_comm,List.drop_succ_cons]
 have hs:(lv.extract k lv.size).size=r.length - (qij7 x.toNat r).2.1:=by rw[q4ad,hd,List.length_drop]
 have hlv:lv.size=r.length+1:=by rw[q4ad,hx,List.length_cons]
 refine⟨g,⟨by rw[List.length_append];exact ho,hb,by rw[List.length_append];simp;omega,?_,?_,by omega,by have:=h.sz;omega⟩,by omega⟩
 ·intro q hq
  rcases List.mem_append.1 hq with hq | hq
  ·exact h.ok q hq
  ·rw[List.mem_singleton.1 hq];exact ok
 ·rw[hd,hp];exact he
theorem qwqg(kind:Int)(s:ByteArray)(w:World)(hm:s.size≤2000)(hk0:-9223372036854775808≤kind)(hk1:kind≤9223372036854775807) :
 Calls Tryz.prog 123 #[.int .i64 kind,.string s] w (PrdP w (qflw kind s.data.toList)):=by
 have RD:=qtpo s w (by omega)
 unfold qwlf q51h at RD
 obtain⟨Q,hQ⟩:∃Q,qflw kind s.data.toList=Q:=⟨_,rfl⟩
 have hQ2:=hQ
 unfold qflw at hQ2
 rw[hQ]
 obtain⟨f1,f2,f3⟩:=qips s.data.toList
 have hsz:s.data.toList.length=s.size:=by rw[q4ad]
 obtain⟨n,hn⟩:∃n,rdN s.data.toList=n:=⟨_,rfl⟩
 obtain⟨v,hv⟩:∃n,rdV s.data.toList=n:=⟨_,rfl⟩
 obtain⟨z,hz⟩:∃n,rdE s.data.toList=n:=⟨_,rfl⟩
 rw[hn,hv,hz] at RD hQ2
 rw[hn,hv,hz] at f3
 rw[hn,hsz] at f1
 rw[hv] at f2
 rw[hsz] at hQ2
 by_cases h0:z=0
 ·subst h0
  rw[if_neg (by simp)] at hQ2
  obtain⟨y,hy⟩:∃y,s.size - n=y:=⟨_,rfl⟩
  have q1:IntKind.i64.wrap ((s.size:Int) - (n:Int))=(y:Int):=by simp only[IntKind.wrap_i64];omega
  by_cases h1:s.size < n+v
  ·rw[if_pos h1] at hQ2
   have q2:(y:Int) < (v:Int):=by omega
   have HQ:=Lib.hid hQ2
   have HR:=Lib.hid RD
   clear RD hQ hQ2 f1 f2 f3 hsz hn hv hz hy h1 hm hk0 hk1
   go_enter Tryz.func123,Tryz.ntmps123
   go_wp2_with fail
   refine(HR.out).mono ?_
   rintro e w1 ⟨rfl,rfl⟩
   go_wp2_with fail
   go_ret3
   exact PrdP.none (Below.refl _ _) HQ.out.symm
  ·rw[if_neg h1] at hQ2
   have q2:¬(y:Int) < (v:Int):=by omega
   obtain⟨t,ht⟩:∃t,n+v=t:=⟨_,rfl⟩
   have q3:IntKind.i64.wrap ((n:Int)+(v:Int))=(t:Int):=by simp only[IntKind.wrap_i64];omega
   have q4:(n:Int)≤(t:Int):=by omega
   have q5:(t:Int)≤(s.size:Int):=by omega
   have q6:(0:Int)≤(n:Int):=by omega
   have he:(s.extract n t).data.toList=(s.data.toList.drop n).take v:=by
    rw[←ht];simp[List.extract_eq_take_drop]
   have hes:(s.extract n t).size=v:=by
    rw[q4ad,he,List.length_take,List.length_drop,hsz];omega
   obtain⟨R,hR⟩:∃R,qwdr kind v [] ((s.data.toList.drop n).take v)=R:=⟨_,rfl⟩
   rw[hR] at hQ2
   have I0:RfB w kind R [] v (s.extract n t) (.slice none 0 0) w:=⟨World.ownsRow_nil _ _ _ _,Below.refl _ _,Nat.zero_le _,fun p h=>(by cases h),by rw[he];exact hR.symm,by omega,by omega⟩
   have HQ:=Lib.hid hQ2
   have HR:=Lib.hid RD
   have HT:=Lib.hid ht
   have I0:=Lib.hid I0
   have K0:=Lib.hid hk0
   have K1:=Lib.hid hk1
   clear RD hQ hQ2 f1 f2 f3 hsz hn hv hz hy h1 hm hk0 hk1 he hes ht hR
   go_enter Tryz.func123,Tryz.ntmps123
   go_wp2_with fail
   refine(HR.out).mono ?_
   rintro e w1 ⟨rfl,rfl⟩
   go_wp2_with fail
   generalize s.extract n t=lv0 at *
   have bq:decide (y < v)=false:=decide_eq_false (by omega)
   rw[bq]
   clear bq
   go_loopg [10,11] lv0.size (fun gk s10 s11 wx=>∃(out:List Pr) (f:Nat) (lv:ByteArray),gk=lv.size∧s11 = .string lv∧RfB w kind R out f lv s10 wx)
   case atStart=>exact⟨[],v,lv0,rfl,rfl,I0.out⟩
   case round=>
    obtain⟨out,f,lv,rfl,rfl,hI⟩:=hrel
    clear q2
    obtain⟨m,hmm⟩:∃m,out.length=m:=⟨_,rfl⟩
    have own':=hI.own
    rw[hmm] at own'
    obtain⟨A,c,rfl,hcc,hP,_⟩:=PL.owned own' hmm.symm
    have I:=Lib.hid hI
    have HP:=Lib.hid hP
    have HL:=Lib.hid hI.len
    have HM:=Lib.hid hmm
    clear hI hP hcc I0 own'
    cases hx:lv.data.toList with
    | nil=>
     have hlv:lv=⟨#[]⟩:=by rw[←qhho lv,hx];rfl
     subst hlv
     have hRR:R=(out,0):=by rw[I.out.eq];show qwdr kind f out []=_;exact qrvb _ _ _
     have hq:=HQ.out
     rw[hRR] at hq
     simp only[ne_eq,not_true_eq_false,if_false] at hq
     have LO:=qjco A m c out wr HP.out hmm (by have:=HL.out;omega)
     obtain⟨b,hb⟩:∃b,qwyx out=b:=⟨_,rfl⟩
     rw[hb] at hq LO
     have LO:=Lib.hid LO
     have HQ2:=Lib.hid hq
     clear hx hRR hq hb hmm
     cases b with
     | true=>
      go_wp2_with fail
      refine(LO.out).mono ?_
      rintro e w2 ⟨rfl,hb⟩
      have HB:=Lib.hid (I.out.low.trans (hb.mono I.out.low.size))
      clear hb
      go_wp2_with fail
      go_ret3
      have hq:=HQ2.out
      (try simp only[if_true] at hq)
      exact PrdP.none HB.out hq.symm
     | false=>
      go_wp2_with fail
      refine(LO.out).mono ?_
      rintro e w2 ⟨rfl,hb⟩
      have HB:=Lib.hid (I.out.low.trans (hb.mono I.out.low.size))
      have OW:=Lib.hid (qzd3 I.out.own hb)
      clear hb
      go_wp2_with fail
      go_ret3
      have hq:=HQ2.out
      (try simp only[Bool.false_eq_true,if_false] at hq)
      rw[HT.out] at hq
      subst hq
      refine⟨HB.out,I.out.ok,HL.out,_,rfl,?_⟩
      exact OW.out
    | cons x r=>
     have hls:lv.size=r.length+1:=by rw[q4ad,hx,List.length_cons]
     have h0:0 < lv.size:=by omega
     have hlx:lv[0]'h0=x:=by
      have e:lv.data.toList[0]? = some (lv[0]'h0):=by rw[List.getElem?_eq_getElem (by rw[←q4ad];exact h0)];rfl
      rw[hx] at e
      exact(Option.some.inj e).symm
     obtain⟨xn,hxn⟩:∃xn,x.toNat=xn:=⟨_,rfl⟩
     have hxx:(((lv[0]'h0).toNat:Nat):Int)=((xn:Nat):Int):=by rw[hlx,hxn]
     have hxl:=x.toNat_lt
     have wx:IntKind.i64.wrap ((xn:Nat):Int)=((xn:Nat):Int):=by simp only[IntKind.wrap_i64];omega
     have k1:(lv.toList==[])=false:=by rw[qrze,hx];rfl
     have k2:lv.toList.isEmpty=false:=by rw[qrze,hx];rfl
     have g0:(0:Int) < (lv.size:Int):=by omega
     have e0:¬lv=ByteArray.empty:=fun e=>by rw[e] at h0;exact absurd h0 (by decide)
     have MY:=q9my kind xn
     have hsz7:lv.size≤70000:=by have:=I.out.sz;omega
     obtain⟨M,hM⟩:∃M,mayP kind xn=M:=⟨_,rfl⟩
     rw[hM] at MY
     have MY:=Lib.hid MY
     have HX:=Lib.hid hx
     have HXN:=Lib.hid hxn
     cases M with
     | false=>
      have hRR:R=([],9):=I.out.end (V:=9) hx (by unfold qzyg;rw[hxn,if_pos hM];rfl) (by decide)
      have hq:=HQ.out
      rw[hRR] at hq
      simp only[ne_eq,show ¬(9:Nat)=0 by decide,not_false_eq_true,if_true] at hq
      have HQ2:=Lib.hid hq
      clear hRR hq hx hls hlx hxn hxl hsz7 hM hmm
      go_wp2_with fail
      refine(MY.out _).mono ?_
      rintro e w2 ⟨rfl,hb⟩
      have HB:=Lib.hid (I.out.low.trans (hb.mono I.out.low.size))
      clear hb
      go_wp2_with fail
      go_ret3
      exact PrdP.none HB.out HQ2.out.symm
     | true=>
      have row:=qznl hM
      have NX:=Lib.hid (fun W=>qvny lv x r hx hsz7 (by rw[hxn];exact row.1) (by rw[hxn];exact row.2.1) W)
      have HMM:=Lib.hid hM
      have HLS:=Lib.hid hls
      clear hx hls hlx hxn hxl hsz7 hM hmm row
      go_wp2_with fail
      refine(MY.out _).mono ?_
      rintro e w2 ⟨rfl,hb⟩
      have HB:=Lib.hid (I.out.low.trans (hb.mono I.out.low.size))
      have OW:=Lib.hid (qzd3 I.out.own hb)
      have HWW:=Lib.hid hb
      clear hb k1 k2
      go_wp2_with fail
      refine(NX.out _).mono ?_
      rintro e w3 ⟨p,n',E,rfl,hb,hE,hok⟩
      have HB:=Lib.hid (HB.out.trans (hb.mono HB.out.size))
      have OW:=Lib.hid (qzd3 OW.out hb)
      have HWW:=Lib.hid (HWW.out.trans (hb.mono HWW.out.size))
      have W3S:=Lib.hid HWW.out.size
      have HE:=Lib.hid hE
      have HO:=Lib.hid hok
      clear hb hE hok NX g0 e0 wx hxx
      unfold qbhk
      by_cases z0:E=0
      ·subst z0
       obtain⟨hp1,hp2,hp3⟩:=HO.out rfl
       have hid:p.id=(xn:Int):=by rw[hp1,HXN.out];exact qdd2 _ _
       have ok:PrOk p:=by rw[hp1,HXN.out];exact qqjl xn (by rw[←HXN.out];exact x.toNat_lt) r
       obtain⟨kk,hkk⟩:∃kk,1+(qij7 x.toNat r).2.1=kk:=⟨_,rfl⟩
       rw[hkk] at hp2
       subst hp2
       have hst:qzyg kind out x r=qx3j kind out p:=by
        unfold qzyg
        rw[hp1,HXN.out,if_neg (by rw[HMM.out];decide),if_neg (by rw[←HXN.out,←HE.out];decide)]
       obtain⟨C,hC⟩:∃C,qr4y kind p=C:=⟨_,rfl⟩
       have CK:=fun W=>q9ay kind p W (by
        have h1:=(q3gm r).2
        have:=(qqjl xn (by rw[←HXN.out];exact x.toNat_lt) r)
        have h2:p.text.length≤70000:=by rw[hp1,HXN.out];exact qx1z xn r
        omega)
       rw[hC] at CK
       unfold qbhk at CK
       have CK:=Lib.hid CK
       have HST:=Lib.hid hst
       have OKP:=Lib.hid ok
       have HID:=Lib.hid hid
       have HP1:=Lib.hid hp1
       have HP3:=Lib.hid hp3
       have HKK:=Lib.hid hkk
       have HC:=Lib.hid hC
       have PB:=Lib.hid (heap_alloc_new w3 (.cells #[.int .i64 p.id,.int .u32 p.n,.string (bs p.text),.string (bs p.value)] 46))
       have HB:=Lib.hid (HB.out.alloc HB.out.size (.cells #[.int .i64 p.id,.int .u32 p.n,.string (bs p.text),.string (bs p.value)] 46))
       have OW:=Lib.hid (OW.out.alloc (.cells #[.int .i64 p.id,.int .u32 p.n,.string (bs p.text),.string (bs p.value)] 46))
       have HWW:=Lib.hid (HWW.out.alloc HWW.out.size (.cells #[.int .i64 p.id,.int .u32 p.n,.string (bs p.text),.string (bs p.value)] 46))
       clear hp1 hp3 hid ok hkk hst hC HO
       by_cases c0':C=0
       ·subst c0'
        obtain⟨b,hb⟩:∃b,qxv1 kind out p.id=b:=⟨_,rfl⟩
        have TW:=Lib.hid (fun W (h:Below wr.heap.size wr W)=>qdfs kind A m c out p.id W (HP.out.below h) HM.out (by have:=HL.out;rw[HM.out] at this;omega))
        rw[hb] at TW
        have HTW:=Lib.hid hb
        clear hb
        go_wp2_with fail
        refine(CK.out _).mono ?_
        rintro e w4 ⟨rfl,hb⟩
        have HB:=Lib.hid (HB.out.trans (hb.mono HB.out.size))
        have OW:=Lib.hid (qzd3 OW.out hb)
        have PB:=Lib.hid ((hb.block _ (lt_of_block PB.out)).trans PB.out)
        have HW:=Lib.hid (HWW.out.trans (hb.mono HWW.out.size))
        clear hb
        have d0:=cell_of_row _ w3.heap.size 0 _ _ _ PB.out
        go_wp2_with fail
        refine(TW.out _ HW.out).mono ?_
        rintro e w5 ⟨rfl,hb⟩
        have HB:=Lib.hid (HB.out.trans (hb.mono HB.out.size))
        have OW:=Lib.hid (qzd3 OW.out hb)
        have PB:=Lib.hid ((hb.block _ (lt_of_block PB.out)).trans PB.out)
        clear hb d0
        have TC:qx3j kind out p=if b=true then 9 else 0:=by
         unfold qx3j
         rw[HC.out,if_neg (by simp),HTW.out]
        have TCH:=Lib.hid TC
        clear TC
        cases b with
        | true=>
         have hRR:R=([],9):=I.out.end (V:=9) HX.out (by rw[HST.out,TCH.out];rfl) (by decide)
         have hq:=HQ.out
         rw[hRR] at hq
         simp only[ne_eq,show ¬(9:Nat)=0 by decide,not_false_eq_true,if_true] at hq
         have HQ2:=Lib.hid hq
         clear hRR hq
         go_wp2_with fail
         go_ret3
         exact PrdP.none HB.out HQ2.out.symm
        | false=>
         by_cases h1000:1000≤m
         ·have q9:(1000:Int)≤(m:Int):=by omega
          have H1:=Lib.hid h1000
          clear h1000
          have hRR:R=([],4):=I.out.end (V:=4) HX.out (by rw[HST.out,TCH.out];show(if (0:Nat)≠0 then _ else _)=4;rw[if_neg (by decide),HM.out,if_pos H1.out]) (by decide)
          have hq:=HQ.out
          rw[hRR] at hq
          simp only[ne_eq,show ¬(4:Nat)=0 by decide,not_false_eq_true,if_true] at hq
          have HQ2:=Lib.hid hq
          clear hRR hq
          go_wp2_with fail
          go_ret3
          exact PrdP.none HB.out HQ2.out.symm
         ·have q9:¬(1000:Int)≤(m:Int):=by omega
          have H1:=Lib.hid h1000
          have q7:(kk:Int)≤(lv.size:Int):=by have:=HKK.out;have:=HP3.out;have:=HLS.out;omega
          have q8:(0:Int)≤(kk:Int):=by omega
          have PA:PL (w5.alloc (.cells #[.int .i64 p.id,.int .u32 p.n,.string (bs p.text),.string (bs p.value)] 46)).drew (some ⟨w5.heap.size,0,none⟩) [p]:=PL.made w5 [p] _ _ rfl
          have OA:=Lib.hid (OW.out.alloc (.cells #[.int .i64 p.id,.int .u32 p.n,.string (bs p.text),.string (bs p.value)] 46)).drew
          have PA:=Lib.hid PA
          have BA:=Lib.hid (qnpu (HB.out.alloc HB.out.size (.cells #[.int .i64 p.id,.int .u32 p.n,.string (bs p.text),.string (bs p.value)] 46)) 1)
          have N3:=Lib.hid (show out.length+1≤3000 by rw[HM.out];omega)
          have PBK:=Lib.hid (fun W (h:Below w5.heap.size w5 W)=>(h.block _ (lt_of_block PB.out)).trans PB.out)
          have MK:=Lib.hid (fun W (h:Below w.heap.size w W) (h2:W.heap[w3.heap.size]? = some (.cells #[.int .i64 p.id,.int .u32 p.n,.string (bs p.text),.string (bs p.value)] 46 (0,0)))=>(show W.cell? ⟨w3.heap.size,0,none⟩=some (.int .i64 p.id)∧W.cell? ⟨w3.heap.size,1,none⟩=some (.int .u32 p.n)∧W.cell? ⟨w3.heap.size,2,none⟩=some (.string (bs p.text))∧W.cell? ⟨w3.heap.size,3,none⟩=some (.string (bs p.value))∧Below w.heap.size w W from
           ⟨cell_of_row _ _ _ _ _ _ h2,cell_of_row _ _ _ _ _ _ h2,cell_of_row _ _ _ _ _ _ h2,cell_of_row _ _ _ _ _ _ h2,h⟩))
          have hS:=MK.out w5.drew (qnpu HB.out 1) PB.out
          have hA0:=MK.out (w5.alloc (.cells #[.int .i64 p.id,.int .u32 p.n,.string (bs p.text),.string (bs p.value)] 46)).drew BA.out ((heap_alloc_old w5 (.cells #[.int .i64 p.id,.int .u32 p.n,.string (bs p.text),.string (bs p.value)] 46) (lt_of_block PB.out)).trans PB.out)
          have HA0:=Lib.hid hA0
          have GN:=Lib.hid (fun W (h:(w5.alloc (.cells #[.int .i64 p.id,.int .u32 p.n,.string (bs p.text),.string (bs p.value)] 46)).drew.grownBy W (Value.slice A m c).ownBlock)=>(show W.heap[w3.heap.size]? = some (.cells #[.int .i64 p.id,.int .u32 p.n,.string (bs p.text),.string (bs p.value)] 46 (0,0)) from
           (h.block w3.heap.size (by show _ < (w5.alloc _).heap.size;rw[World.size_alloc];have:=lt_of_block PB.out;omega) (fun e=>by have:=(I.out.own.lt _ e.symm).2;have:=W3S.out;omega)).trans ((heap_alloc_old w5 (.cells #[.int .i64 p.id,.int .u32 p.n,.string (bs p.text),.string (bs p.value)] 46) (lt_of_block PB.out)).trans PB.out)))
          clear hA0 h1000
          go_wp2_with fail
          go_region_held3 (fun w'=>w'.cell? ⟨w3.heap.size,0,none⟩=some (.int .i64 p.id)∧w'.cell? ⟨w3.heap.size,1,none⟩=some (.int .u32 p.n)∧w'.cell? ⟨w3.heap.size,2,none⟩=some (.string (bs p.text))∧w'.cell? ⟨w3.heap.size,3,none⟩=some (.string (bs p.value))∧Below w.heap.size w w')
           (first | exact hS | exact HA0.out)
           (first
            | (refine qqad (by rfl) _ _ (by rfl) (by rfl) (by rfl) OA.out PA.out rfl N3.out BA.out.size ?_;intro v6 w6 ho6 hb6 hg6;have hS:=MK.out _ (BA.out.trans hb6) (GN.out _ hg6)))
          rename_i hHeld
          have HB6:=Lib.hid hS.2.2.2.2
          have HO6:=Lib.hid ho6
          clear hHeld hS ho6 hb6 hg6
          go_wp2_with fail
          obtain⟨f',hF,hlt⟩:=I.out.next HX.out (by rw[HST.out,TCH.out];rfl) (by rw[HM.out];exact H1.out) HP1.out HKK.out.symm HP3.out OKP.out HO6.out HB6.out
          go_roundg (lv.extract kk lv.size).size
          case measure=>exact hlt
          case rel=>exact⟨_,f',_,rfl,rfl,hF⟩
       ·have n0:(((C:Nat):Int) != 0)=true:=by rw[bne_iff_ne];omega
        have n1:(((C:Nat):Int)==0)=false:=by rw[beq_eq_false_iff_ne];omega
        have hRR:R=([],C):=I.out.end (V:=C) HX.out (by
         have h2:qzyg kind out x r=C:=by
          rw[HST.out];unfold qx3j;rw[HC.out,if_pos c0']
         rw[h2,if_pos c0']) c0'
        have hq:=HQ.out
        rw[hRR] at hq
        simp only[ne_eq,c0',not_false_eq_true,if_true] at hq
        have HQ2:=Lib.hid hq
        clear hRR hq c0'
        go_wp2_with fail
        refine(CK.out _).mono ?_
        rintro e w4 ⟨rfl,hb⟩
        have HB:=Lib.hid (HB.out.trans (hb.mono HB.out.size))
        clear hb
        go_wp2_with fail
        go_ret3
        exact PrdP.none HB.out HQ2.out.symm
      ·have n0:(((E:Nat):Int) != 0)=true:=by rw[bne_iff_ne];omega
       have n1:(((E:Nat):Int)==0)=false:=by rw[beq_eq_false_iff_ne];omega
       have hRR:R=([],E):=I.out.end (V:=E) HX.out (by
        have h2:qzyg kind out x r=E:=by
         unfold qzyg;rw[HXN.out] at HE ⊢;rw[if_neg (by rw[HMM.out];decide),←HE.out,if_pos z0]
        rw[h2,if_pos z0]) z0
       have hq:=HQ.out
       rw[hRR] at hq
       simp only[ne_eq,z0,not_false_eq_true,if_true] at hq
       have HQ2:=Lib.hid hq
       clear hRR hq z0
       go_wp2_with fail
       go_ret3
       exact PrdP.none (HB.out.alloc HB.out.size _) HQ2.out.symm
 ·have q1:(((z:Nat):Int) != 0)=true:=by simp;exact h0
  rw[if_pos h0] at hQ2
  have HQ:=Lib.hid hQ2
  have HR:=Lib.hid RD
  clear RD hQ hQ2 f1 f2 f3 hsz hn hv hz h0 hm hk0 hk1
  go_enter Tryz.func123,Tryz.ntmps123
  go_wp2_with fail
  refine(HR.out).mono ?_
  rintro e w1 ⟨rfl,rfl⟩
  go_wp2_with fail
  go_ret3
  exact PrdP.none (Below.refl _ _) HQ.out.symm
theorem qtrv{W:World}{base n c:Nat}{A:Option Addr}{l:List Value}{t:TypeId}(h:W.ownsRow base t 4 (.slice A n c) n l):c≤9223372036854775807:=by
 rcases h.2 with ⟨e,_⟩ | ⟨g,cap,cur,e,_,_,_,hm,_⟩
 ·cases e;exact Nat.zero_le _
 ·cases e;unfold maxLen at hm;omega
section
variable{w W W':World}{cb:Nat}{s:ByteArray}{x:Cs}
theorem qlo7(v kind:Int)(hv:v=4∨v=5)(hk0:-9223372036854775808≤kind)(hk1:kind≤9223372036854775807)(hm:s.size≤2000)(h:RsAt w cb s x) :
 Calls Tryz.prog 60 #[.int .i64 v,.int .i64 kind,.pointer (some ⟨cb,0,none⟩)] w fun e w'=>(∃A c,e = .returned (.slice A (x.props v kind).1.length c)∧(x.props v kind).1.length≤c∧c≤9223372036854775807∧PL w' A (x.props v kind).1∧∀g i,A=some ⟨g,i,none⟩→w.heap.size≤g)∧RsAt w' cb s (x.props v kind).2∧w.grownBy w' (some cb):=by
 have hcb:=h.lt
 have HH:=Lib.hid h
 obtain⟨i,hi,hc,hr⟩:=h
 have hl:x.r.length=s.size - i:=by rw[←hr,List.length_drop,←q4ad]
 have h2:=hc.c2
 rcases hv with rfl | rfl
 ·have e1:x.props 4 kind=([],x):=by unfold Cs.props;rw[if_pos (.inr (by decide))]
  rw[e1]
  clear hc hr hi hl e1 h2
  go_enter Tryz.func60,Tryz.ntmps60
  go_wp2_with fail
  go_ret
  exact⟨⟨none,0,rfl,Nat.zero_le _,Nat.zero_le _,(fun e=>absurd rfl e),(fun g i e=>by cases e)⟩,HH.out,World.grownBy.refl _ _⟩
 ·by_cases he:x.e=0
  ·rw[he] at hc h2
   have RS:=qv27 hc hi
   rw[qo1z s i hi,hr] at RS
   have RD:=fun W=>qwqg kind (bs x.r) W (by rw[q5zk];omega) hk0 hk1
   rw[qkd1] at RD
   have e1:x.props 5 kind=((qflw kind x.r).1,⟨x.r.drop (qflw kind x.r).2.1,(qflw kind x.r).2.2⟩):=by unfold Cs.props;rw[if_neg (by rw[he];decide)]
   rw[e1]
   have hz:(qflw kind x.r).2.1≤x.r.length:=by
    by_cases hF:(qflw kind x.r).2.2=0
    ·exact(qugf (show qflw kind x.r=((qflw kind x.r).1,(qflw kind x.r).2.1,0) by rw[←hF])).2.1
    ·rw[qjfk hF];exact Nat.zero_le _
   unfold PrdP at RD
   obtain⟨z,hzz⟩:∃z,(qflw kind x.r).2.1=z:=⟨_,rfl⟩
   obtain⟨f,hf⟩:∃f,(qflw kind x.r).2.2=f:=⟨_,rfl⟩
   rw[hzz] at hz RD ⊢
   rw[hf] at RD ⊢
   generalize (qflw kind x.r).1=L at *
   have hw:IntKind.i64.wrap ((i:Int)+(z:Int))=((i+z:Nat):Int):=by rw[IntKind.wrap_i64];omega
   have h1:=hc.c1
   have f1:=hc.fr 1
   have f2:=hc.fr 2
   have HC:=Lib.hid hc
   have RS:=Lib.hid RS
   have RD:=Lib.hid RD
   have HR:=Lib.hid hr
   have HZ:=Lib.hid hz
   have HL:=Lib.hid hl
   have HI:=Lib.hid hi
   have CB:=Lib.hid hcb
   clear hc hr hz hl hi he hzz hf e1 hcb
   go_enter Tryz.func60,Tryz.ntmps60
   go_wp2_with fail
   refine(RS.out).mono ?_
   rintro e W ⟨rfl,n,rfl⟩
   go_wp2_with fail
   refine(RD.out _).mono ?_
   rintro e W ⟨hb,_,_,vv,rfl,ho⟩
   obtain⟨A,c,rfl,hc,hP,hg⟩:=PL.owned ho rfl
   have hcm:=qtrv ho
   have HC2:=Lib.hid ((HC.out.draws n).of_block (hb.block cb CB.out))
   have h1:W.cell? ⟨cb,1,none⟩=some (.int .i64 i):=HC2.out.c1
   have h2:W.cell? ⟨cb,2,none⟩=some (.int .i64 0):=HC2.out.c2
   have f1:=HC2.out.fr 1
   have f2:=HC2.out.fr 2
   have GB:=Lib.hid (qgju (n:=n) (q9cp hb (some cb)))
   have HP:=Lib.hid hP
   have HG:=Lib.hid hg
   have HX:=Lib.hid (And.intro hc hcm)
   clear hb ho hc hP hg hcm
   go_wp2_with fail
   go_ret
   have GK:W.grownBy ((W.setCell ⟨cb,2,none⟩ (.int .i64 f)).setCell ⟨cb,1,none⟩ (.int .i64 ((i+z:Nat):Int))) (some cb):=qo6d (q99v _ _ _ _) (q99v _ _ _ _)
   refine⟨⟨A,c,rfl,HX.out.1,HX.out.2,HP.out.grown GK (fun g j e=>by have:=HG.out g j e;have:=CB.out;intro e2;subst e2;exact absurd (HG.out g j e) (by show ¬w.heap.size≤g;omega)),HG.out⟩,⟨i+z,by have:=HI.out;have:=HZ.out;have:=HL.out;omega,(HC2.out.fail f).to (i+z),by rw[←HR.out,List.drop_drop]⟩,qo6d GB.out GK⟩
  ·have e1:x.props 5 kind=([],x):=by unfold Cs.props;rw[if_pos (.inl he)]
   rw[e1]
   have he2:(((x.e:Nat):Int)==0)=false:=by simp;omega
   have he3:(((x.e:Nat):Int) != 0)=true:=by simp;omega
   clear hc hr hi hl e1 he
   go_enter Tryz.func60,Tryz.ntmps60
   go_wp2_with fail
   go_ret
   exact⟨⟨none,0,rfl,Nat.zero_le _,Nat.zero_le _,(fun e=>absurd rfl e),(fun g i e=>by cases e)⟩,HH.out,World.grownBy.refl _ _⟩
end
structure RcS(w:World)(cb:Nat)(s:ByteArray)(P:Pk)(a:Ad)(y:Cs)(W:World):Prop where
 gr:w.grownBy W (some cb)
 res:W.heap[w.heap.size]? = some (.cells pkZ 28 (0,0))
 pk:W.heap[w.heap.size+1]? = some (.cells (pkC P a) 28 (0,0))
 cs:RsAt W cb s y
 ps:PL W a.ps P.props
 ws:PL W a.w P.wProps
 pf:∀g i,a.ps=some ⟨g,i,none⟩→w.heap.size+1 < g
 wf:∀g i,a.w=some ⟨g,i,none⟩→w.heap.size+1 < g
section
variable{w W W':World}{cb:Nat}{s:ByteArray}{P:Pk}{a:Ad}{y z:Cs}
theorem RcS.cell(h:RcS w cb s P a y W)(j:Nat):W.cell? ⟨w.heap.size+1,j,none⟩=(pkC P a)[j]? := cell_of_row _ _ j _ _ _ h.pk
theorem RcS.fr(h:RcS w cb s P a y W)(j:Nat):W.frozen? ⟨w.heap.size+1,j,none⟩=false:=frozen_of_row _ _ _ _ _ h.pk
theorem RcS.call(h:RcS w cb s P a y W)(hcb:cb < w.heap.size)(hg:W.grownBy W' (some cb))(hy:RsAt W' cb s z):RcS w cb s P a z W':=
 ⟨qo6d h.gr hg,(hg.block _ (lt_of_block h.res) (by intro e;cases e;omega)).trans h.res,(hg.block _ (lt_of_block h.pk) (by intro e;cases e;omega)).trans h.pk,hy,
  h.ps.grown hg (fun g i e=>by have:=h.pf g i e;omega),h.ws.grown hg (fun g i e=>by have:=h.wf g i e;omega),h.pf,h.wf⟩
theorem RcS.below(h:RcS w cb s P a y W)(hcb:cb < w.heap.size)(hb:Below W.heap.size W W'):RcS w cb s P a y W':=h.call hcb (q9cp hb _) (h.cs.below hb)
theorem RcS.grown(h:RcS w cb s P a y W)(j:Nat)(u:Value):w.grownBy (W.setCell ⟨w.heap.size+1,j,none⟩ u) (some cb):=by
 have k:=q99v W (w.heap.size+1) j u
 exact⟨k.os.trans h.gr.os,k.tape.trans h.gr.tape,k.output.trans h.gr.output,Nat.le_trans h.gr.size k.size,fun i hi hne=>(k.block i (Nat.lt_of_lt_of_le hi h.gr.size) (by intro e;cases e;omega)).trans (h.gr.block i hi hne)⟩
theorem RcS.put(h:RcS w cb s P a y W)(hcb:cb < w.heap.size)(j:Nat)(u:Value){P':Pk}{a':Ad}(he:(pkC P a).setIfInBounds j u=pkC P' a')(hp:PL W a'.ps P'.props)(hw:PL W a'.w P'.wProps)
 (hpf:∀g i,a'.ps=some ⟨g,i,none⟩→w.heap.size+1 < g) (hwf:∀g i,a'.w=some ⟨g,i,none⟩→w.heap.size+1 < g):RcS w cb s P' a' y (W.setCell ⟨w.heap.size+1,j,none⟩ u):=by
 have k:=q99v W (w.heap.size+1) j u
 refine⟨h.grown j u,(heap_setCell_other W ⟨w.heap.size+1,j,none⟩ _ u (by show w.heap.size≠w.heap.size+1;omega)).trans h.res,?_,h.cs.of_block (heap_setCell_other W ⟨w.heap.size+1,j,none⟩ _ u (by show cb≠w.heap.size+1;omega)),hp.grown k (fun g i e=>by have:=hpf g i e;omega),hw.grown k (fun g i e=>by have:=hwf g i e;omega),hpf,hwf⟩
 have:=qlvy h.pk j u
 rw[he] at this
 exact this
theorem RcS.set(h:RcS w cb s P a y W)(hcb:cb < w.heap.size)(j:Nat)(u:Value){P':Pk}(he:(pkC P a).setIfInBounds j u=pkC P' a)(hp:P'.props=P.props)(hw:P'.wProps=P.wProps):RcS w cb s P' a y (W.setCell ⟨w.heap.size+1,j,none⟩ u):=
 h.put hcb j u he (hp▸h.ps) (hw▸h.ws) h.pf h.wf
end
section
variable{w W W':World}{cb:Nat}{s:ByteArray}{x:Cs}{v:Int}
theorem RcS.made(h:RsAt w cb s x):RcS w cb s {Pk.zero with kind:=1} adZ x (((w.alloc (.cells pkZ 28)).alloc (.cells pkZ 28)).setRow (w.heap.size+1) (pkC {Pk.zero with kind:=1} adZ)):=
 ⟨qacl (qo6d (World.grownBy_alloc _ _ _) (World.grownBy_alloc _ _ _)) (by omega) _,(setRow_other _ _ _ _ (by omega)).trans (heap_alloc2_old _ _ _),setRow_heap _ _ _ _ _ _ (heap_alloc2_new _ _ _),
  ((h.below (qybm _)).below (qybm _)).of_block (setRow_other _ _ _ _ (by have:=h.lt;omega)),fun e=>absurd rfl e,fun e=>absurd rfl e,(fun g i e=>by cases e),(fun g i e=>by cases e)⟩
def qicg(w:World)(cb:Nat)(s:ByteArray)(y:Cs)(P:Pk)(e:Ending)(W:World):Prop:=
 ∃a:Ad,e = .returned (.agg (pkC P a))∧PL W a.ps P.props∧(P.props.length≤a.pc∧a.pc≤9223372036854775807)∧PL W a.w P.wProps∧(P.wProps.length≤a.wc∧a.wc≤9223372036854775807)∧(∀g i,a.ps=some ⟨g,i,none⟩→w.heap.size≤g)∧(∀g i,a.w=some ⟨g,i,none⟩→w.heap.size≤g)∧RsAt W cb s y∧w.grownBy W (some cb)
theorem RcS.ret{P:Pk}{a:Ad}(h:RcS w cb s P a x W)(hcb:cb < w.heap.size)(h1:P.props.length≤a.pc∧a.pc≤9223372036854775807)(h2:P.wProps.length≤a.wc∧a.wc≤9223372036854775807)(D:Array Value) :
 qicg w cb s x P (.returned (.agg (pkC P a))) (W.setRow w.heap.size D):=
 ⟨a,rfl,h.ps.grown (q573 W w.heap.size D) (fun g i e=>by have:=h.pf g i e;omega),h1,h.ws.grown (q573 W w.heap.size D) (fun g i e=>by have:=h.wf g i e;omega),h2,
  fun g i e=>by have:=h.pf g i e;omega,fun g i e=>by have:=h.wf g i e;omega,h.cs.of_block (setRow_other _ _ _ _ (by omega)),qacl h.gr (Nat.le_refl _) _⟩
theorem qt46(x:Cs):(if decide ((x.take 6).2.e=0∧(x.take 6).1≠enc2 q1f4) then(x.take 6).2.fail 5 else(x.take 6).2)=x.name:=by
 unfold Cs.name
 simp only[decide_eq_true_eq]
theorem q0vp(x:Cs)(v:Int):(if decide ((x.num 1).2.e=0∧((x.num 1).1:Int)≠v) then(x.num 1).2.fail 5 else(x.num 1).2)=x.vers v:=by
 unfold Cs.vers
 simp only[decide_eq_true_eq]
theorem quar(hv:v=4∨v=5)(hm:s.size≤2000)(h:RsAt w cb s x) :
 Calls Tryz.prog 57 #[.int .i64 v,.pointer (some ⟨cb,0,none⟩)] w (qicg w cb s (qnld v x).2 (qnld v x).1):=by
 have hm7:s.size≤70000:=by omega
 have hm9:s.size≤9223372036854775807:=by omega
 have S0:=Lib.hid (RcS.made h)
 have CB:=Lib.hid h.lt
 obtain⟨z,hz5⟩:∃z,(x.name.vers v).flags v=z:=⟨_,rfl⟩
 have hf:z.1 < 256:=by rw[←hz5];exact qunn _
 have hz5':=hz5
 obtain⟨f,x5⟩:=z
 obtain⟨z,hz6⟩:∃z,x5.num 2=z:=⟨_,rfl⟩
 have hk:z.1 < 65536:=by rw[←hz6];exact q0ph _ 2 (by decide)
 obtain⟨k,x6⟩:=z
 obtain⟨z,hz7⟩:∃z,x6.props v 1=z:=⟨_,rfl⟩
 obtain⟨L,x7⟩:=z
 obtain⟨z,hz8⟩:∃z,x7.text=z:=⟨_,rfl⟩
 obtain⟨ct,x8⟩:=z
 obtain⟨z,hz9⟩:∃z,x8.optP (f / 4%2==1) v 16=z:=⟨_,rfl⟩
 obtain⟨Lw,x9⟩:=z
 obtain⟨z,hz10⟩:∃z,x9.optT (f / 4%2==1)=z:=⟨_,rfl⟩
 obtain⟨wt,x10⟩:=z
 obtain⟨z,hz11⟩:∃z,x10.optB (f / 4%2==1)=z:=⟨_,rfl⟩
 obtain⟨wd,x11⟩:=z
 obtain⟨z,hz12⟩:∃z,x11.optT (f / 128%2==1)=z:=⟨_,rfl⟩
 obtain⟨us,x12⟩:=z
 obtain⟨z,hz13⟩:∃z,x12.optB (f / 64%2==1)=z:=⟨_,rfl⟩
 obtain⟨pa,x13⟩:=z
 rw[qy6q v x hz5 hz6 hz7 hz8 hz9 hz10 hz11 hz12 hz13]
 have TK:=fun W (h:RsAt W cb s x)=>qqdw 6 hm9 h
 have FN:=fun W (h:RsAt W cb s (x.take 6).2)=>qw3h 5 h
 have MT:=fun W=>q6hpk ⟨#[77,81,84,84]⟩ W (by decide)
 have hn1:=qt46 x
 generalize x.name=x2 at *
 generalize x.take 6=t6 at *
 obtain⟨T,x1⟩:=t6
 have O2:=fun W (h:RsAt W cb s x2)=>qyb5 1 (by decide) hm9 h
 have FV:=fun W (h:RsAt W cb s (x2.num 1).2)=>qw3h 5 h
 have hn2:=q0vp x2 v
 have hnv:=qunn x2
 generalize x2.vers v=x4 at *
 generalize x2.num 1=n1 at *
 obtain⟨nv,x3⟩:=n1
 have O4:=fun W (h:RsAt W cb s x4)=>qyb5 1 (by decide) hm9 h
 have FF:=fun W (h:RsAt W cb s (x4.num 1).2)=>qw3h 7 h
 obtain⟨y4,hy4⟩:∃y,x4.num 1=y:=⟨_,rfl⟩
 unfold Cs.flags at hz5
 rw[hy4] at hz5 O4 FF
 obtain⟨f',y5⟩:=y4
 obtain⟨rfl,hx5⟩:=Prod.mk.inj hz5
 simp only at hx5 O4 FF
 have WR:=fun W=>qewb v f' W hf
 have NM:=fun W (h:RsAt W cb s x5)=>qyb5 2 (by decide) hm9 h
 have PR:=fun W (h:RsAt W cb s x6)=>qlo7 v 1 hv (by decide) (by decide) hm h
 have TX:=fun W (h:RsAt W cb s x7)=>qi43 hm7 h
 rw[hz6] at NM
 rw[hz7] at PR
 rw[hz8] at TX
 have WP:=fun W (h:RsAt W cb s x8)=>qlo7 v 16 hv (by decide) (by decide) hm h
 have WT:=fun W (h:RsAt W cb s x9)=>qi43 hm7 h
 have WD:=fun W (h:RsAt W cb s x10)=>qdk6 hm7 h
 have UT:=fun W (h:RsAt W cb s x11)=>qi43 hm7 h
 have PD:=fun W (h:RsAt W cb s x12)=>qdk6 hm7 h
 simp only at hf hk ⊢ NM PR TX hn1 hn2 hnv
 have hf0:(f':Int) < 256:=by have:f' < 256:=hf;omega
 have hk1:(k:Int) < 65536:=by have:k < 65536:=hk;omega
 have hnv1:(nv:Int) < 256:=by have:nv < 256:=hnv;omega
 obtain⟨cl,hcl⟩:∃b,(f' / 2%2==1)=b:=⟨_,rfl⟩
 obtain⟨hu,hhu⟩:∃b,(f' / 128%2==1)=b:=⟨_,rfl⟩
 obtain⟨ha,hha⟩:∃b,(f' / 64%2==1)=b:=⟨_,rfl⟩
 obtain⟨hw,hhw⟩:∃b,(f' / 4%2==1)=b:=⟨_,rfl⟩
 obtain⟨re,hre⟩:∃b,(f' / 32%2==1)=b:=⟨_,rfl⟩
 obtain⟨q,hq⟩:∃q:Int,((f' / 8%4:Nat):Int)=q:=⟨_,rfl⟩
 rw[hcl,hhu,hha,hhw,hre,hq]
 rw[hhw] at hz9 hz10 hz11
 rw[hhu] at hz12
 rw[hha] at hz13
 have icl:((f':Int) / 2%2==1)=cl:=by rw[←hcl];rw[Bool.eq_iff_iff,beq_iff_eq,beq_iff_eq];omega
 have ihu:((f':Int) / 128%2==1)=hu:=by rw[←hhu];rw[Bool.eq_iff_iff,beq_iff_eq,beq_iff_eq];omega
 have iha:((f':Int) / 64%2==1)=ha:=by rw[←hha];rw[Bool.eq_iff_iff,beq_iff_eq,beq_iff_eq];omega
 have ihw:((f':Int) / 4%2==1)=hw:=by rw[←hhw];rw[Bool.eq_iff_iff,beq_iff_eq,beq_iff_eq];omega
 have ire:((f':Int) / 32%2==1)=re:=by rw[←hre];rw[Bool.eq_iff_iff,beq_iff_eq,beq_iff_eq];omega
 have iq:(f':Int) / 8%4=q:=by rw[←hq];omega
 clear hcl hhu hha hhw hre hq hz5'
 obtain⟨D,hD⟩:∃D,pkC {Pk.zero with kind:=1} adZ=D:=⟨_,rfl⟩
 have hD1:=qwmp {Pk.zero with kind:=1} adZ
 have hD2:=qmz0 {Pk.zero with kind:=1} adZ
 rw[hD] at hD1 hD2 S0
 have HD:=Lib.hid hD
 have HD1:=Lib.hid hD1
 have HD2:=Lib.hid hD2
 have HZ:=Lib.hid qbwp
 have ZO:Hid (pkZ.all (·.oneCell')=true):=Lib.hid (qmz0 Pk.zero adZ)
 have hzv:=qrai
 have hne:¬pkZ=#[]:=by intro h;have:=qbwp;rw[h] at this;cases this
 have GP:=Lib.hid (heap_alloc2_new w (.cells pkZ 28) (.cells pkZ 28))
 have HN1:=Lib.hid hn1
 have HN2:=Lib.hid hn2
 have HX5:=Lib.hid hx5
 have HY4:=Lib.hid hy4
 have TK:=Lib.hid TK
 have FN:=Lib.hid FN
 have MT:=Lib.hid MT
 have O2:=Lib.hid O2
 have FV:=Lib.hid FV
 have O4:=Lib.hid O4
 have FF:=Lib.hid FF
 have WR:=Lib.hid WR
 have NM:=Lib.hid NM
 have PR:=Lib.hid PR
 have TX:=Lib.hid TX
 have WP:=Lib.hid WP
 have WT:=Lib.hid WT
 have WD:=Lib.hid WD
 have UT:=Lib.hid UT
 have PD:=Lib.hid PD
 have Z9:=Lib.hid hz9
 have Z10:=Lib.hid hz10
 have Z11:=Lib.hid hz11
 have Z12:=Lib.hid hz12
 have Z13:=Lib.hid hz13
 have HV:=Lib.hid hv
 clear hf hk h hD hD1 hD2 hz5 hz6 hz7 hz8 hz9 hz10 hz11 hz12 hz13 hn1 hn2 hnv hx5 hy4 hm hm7 hm9 hv
 have HE:=Lib.hid (And.intro icl (And.intro ihu (And.intro iha (And.intro ihw (And.intro ire iq)))))
 clear icl ihu iha ihw ire iq
 go_enter Tryz.func57,Tryz.ntmps57
 go_upto_region 2 with (first
  | (refine wpList_buildTo rfl 28 _ rfl (some _) rfl D (by rw[←HD.out];kernel_rfl) ?_)
  | (refine wpList_store_row rfl _ _ _ rfl (w.heap.size+1) D rfl rfl 28 _ GP.out (by rw[HD1.out];exact q5nr) (by rw[HZ.out,HD1.out]) HD2.out ?_))
 generalize ((w.alloc (.cells pkZ 28)).alloc (.cells pkZ 28)).setRow (w.heap.size+1) D=W0 at *
 have S1:=Lib.hid S0.out
 clear S0 GP HD HD1 HD2
 go_wp2_with fail
 refine(TK.out _ S1.out.cs).mono ?_
 rintro e W1 ⟨rfl,hc,hg⟩
 have S2:=Lib.hid (S1.out.call CB.out hg hc)
 clear hc hg S1 TK
 go_upto_region 3 with fail
 have k2:=S2.out.cs.err
 obtain⟨b,hb⟩:∃b,decide (x1.e=0∧T≠enc2 q1f4)=b:=⟨_,rfl⟩
 have HB:=Lib.hid hb
 clear hb
 go_cut [21] (fun s21 wx=>s21 = .bool b∧RcS w cb s {Pk.zero with kind:=1} adZ x1 wx)
 case first=>
  by_cases he:x1.e=0
  ·have hT:((bs T).toList==(bs (enc2 q1f4)).toList)=!b:=by
    rw[←HB.out,q0c6,q0c6,Bool.eq_iff_iff]
    simp[he]
   have MT:=MT.out
   have eM:enc2 (ByteArray.mk #[77,81,84,84]).data.toList=enc2 q1f4:=by decide
   rw[eM] at MT
   generalize bs (enc2 q1f4)=M at *
   generalize bs T=T' at *
   have MT:=Lib.hid MT
   have HTT:=Lib.hid hT
   rw[he] at k2
   clear he HB hT HN1
   go_wp2_with fail
   refine(MT.out _).mono ?_
   rintro e W2 ⟨rfl,hb⟩
   have S3:=Lib.hid (S2.out.below CB.out hb)
   have hT:=HTT.out
   clear hb S2 k2 MT
   go_wp2_with fail
   go_meet
   exact⟨by cases b<;>simp_all,S3.out⟩
  ·have HT:=Lib.hid (show false=b by rw[←HB.out,decide_eq_false (by simp[he])])
   have he2:(((x1.e:Nat):Int)==0)=false:=by simp;omega
   clear he HB HN1
   go_wp2_with fail
   go_meet
   exact⟨congrArg Value.bool HT.out,S2.out⟩
 case rest=>
  obtain⟨rfl,hS⟩:=hcut
  have S3:=Lib.hid hS
  clear hS S2 k2 MT
  go_upto_if 21 with fail
  go_cut [] (fun wx=>RcS w cb s {Pk.zero with kind:=1} adZ x2 wx)
  case first=>
   have hN:=HN1.out
   rw[HB.out] at hN
   have HN:=Lib.hid hN
   clear hN HB HN1
   cases b with
   | false=>
    have HN:Hid (x1=x2):=Lib.hid HN.out
    go_wp2_with fail
    go_meet
    rw[←HN.out];exact S3.out
   | true=>
    have HN:Hid (x1.fail 5=x2):=Lib.hid HN.out
    go_wp2_with fail
    refine(FN.out _ S3.out.cs).mono ?_
    rintro e W4 ⟨rfl,hc,hg⟩
    have S4:=Lib.hid (S3.out.call CB.out hg hc)
    clear hc hg S3
    go_wp2_with fail
    go_meet
    rw[←HN.out];exact S4.out
  case rest=>
   clear S3 HB HN1 FN
   have S4:=Lib.hid hcut
   clear hcut
   go_wp2_with fail
   refine(O2.out _ S4.out.cs).mono ?_
   rintro e W5 ⟨rfl,hc,hg⟩
   have S5:=Lib.hid (S4.out.call CB.out hg hc)
   clear hc hg S4 O2
   go_upto_region 6 with fail
   have k2:=S5.out.cs.err
   obtain⟨b,hb⟩:∃b,decide (x3.e=0∧(nv:Int)≠v)=b:=⟨_,rfl⟩
   have HB:=Lib.hid hb
   clear hb
   go_cut [36] (fun s21 wx=>s21 = .bool b∧RcS w cb s {Pk.zero with kind:=1} adZ x3 wx)
   case first=>
    have hv0:0≤v:=by rcases HV.out with rfl | rfl<;>decide
    have hv1:v < 256:=by rcases HV.out with rfl | rfl<;>decide
    by_cases he:x3.e=0
    ·have hT:((nv:Int)==v)=!b:=by
      rw[←HB.out,Bool.eq_iff_iff]
      simp[he]
     rw[he] at k2
     clear he HB HN2
     go_wp2_with fail
     go_meet
     exact⟨by cases b<;>simp_all,S5.out⟩
    ·have HT:=Lib.hid (show false=b by rw[←HB.out,decide_eq_false (by simp[he])])
     have he2:(((x3.e:Nat):Int)==0)=false:=by simp;omega
     clear he HB HN2
     go_wp2_with fail
     go_meet
     exact⟨congrArg Value.bool HT.out,S5.out⟩
   case rest=>
    obtain⟨rfl,hS⟩:=hcut
    have S6:=Lib.hid hS
    clear hS S5 k2
    go_upto_if 36 with fail
    go_cut [] (fun wx=>RcS w cb s {Pk.zero with kind:=1} adZ x4 wx)
    case first=>
     have hN:=HN2.out
     rw[HB.out] at hN
     have HN:=Lib.hid hN
     clear hN HB HN2
     cases b with
     | false=>
      have HN:Hid (x3=x4):=Lib.hid HN.out
      go_wp2_with fail
      go_meet
      rw[←HN.out];exact S6.out
     | true=>
      have HN:Hid (x3.fail 5=x4):=Lib.hid HN.out
      go_wp2_with fail
      refine(FV.out _ S6.out.cs).mono ?_
      rintro e W7 ⟨rfl,hc,hg⟩
      have S7:=Lib.hid (S6.out.call CB.out hg hc)
      clear hc hg S6
      go_wp2_with fail
      go_meet
      rw[←HN.out];exact S7.out
    case rest=>
     clear S6 HB HN2 FV
     have S7:=Lib.hid hcut
     clear hcut
     go_wp2_with fail
     refine(O4.out _ S7.out.cs).mono ?_
     rintro e W8 ⟨rfl,hc,hg⟩
     have S8:=Lib.hid (S7.out.call CB.out hg hc)
     clear hc hg S7 O4
     go_upto_region 9 with fail
     have k2:=S8.out.cs.err
     obtain⟨b,hb⟩:∃b,decide (y5.e=0∧qoy6 v f'=true)=b:=⟨_,rfl⟩
     have hX:(if b then y5.fail 7 else y5)=x5:=by
      rw[←HX5.out,←hb]
      simp only[decide_eq_true_eq]
     have HX:=Lib.hid hX
     have HB:=Lib.hid hb
     clear hb HX5 hX
     go_cut [51] (fun s21 wx=>s21 = .bool b∧RcS w cb s {Pk.zero with kind:=1} adZ y5 wx)
     case first=>
      by_cases he:y5.e=0
      ·have hT:qoy6 v f'=b:=by
        rw[←HB.out,Bool.eq_iff_iff]
        simp[he]
       have WR:=WR.out
       rw[hT] at WR
       have WR:=Lib.hid WR
       rw[he] at k2
       clear he HB HX hT
       go_wp2_with fail
       refine(WR.out _).mono ?_
       rintro e W9 ⟨rfl,rfl⟩
       go_wp2_with fail
       go_meet
       exact⟨rfl,S8.out⟩
      ·have HT:=Lib.hid (show false=b by rw[←HB.out,decide_eq_false (by simp[he])])
       have he2:(((y5.e:Nat):Int)==0)=false:=by simp;omega
       clear he HB HX
       go_wp2_with fail
       go_meet
       exact⟨congrArg Value.bool HT.out,S8.out⟩
     case rest=>
      obtain⟨rfl,hS⟩:=hcut
      have S9:=Lib.hid hS
      clear hS S8 k2 HB
      go_upto_if 51 with fail
      go_cut [] (fun wx=>RcS w cb s {Pk.zero with kind:=1} adZ x5 wx)
      case first=>
       cases b with
       | false=>
        have HN:Hid (y5=x5):=Lib.hid HX.out
        go_wp2_with fail
        go_meet
        rw[←HN.out];exact S9.out
       | true=>
        have HN:Hid (y5.fail 7=x5):=Lib.hid HX.out
        go_wp2_with fail
        refine(FF.out _ S9.out.cs).mono ?_
        rintro e W10 ⟨rfl,hc,hg⟩
        have S10:=Lib.hid (S9.out.call CB.out hg hc)
        clear hc hg S9
        go_wp2_with fail
        go_meet
        rw[←HN.out];exact S10.out
      case rest=>
       clear S9 HX FF WR HV
       have S10:=Lib.hid hcut
       clear hcut
       have icl:=HE.out.1
       have ihu:=HE.out.2.1
       have iha:=HE.out.2.2.1
       have ihw:=HE.out.2.2.2.1
       have ire:=HE.out.2.2.2.2.1
       have iq:=HE.out.2.2.2.2.2
       go_upto_region 11 with fail
       clear HE
       have SA:=Lib.hid (S10.out.set CB.out 10 (.bool hu) (P':={Pk.zero with kind:=1,hasUser:=hu}) rfl rfl rfl)
       have SB:=Lib.hid (SA.out.set CB.out 12 (.bool ha) (P':={Pk.zero with kind:=1,hasUser:=hu,hasPass:=ha}) rfl rfl rfl)
       have SC:=Lib.hid (SB.out.set CB.out 14 (.bool hw) (P':={Pk.zero with kind:=1,hasUser:=hu,hasPass:=ha,hasWill:=hw}) rfl rfl rfl)
       have SD:=Lib.hid (SC.out.set CB.out 7 (.bool cl) (P':={Pk.zero with kind:=1,hasUser:=hu,hasPass:=ha,hasWill:=hw,clean:=cl}) rfl rfl rfl)
       have n10:=S10.out.cell 10
       have f10:=S10.out.fr 10
       have n12:=SA.out.cell 12
       have f12:=SA.out.fr 12
       have n14:=SB.out.cell 14
       have f14:=SB.out.fr 14
       have n7:=SC.out.cell 7
       have f7:=SC.out.fr 7
       change _=some (Value.bool false) at n10
       change _=some (Value.bool false) at n12
       change _=some (Value.bool false) at n14
       change _=some (Value.bool false) at n7
       clear SA SB SC S10
       go_upto_region 12 with fail
       clear n10 f10 n12 f12 n14 f14 n7 f7 icl ihu iha ihw
       obtain⟨W11,hW11⟩:∃W11,(((wc.setCell ⟨w.heap.size+1,10,none⟩ (.bool hu)).setCell ⟨w.heap.size+1,12,none⟩ (.bool ha)).setCell ⟨w.heap.size+1,14,none⟩ (.bool hw)).setCell ⟨w.heap.size+1,7,none⟩ (.bool cl)=W11:=⟨_,rfl⟩
       rw[hW11] at SD ⊢
       have S11:=Lib.hid SD.out
       clear hW11 SD
       have SE:=Lib.hid (S11.out.set CB.out 18 (.bool re) (P':={Pk.zero with kind:=1,hasUser:=hu,hasPass:=ha,hasWill:=hw,clean:=cl,wRetain:=re}) rfl rfl rfl)
       have SF:=Lib.hid (SE.out.set CB.out 17 (.int .i64 q) (P':={Pk.zero with kind:=1,hasUser:=hu,hasPass:=ha,hasWill:=hw,clean:=cl,wRetain:=re,wQos:=q}) rfl rfl rfl)
       have n18:=S11.out.cell 18
       have f18:=S11.out.fr 18
       have n17:=SE.out.cell 17
       have f17:=SE.out.fr 17
       change _=some (Value.bool false) at n18
       change _=some (Value.int .i64 0) at n17
       clear SE S11
       go_upto_region 13 with fail
       clear n18 f18 n17 f17 ire iq
       obtain⟨W12,hW12⟩:∃W12,(W11.setCell ⟨w.heap.size+1,18,none⟩ (.bool re)).setCell ⟨w.heap.size+1,17,none⟩ (.int .i64 q)=W12:=⟨_,rfl⟩
       rw[hW12] at SF ⊢
       have S12:=Lib.hid SF.out
       clear hW12 SF
       go_wp2_with fail
       refine(NM.out _ S12.out.cs).mono ?_
       rintro e W13 ⟨rfl,hc,hg⟩
       have S13:=Lib.hid (S12.out.call CB.out hg hc)
       clear hc hg S12 NM
       have S14:=Lib.hid (S13.out.set CB.out 8 (.int .i64 (k:Int)) (P':={Pk.zero with kind:=1,hasUser:=hu,hasPass:=ha,hasWill:=hw,clean:=cl,wRetain:=re,wQos:=q,keep:=(k:Int)}) rfl rfl rfl)
       have n8:=S13.out.cell 8
       have f8:=S13.out.fr 8
       change _=some (Value.int .i64 0) at n8
       clear S13
       go_wp2_with fail
       clear n8 f8
       refine(PR.out _ S14.out.cs).mono ?_
       rintro e W15 ⟨⟨A,cc,rfl,hl,hlm,hP,hA⟩,hc,hg⟩
       have hBW:=lt_of_block S14.out.pk
       have S15:=Lib.hid (S14.out.call CB.out hg hc)
       have S16:=Lib.hid (S15.out.put CB.out 24 (.slice A L.length cc) (P':={Pk.zero with kind:=1,hasUser:=hu,hasPass:=ha,hasWill:=hw,clean:=cl,wRetain:=re,wQos:=q,keep:=(k:Int),props:=L}) (a':={adZ with ps:=A,pc:=cc}) rfl hP S15.out.ws (fun g i e=>Nat.lt_of_lt_of_le hBW (hA g i e)) S15.out.wf)
       have HL:=Lib.hid (And.intro hl hlm)
       have n24:=S15.out.cell 24
       have f24:=S15.out.fr 24
       change _=some (Value.slice none 0 0) at n24
       clear hc hg hP hl hlm hA hBW S14 S15 PR
       go_wp2_with fail
       clear n24 f24
       refine(TX.out _ S16.out.cs).mono ?_
       rintro e W17 ⟨rfl,hc,hg⟩
       have S17:=Lib.hid (S16.out.call CB.out hg hc)
       have S18:=Lib.hid (S17.out.set CB.out 9 (.string (bs ct)) (P':={Pk.zero with kind:=1,hasUser:=hu,hasPass:=ha,hasWill:=hw,clean:=cl,wRetain:=re,wQos:=q,keep:=(k:Int),props:=L,client:=ct}) rfl rfl rfl)
       have n9:=S17.out.cell 9
       have f9:=S17.out.fr 9
       change _=some (Value.string ⟨#[]⟩) at n9
       clear hc hg S16 S17 TX
       have k14:=S18.out.cell 14
       change _=some (Value.bool hw) at k14
       go_upto_if 97 with fail
       clear n9 f9
       generalize W17.setCell ⟨w.heap.size+1,9,none⟩ (.string (bs ct))=W18 at *
       go_cut [] (fun wx=>∃a2:Ad,(RcS w cb s {Pk.zero with kind:=1,hasUser:=hu,hasPass:=ha,hasWill:=hw,clean:=cl,wRetain:=re,wQos:=q,keep:=(k:Int),props:=L,client:=ct,wProps:=Lw,wTopic:=wt,wPayload:=wd} a2 x11 wx∧a2.pc=cc)∧Lw.length≤a2.wc∧a2.wc≤9223372036854775807)
       case first=>
        cases hw with
        | false=>
         have z9:x8.optP false v 16=(Lw,x9):=Z9.out
         have z10:x9.optT false=(wt,x10):=Z10.out
         have z11:x10.optB false=(wd,x11):=Z11.out
         obtain⟨rfl,rfl⟩:=Prod.mk.inj z9
         obtain⟨rfl,rfl⟩:=Prod.mk.inj z10
         obtain⟨rfl,rfl⟩:=Prod.mk.inj z11
         have SF:=Lib.hid S18.out
         clear S18
         go_wp2_with fail
         go_meet
         exact⟨{adZ with ps:=A,pc:=cc},⟨SF.out,rfl⟩,Nat.zero_le _,Nat.zero_le _⟩
        | true=>
         have WPx:=fun W h=>WP.out W h
         have WTx:=fun W h=>WT.out W h
         have WDx:=fun W h=>WD.out W h
         rw[show x8.props v 16=(Lw,x9) from Z9.out] at WPx
         rw[show x9.text=(wt,x10) from Z10.out] at WTx
         rw[show x10.bin=(wd,x11) from Z11.out] at WDx
         have WPx:=Lib.hid WPx
         have WTx:=Lib.hid WTx
         have WDx:=Lib.hid WDx
         clear WP WT WD UT PD
         go_wp2_with fail
         refine(WPx.out _ S18.out.cs).mono ?_
         rintro e W19 ⟨⟨A2,cc2,rfl,hl,hlm,hP,hA⟩,hc,hg⟩
         have hBW:=lt_of_block S18.out.pk
         have S19:=Lib.hid (S18.out.call CB.out hg hc)
         have S20:=Lib.hid (S19.out.put CB.out 19 (.slice A2 Lw.length cc2) (P':={Pk.zero with kind:=1,hasUser:=hu,hasPass:=ha,hasWill:=true,clean:=cl,wRetain:=re,wQos:=q,keep:=(k:Int),props:=L,client:=ct,wProps:=Lw}) (a':={adZ with ps:=A,pc:=cc,w:=A2,wc:=cc2}) rfl S19.out.ps hP S19.out.pf (fun g i e=>Nat.lt_of_lt_of_le hBW (hA g i e)))
         have HW:=Lib.hid (And.intro hl hlm)
         have n19:=S19.out.cell 19
         have f19:=S19.out.fr 19
         change _=some (Value.slice none 0 0) at n19
         clear hc hg hP hl hlm hA hBW S18 S19 k14
         go_wp2_with fail
         clear n19 f19
         refine(WTx.out _ S20.out.cs).mono ?_
         rintro e W21 ⟨rfl,hc,hg⟩
         have S21:=Lib.hid (S20.out.call CB.out hg hc)
         have S22:=Lib.hid (S21.out.set CB.out 15 (.string (bs wt)) (P':={Pk.zero with kind:=1,hasUser:=hu,hasPass:=ha,hasWill:=true,clean:=cl,wRetain:=re,wQos:=q,keep:=(k:Int),props:=L,client:=ct,wProps:=Lw,wTopic:=wt}) rfl rfl rfl)
         have n15:=S21.out.cell 15
         have f15:=S21.out.fr 15
         change _=some (Value.string ⟨#[]⟩) at n15
         clear hc hg S20 S21
         go_wp2_with fail
         clear n15 f15
         refine(WDx.out _ S22.out.cs).mono ?_
         rintro e W23 ⟨rfl,hc,hg⟩
         have S23:=Lib.hid (S22.out.call CB.out hg hc)
         have S24:=Lib.hid (S23.out.set CB.out 16 (.string (bs wd)) (P':={Pk.zero with kind:=1,hasUser:=hu,hasPass:=ha,hasWill:=true,clean:=cl,wRetain:=re,wQos:=q,keep:=(k:Int),props:=L,client:=ct,wProps:=Lw,wTopic:=wt,wPayload:=wd}) rfl rfl rfl)
         have n16:=S23.out.cell 16
         have f16:=S23.out.fr 16
         change _=some (Value.string ⟨#[]⟩) at n16
         clear hc hg S22 S23
         go_wp2_with fail
         go_meet
         exact⟨{adZ with ps:=A,pc:=cc,w:=A2,wc:=cc2},⟨S24.out,rfl⟩,HW.out.1,HW.out.2⟩
       case rest=>
        obtain⟨a2,⟨hS,ha2⟩,ha3⟩:=hcut
        have S25:=Lib.hid hS
        have HA2:=Lib.hid ha2
        have HA3:=Lib.hid ha3
        clear hS ha2 ha3 k14 S18 WP WT WD Z9 Z10 Z11
        have k10:=S25.out.cell 10
        change _=some (Value.bool hu) at k10
        go_upto_if 112 with fail
        go_cut [] (fun wx=>RcS w cb s {Pk.zero with kind:=1,hasUser:=hu,hasPass:=ha,hasWill:=hw,clean:=cl,wRetain:=re,wQos:=q,keep:=(k:Int),props:=L,client:=ct,wProps:=Lw,wTopic:=wt,wPayload:=wd,user:=us} a2 x12 wx)
        case first=>
         cases hu with
         | false=>
          have z12:x11.optT false=(us,x12):=Z12.out
          obtain⟨rfl,rfl⟩:=Prod.mk.inj z12
          have SF:=Lib.hid S25.out
          clear S25
          go_wp2_with fail
          go_meet
          exact SF.out
         | true=>
          have UTx:=fun W h=>UT.out W h
          rw[show x11.text=(us,x12) from Z12.out] at UTx
          have UTx:=Lib.hid UTx
          clear UT PD
          go_wp2_with fail
          refine(UTx.out _ S25.out.cs).mono ?_
          rintro e W26 ⟨rfl,hc,hg⟩
          have S26:=Lib.hid (S25.out.call CB.out hg hc)
          have S27:=Lib.hid (S26.out.set CB.out 11 (.string (bs us)) (P':={Pk.zero with kind:=1,hasUser:=true,hasPass:=ha,hasWill:=hw,clean:=cl,wRetain:=re,wQos:=q,keep:=(k:Int),props:=L,client:=ct,wProps:=Lw,wTopic:=wt,wPayload:=wd,user:=us}) rfl rfl rfl)
          have n11:=S26.out.cell 11
          have f11:=S26.out.fr 11
          change _=some (Value.string ⟨#[]⟩) at n11
          clear hc hg S25 S26 k10
          go_wp2_with fail
          go_meet
          exact S27.out
        case rest=>
         clear k10 S25 UT Z12
         have S27:=Lib.hid hcut
         clear hcut
         have k12:=S27.out.cell 12
         change _=some (Value.bool ha) at k12
         go_upto_if 117 with fail
         go_cut [] (fun wx=>RcS w cb s {Pk.zero with kind:=1,hasUser:=hu,hasPass:=ha,hasWill:=hw,clean:=cl,wRetain:=re,wQos:=q,keep:=(k:Int),props:=L,client:=ct,wProps:=Lw,wTopic:=wt,wPayload:=wd,user:=us,pass:=pa} a2 x13 wx)
         case first=>
          cases ha with
          | false=>
           have z13:x12.optB false=(pa,x13):=Z13.out
           obtain⟨rfl,rfl⟩:=Prod.mk.inj z13
           have SF:=Lib.hid S27.out
           clear S27
           go_wp2_with fail
           go_meet
           exact SF.out
          | true=>
           have PDx:=fun W h=>PD.out W h
           rw[show x12.bin=(pa,x13) from Z13.out] at PDx
           have PDx:=Lib.hid PDx
           clear PD
           go_wp2_with fail
           refine(PDx.out _ S27.out.cs).mono ?_
           rintro e W28 ⟨rfl,hc,hg⟩
           have S28:=Lib.hid (S27.out.call CB.out hg hc)
           have S29:=Lib.hid (S28.out.set CB.out 13 (.string (bs pa)) (P':={Pk.zero with kind:=1,hasUser:=hu,hasPass:=true,hasWill:=hw,clean:=cl,wRetain:=re,wQos:=q,keep:=(k:Int),props:=L,client:=ct,wProps:=Lw,wTopic:=wt,wPayload:=wd,user:=us,pass:=pa}) rfl rfl rfl)
           have n13:=S28.out.cell 13
           have f13:=S28.out.fr 13
           change _=some (Value.string ⟨#[]⟩) at n13
           clear hc hg S27 S28 k12
           go_wp2_with fail
           go_meet
           exact S29.out
         case rest=>
          clear k12 S27 PD Z13
          have SX:=Lib.hid hcut
          clear hcut
          have RT:=fun D=>SX.out.ret CB.out (show L.length≤a2.pc∧a2.pc≤9223372036854775807 by rw[HA2.out];exact HL.out) HA3.out D
          have G6:=SX.out.pk
          have GR:=Lib.hid SX.out.res
          have hE1:=qwmp {Pk.zero with kind:=1,hasUser:=hu,hasPass:=ha,hasWill:=hw,clean:=cl,wRetain:=re,wQos:=q,keep:=(k:Int),props:=L,client:=ct,wProps:=Lw,wTopic:=wt,wPayload:=wd,user:=us,pass:=pa} a2
          have hE2:=qmz0 {Pk.zero with kind:=1,hasUser:=hu,hasPass:=ha,hasWill:=hw,clean:=cl,wRetain:=re,wQos:=q,keep:=(k:Int),props:=L,client:=ct,wProps:=Lw,wTopic:=wt,wPayload:=wd,user:=us,pass:=pa} a2
          obtain⟨E,hE⟩:∃E,pkC {Pk.zero with kind:=1,hasUser:=hu,hasPass:=ha,hasWill:=hw,clean:=cl,wRetain:=re,wQos:=q,keep:=(k:Int),props:=L,client:=ct,wProps:=Lw,wTopic:=wt,wPayload:=wd,user:=us,pass:=pa} a2=E:=⟨_,rfl⟩
          change _=some (Obj.cells (pkC {Pk.zero with kind:=1,hasUser:=hu,hasPass:=ha,hasWill:=hw,clean:=cl,wRetain:=re,wQos:=q,keep:=(k:Int),props:=L,client:=ct,wProps:=Lw,wTopic:=wt,wPayload:=wd,user:=us,pass:=pa} a2) _ _) at G6
          have RT:=RT (pkC {Pk.zero with kind:=1,hasUser:=hu,hasPass:=ha,hasWill:=hw,clean:=cl,wRetain:=re,wQos:=q,keep:=(k:Int),props:=L,client:=ct,wProps:=Lw,wTopic:=wt,wPayload:=wd,user:=us,pass:=pa} a2)
          change qicg w cb s _ _ (.returned (.agg (pkC {Pk.zero with kind:=1,hasUser:=hu,hasPass:=ha,hasWill:=hw,clean:=cl,wRetain:=re,wQos:=q,keep:=(k:Int),props:=L,client:=ct,wProps:=Lw,wTopic:=wt,wPayload:=wd,user:=us,pass:=pa} a2))) (wc.setRow w.heap.size (pkC {Pk.zero with kind:=1,hasUser:=hu,hasPass:=ha,hasWill:=hw,clean:=cl,wRetain:=re,wQos:=q,keep:=(k:Int),props:=L,client:=ct,wProps:=Lw,wTopic:=wt,wPayload:=wd,user:=us,pass:=pa} a2)) at RT
          rw[hE] at hE1 hE2 G6 RT
          have HE1:=Lib.hid hE1
          have HE2:=Lib.hid hE2
          have G6:=Lib.hid G6
          have RT:=Lib.hid RT
          clear hE1 hE2 hE SX
          go_wp2_with (first
           | (refine wpList_load_row rfl _ _ rfl (w.heap.size+1) rfl 28 E (0,0) _ G6.out Tryz.underlying28 rfl (by rw[HE1.out];exact q5nr) ?_)
           | (refine wpList_store_row rfl _ _ _ rfl w.heap.size E rfl rfl 28 _ GR.out (by rw[HE1.out];exact q5nr) (by rw[HZ.out,HE1.out]) HE2.out ?_))
          exact q7wi (cs:=E) rfl rfl rfl Tryz.underlying28 rfl (by rw[HE1.out];exact q5nr) (setRow_heap _ _ _ _ _ _ GR.out) RT.out
end
end Go.Proofs.YtaahhbjnflimnaaGreat
