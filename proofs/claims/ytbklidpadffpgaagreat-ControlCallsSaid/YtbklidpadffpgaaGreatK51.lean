/- The contract of polyglotref05.Read. Condition: at most 2,000 bytes. -/
import Derived.Deep.RegionHeld3
import Derived.Deep.LoopGhost
import Derived.Test.YtbklidpadffpgaaGreatK47
import Derived.Test.YtbklidpadffpgaaGreatK50
import Derived.Test.YtbklidpadffpgaaGreatK35
set_option maxRecDepth 100000
set_option maxHeartbeats 4000000
namespace Go.Proofs.YtbklidpadffpgaaGreat
open Go.RowKit
theorem qqjl(xn:Nat)(hx:xn < 256)(r:List UInt8):PrOk (qij7 xn r).1:=by
 have hnum:∀c,c≤4→PrOk (numP xn c r).1:=fun c hc=>by
  unfold numP
  split
  ·exact⟨by show _≤(xn:Int);omega,by show(xn:Int)≤_;omega,by show 0 < 4294967296;decide,Nat.zero_le _,Nat.zero_le _⟩
  ·refine⟨by show _≤(xn:Int);omega,by show(xn:Int)≤_;omega,?_,Nat.zero_le _,Nat.zero_le _⟩
   have h1:=qn9h (r.take c)
   have h2:256^(r.take c).length≤256^4:=Nat.pow_le_pow_right (by decide) (by rw[List.length_take];omega)
   have h3:256^4=4294967296:=by decide
   show num _ < _
   omega
 have htx:∀d q,(q91e d q).1.length≤65535:=fun d q=>by
  have h:=(q3gm q).2
  rcases q7jb d q with ⟨_,h2⟩ | ⟨_,_,_,h2⟩ | ⟨_,_,h2⟩
  ·rw[h2];exact Nat.zero_le _
  ·rw[h2];exact Nat.zero_le _
  ·rw[h2];exact h
 have hz:PrOk ⟨(xn:Int),0,[],[]⟩:=⟨by show _≤(xn:Int);omega,by show(xn:Int)≤_;omega,by show 0 < 4294967296;decide,Nat.zero_le _,Nat.zero_le _⟩
 have mk:∀(n:Nat) (a b:List UInt8),n < 4294967296→a.length≤65535→b.length≤65535→PrOk ⟨(xn:Int),n,a,b⟩:=fun n a b h1 h2 h3=>⟨by show _≤(xn:Int);omega,by show(xn:Int)≤_;omega,h1,by show a.length≤_;omega,by show b.length≤_;omega⟩
 unfold qij7
 split
 ·exact hnum 1 (by decide)
 split
 ·exact hnum 2 (by decide)
 split
 ·exact hnum 4 (by decide)
 split
 ·split
  ·exact hz
  ·have:=(qips r).2.1;exact mk _ _ _ (by omega) (by decide) (by decide)
 split
 ·split
  ·exact hz
  split
  ·exact hz
  ·exact mk _ _ _ (by decide) (htx _ _) (htx _ _)
 split
 ·exact hz
 ·exact mk _ _ _ (by decide) (htx _ _) (by decide)
theorem qwhy{W:World}{v:Value}{base nA g i m c:Nat}{L M:List Pr}(ty:TypeId)(hown:W.ownsRow base 25 4 v nA (pcs L))(hM:PL W (some ⟨g,i,none⟩) M)(hm:M.length=m)(hn:nA+m≤3000)(hb:base≤W.heap.size) :
 ∃v' w',(Builtin.append_ #[26,26] ty #[v,.slice (some ⟨g,i,none⟩) m c]).run Tryz.prog W = .ok v' w'∧w'.ownsRow base 25 4 v' (nA+m) (pcs (L++M))∧Below base W w'∧W.grownBy w' v.ownBlock:=by
 obtain⟨i0,hi,hz0,hz1,hz2⟩:=info_parts qvch
 obtain⟨v',w',hr,h2,h3,_,_⟩:=run_append_own_at (P:=Tryz.prog) W base 26 ty 25 i0 (.agg #[.int .i64 0,.int .u32 0,.string .empty,.string .empty]) 4 48 Tryz.underlying26 hi hz0 hz1 hz2 rfl (by decide) v nA (pcs L) hown ⟨g,i,none⟩ m c (pcs M) (by rw[qv9di,hm]) hM.cells (qtvz M) (by simp only[maxLen];omega) (by omega) hb
 rw[←qdoo] at h2
 exact⟨v',w',hr,h2,q58f hown h3 hb,h3⟩
theorem qqad{W:World}{ops:Array Oper}{o:Oper}{a:Act}{K:Act→World→Prop}{Q:Exit→Act→World→Prop}{E:Prop}(hgd:o.guard=none)(s x:Operand)
 (ho:o.op = .call {callee := .builtin .append,args:=#[s,x],argTypes:=#[26,26]})
 {v:Value} {base nA g i m c:Nat} {L M:List Pr} (hs:a.eval s=v) (hx:a.eval x = .slice (some ⟨g,i,none⟩) m c) (hown:W.ownsRow base 25 4 v nA (pcs L)) (hM:PL W (some ⟨g,i,none⟩) M) (hm:M.length=m) (hn:nA+m≤3000) (hb:base≤W.heap.size)
 (h:∀v' w',w'.ownsRow base 25 4 v' (nA+m) (pcs (L++M))→Below base W w'→W.grownBy w' v.ownBlock→K (a.put o.dst v') w'):if Region.wanted o (yielded ops a.tmps)=true then Oper.wp Tryz.prog o a W K Q else E:=by
 have hw:Region.wanted o (yielded ops a.tmps)=true:=by simp[Region.wanted,hgd]
 rw[if_pos hw]
 obtain⟨v',w',hr,h2,h3,h4⟩:=qwhy o.type hown hM hm hn hb
 exact q2qx s x _ ho hs hx hr (h v' w' h2 h3 h4)
structure RfB(w:World)(kind:Int)(R:List Pr×Nat)(out:List Pr)(f:Nat)(lv:ByteArray)(v:Value)(W:World):Prop where
 own:W.ownsRow w.heap.size 25 4 v out.length (pcs out)
 low:Below w.heap.size w W
 len:out.length≤1000
 ok:∀p∈out,PrOk p
 eq:R=qwdr kind f out lv.data.toList
 fu:lv.size≤f
 sz:lv.size≤2000
theorem qx1z(xn:Nat)(r:List UInt8):(qij7 xn r).1.text.length≤70000:=by
 have htx:∀d q,(q91e d q).1.length≤70000:=fun d q=>by
  have h:=(q3gm q).2
  rcases q7jb d q with ⟨_,h2⟩ | ⟨_,_,_,h2⟩ | ⟨_,_,h2⟩
  ·rw[h2];exact Nat.zero_le _
  ·rw[h2];exact Nat.zero_le _
  ·rw[h2];exact Nat.le_trans h (by decide)
 have hnum:∀c,(numP xn c r).1.text.length≤70000:=fun c=>by unfold numP;split<;>exact Nat.zero_le _
 unfold qij7
 repeat' split
 all_goals first | exact hnum _ | exact Nat.zero_le _ | exact htx _ _
theorem RfB.end{w W:World}{kind:Int}{R:List Pr×Nat}{out:List Pr}{f V:Nat}{lv:ByteArray}{v:Value}{x:UInt8}{r:List UInt8}(h:RfB w kind R out f lv v W)(hx:lv.data.toList=x::r)
 (hE:(if qzyg kind out x r≠0 then qzyg kind out x r else if 1000≤out.length then 4 else 0)=V) (h0:V≠0):R=([],V):=by
 have hf:=h.fu
 rw[q4ad,hx,List.length_cons] at hf
 obtain⟨g,rfl⟩:∃g,f=g+1:=⟨f - 1,by omega⟩
 rw[h.eq,hx,q4zj]
 by_cases h1:qzyg kind out x r≠0
 ·rw[if_pos h1] at hE ⊢;rw[hE]
 ·rw[if_neg h1] at hE ⊢
  by_cases h2:1000≤out.length
  ·rw[if_pos h2] at hE ⊢;rw[hE]
  ·rw[if_neg h2] at hE;exact absurd hE.symm h0
theorem RfB.next{w W W':World}{kind:Int}{R:List Pr×Nat}{out:List Pr}{f k:Nat}{lv:ByteArray}{v v':Value}{x:UInt8}{r:List UInt8}{p:Pr}(h:RfB w kind R out f lv v W)(hx:lv.data.toList=x::r)
 (hE:qzyg kind out x r=0) (hl:¬1000≤out.length) (hp:p=(qij7 x.toNat r).1) (hk:k=1+(qij7 x.toNat r).2.1) (hkr:(qij7 x.toNat r).2.1≤r.length) (ok:PrOk p)
 (ho:W'.ownsRow w.heap.size 25 4 v' (out.length+1) (pcs (out++[p]))) (hb:Below w.heap.size w W'):∃f,RfB w kind R (out++[p]) f (lv.extract k lv.size) v' W'∧(lv.extract k lv.size).size < lv.size:=by
 have hf:=h.fu
 rw[q4ad,hx,List.length_cons] at hf
 obtain⟨g,rfl⟩:∃g,f=g+1:=⟨f - 1,by omega⟩
 have he:=h.eq
 rw[hx,q4zj,if_neg (by simp[hE]),if_neg hl] at he
 have hd:(lv.extract k lv.size).data.toList=r.drop (qij7 x.toNat r).2.1:=by
  rw[qh3u,hx,hk,Nat.add_comm,List.drop_succ_cons]
 have hs:(lv.extract k lv.size).size=r.length - (qij7 x.toNat r).2.1:=by rw[q4ad,hd,List.length_drop]
 have hlv:lv.size=r.length+1:=by rw[q4ad,hx,List.length_cons]
 refine⟨g,⟨by rw[List.length_append];exact ho,hb,by rw[List.length_append];simp;omega,?_,?_,by omega,by have:=h.sz;omega⟩,by omega⟩
 ·intro q hq
  rcases List.mem_append.1 hq with hq | hq
  ·exact h.ok q hq
  ·rw[List.mem_singleton.1 hq];exact ok
 ·rw[hd,hp];exact he
theorem qwqg(kind:Int)(s:ByteArray)(w:World)(hm:s.size≤2000)(hk0:-9223372036854775808≤kind)(hk1:kind≤9223372036854775807) :
 Calls Tryz.prog 104 #[.int .i64 kind,.string s] w (PrdP w (qflw kind s.data.toList)):=by
 have RD:=qtpo s w (by omega)
 unfold qwlf q51h at RD
 obtain⟨Q,hQ⟩:∃Q,qflw kind s.data.toList=Q:=⟨_,rfl⟩
 have hQ2:=hQ
 unfold qflw at hQ2
 rw[hQ]
 obtain⟨f1,f2,f3⟩:=qips s.data.toList
 have hsz:s.data.toList.length=s.size:=by rw[q4ad]
 obtain⟨n,hn⟩:∃n,rdN s.data.toList=n:=⟨_,rfl⟩
 obtain⟨v,hv⟩:∃n,rdV s.data.toList=n:=⟨_,rfl⟩
 obtain⟨z,hz⟩:∃n,rdE s.data.toList=n:=⟨_,rfl⟩
 rw[hn,hv,hz] at RD hQ2
 rw[hn,hv,hz] at f3
 rw[hn,hsz] at f1
 rw[hv] at f2
 rw[hsz] at hQ2
 by_cases h0:z=0
 ·subst h0
  rw[if_neg (by simp)] at hQ2
  obtain⟨y,hy⟩:∃y,s.size - n=y:=⟨_,rfl⟩
  have q1:IntKind.i64.wrap ((s.size:Int) - (n:Int))=(y:Int):=by simp only[IntKind.wrap_i64];omega
  by_cases h1:s.size < n+v
  ·rw[if_pos h1] at hQ2
   have q2:(y:Int) < (v:Int):=by omega
   have HQ:=Lib.hid hQ2
   have HR:=Lib.hid RD
   clear RD hQ hQ2 f1 f2 f3 hsz hn hv hz hy h1 hm hk0 hk1
   go_enter Tryz.func104,Tryz.ntmps104
   go_wp2_with fail
   refine(HR.out).mono ?_
   rintro e w1 ⟨rfl,rfl⟩
   go_wp2_with fail
   go_ret3
   exact PrdP.none (Below.refl _ _) HQ.out.symm
  ·rw[if_neg h1] at hQ2
   have q2:¬(y:Int) < (v:Int):=by omega
   obtain⟨t,ht⟩:∃t,n+v=t:=⟨_,rfl⟩
   have q3:IntKind.i64.wrap ((n:Int)+(v:Int))=(t:Int):=by simp only[IntKind.wrap_i64];omega
   have q4:(n:Int)≤(t:Int):=by omega
   have q5:(t:Int)≤(s.size:Int):=by omega
   have q6:(0:Int)≤(n:Int):=by omega
   have he:(s.extract n t).data.toList=(s.data.toList.drop n).take v:=by
    rw[←ht];simp[List.extract_eq_take_drop]
   have hes:(s.extract n t).size=v:=by
    rw[q4ad,he,List.length_take,List.length_drop,hsz];omega
   obtain⟨R,hR⟩:∃R,qwdr kind v [] ((s.data.toList.drop n).take v)=R:=⟨_,rfl⟩
   rw[hR] at hQ2
   have I0:RfB w kind R [] v (s.extract n t) (.slice none 0 0) w:=⟨World.ownsRow_nil _ _ _ _,Below.refl _ _,Nat.zero_le _,fun p h=>(by cases h),by rw[he];exact hR.symm,by omega,by omega⟩
   have HQ:=Lib.hid hQ2
   have HR:=Lib.hid RD
   have HT:=Lib.hid ht
   have I0:=Lib.hid I0
   have K0:=Lib.hid hk0
   have K1:=Lib.hid hk1
   clear RD hQ hQ2 f1 f2 f3 hsz hn hv hz hy h1 hm hk0 hk1 he hes ht hR
   go_enter Tryz.func104,Tryz.ntmps104
   go_wp2_with fail
   refine(HR.out).mono ?_
   rintro e w1 ⟨rfl,rfl⟩
   go_wp2_with fail
   generalize s.extract n t=lv0 at *
   have bq:decide (y < v)=false:=decide_eq_false (by omega)
   rw[bq]
   clear bq
   go_loopg [10,11] lv0.size (fun gk s10 s11 wx=>∃(out:List Pr) (f:Nat) (lv:ByteArray),gk=lv.size∧s11 = .string lv∧RfB w kind R out f lv s10 wx)
   case atStart=>exact⟨[],v,lv0,rfl,rfl,I0.out⟩
   case round=>
    obtain⟨out,f,lv,rfl,rfl,hI⟩:=hrel
    clear q2
    obtain⟨m,hmm⟩:∃m,out.length=m:=⟨_,rfl⟩
    have own':=hI.own
    rw[hmm] at own'
    obtain⟨A,c,rfl,hcc,hP,_⟩:=PL.owned own' hmm.symm
    have I:=Lib.hid hI
    have HP:=Lib.hid hP
    have HL:=Lib.hid hI.len
    have HM:=Lib.hid hmm
    clear hI hP hcc I0 own'
    cases hx:lv.data.toList with
    | nil=>
     have hlv:lv=⟨#[]⟩:=by rw[←qhho lv,hx];rfl
     subst hlv
     have hRR:R=(out,0):=by rw[I.out.eq];show qwdr kind f out []=_;exact qrvb _ _ _
     have hq:=HQ.out
     rw[hRR] at hq
     simp only[ne_eq,not_true_eq_false,if_false] at hq
     have LO:=qjco A m c out wr HP.out hmm (by have:=HL.out;omega)
     obtain⟨b,hb⟩:∃b,qwyx out=b:=⟨_,rfl⟩
     rw[hb] at hq LO
     have LO:=Lib.hid LO
     have HQ2:=Lib.hid hq
     clear hx hRR hq hb hmm
     cases b with
     | true=>
      go_wp2_with fail
      refine(LO.out).mono ?_
      rintro e w2 ⟨rfl,hb⟩
      have HB:=Lib.hid (I.out.low.trans (hb.mono I.out.low.size))
      clear hb
      go_wp2_with fail
      go_ret3
      have hq:=HQ2.out
      (try simp only[if_true] at hq)
      exact PrdP.none HB.out hq.symm
     | false=>
      go_wp2_with fail
      refine(LO.out).mono ?_
      rintro e w2 ⟨rfl,hb⟩
      have HB:=Lib.hid (I.out.low.trans (hb.mono I.out.low.size))
      have OW:=Lib.hid (qzd3 I.out.own hb)
      clear hb
      go_wp2_with fail
      go_ret3
      have hq:=HQ2.out
      (try simp only[Bool.false_eq_true,if_false] at hq)
      rw[HT.out] at hq
      subst hq
      refine⟨HB.out,I.out.ok,HL.out,_,rfl,?_⟩
      exact OW.out
    | cons x r=>
     have hls:lv.size=r.length+1:=by rw[q4ad,hx,List.length_cons]
     have h0:0 < lv.size:=by omega
     have hlx:lv[0]'h0=x:=by
      have e:lv.data.toList[0]? = some (lv[0]'h0):=by rw[List.getElem?_eq_getElem (by rw[←q4ad];exact h0)];rfl
      rw[hx] at e
      exact(Option.some.inj e).symm
     obtain⟨xn,hxn⟩:∃xn,x.toNat=xn:=⟨_,rfl⟩
     have hxx:(((lv[0]'h0).toNat:Nat):Int)=((xn:Nat):Int):=by rw[hlx,hxn]
     have hxl:=x.toNat_lt
     have wx:IntKind.i64.wrap ((xn:Nat):Int)=((xn:Nat):Int):=by simp only[IntKind.wrap_i64];omega
     have k1:(lv.toList==[])=false:=by rw[qrze,hx];rfl
     have k2:lv.toList.isEmpty=false:=by rw[qrze,hx];rfl
     have g0:(0:Int) < (lv.size:Int):=by omega
     have e0:¬lv=ByteArray.empty:=fun e=>by rw[e] at h0;exact absurd h0 (by decide)
     have MY:=q9my kind xn
     have hsz7:lv.size≤70000:=by have:=I.out.sz;omega
     obtain⟨M,hM⟩:∃M,mayP kind xn=M:=⟨_,rfl⟩
     rw[hM] at MY
     have MY:=Lib.hid MY
     have HX:=Lib.hid hx
     have HXN:=Lib.hid hxn
     cases M with
     | false=>
      have hRR:R=([],9):=I.out.end (V:=9) hx (by unfold qzyg;rw[hxn,if_pos hM];rfl) (by decide)
      have hq:=HQ.out
      rw[hRR] at hq
      simp only[ne_eq,show ¬(9:Nat)=0 by decide,not_false_eq_true,if_true] at hq
      have HQ2:=Lib.hid hq
      clear hRR hq hx hls hlx hxn hxl hsz7 hM hmm
      go_wp2_with fail
      refine(MY.out _).mono ?_
      rintro e w2 ⟨rfl,hb⟩
      have HB:=Lib.hid (I.out.low.trans (hb.mono I.out.low.size))
      clear hb
      go_wp2_with fail
      go_ret3
      exact PrdP.none HB.out HQ2.out.symm
     | true=>
      have row:=qznl hM
      have NX:=Lib.hid (fun W=>qvny lv x r hx hsz7 (by rw[hxn];exact row.1) (by rw[hxn];exact row.2.1) W)
      have HMM:=Lib.hid hM
      have HLS:=Lib.hid hls
      clear hx hls hlx hxn hxl hsz7 hM hmm row
      go_wp2_with fail
      refine(MY.out _).mono ?_
      rintro e w2 ⟨rfl,hb⟩
      have HB:=Lib.hid (I.out.low.trans (hb.mono I.out.low.size))
      have OW:=Lib.hid (qzd3 I.out.own hb)
      have HWW:=Lib.hid hb
      clear hb k1 k2
      go_wp2_with fail
      refine(NX.out _).mono ?_
      rintro e w3 ⟨p,n',E,rfl,hb,hE,hok⟩
      have HB:=Lib.hid (HB.out.trans (hb.mono HB.out.size))
      have OW:=Lib.hid (qzd3 OW.out hb)
      have HWW:=Lib.hid (HWW.out.trans (hb.mono HWW.out.size))
      have W3S:=Lib.hid HWW.out.size
      have HE:=Lib.hid hE
      have HO:=Lib.hid hok
      clear hb hE hok NX g0 e0 wx hxx
      unfold qbhk
      by_cases z0:E=0
      ·subst z0
       obtain⟨hp1,hp2,hp3⟩:=HO.out rfl
       have hid:p.id=(xn:Int):=by rw[hp1,HXN.out];exact qdd2 _ _
       have ok:PrOk p:=by rw[hp1,HXN.out];exact qqjl xn (by rw[←HXN.out];exact x.toNat_lt) r
       obtain⟨kk,hkk⟩:∃kk,1+(qij7 x.toNat r).2.1=kk:=⟨_,rfl⟩
       rw[hkk] at hp2
       subst hp2
       have hst:qzyg kind out x r=qx3j kind out p:=by
        unfold qzyg
        rw[hp1,HXN.out,if_neg (by rw[HMM.out];decide),if_neg (by rw[←HXN.out,←HE.out];decide)]
       obtain⟨C,hC⟩:∃C,qr4y kind p=C:=⟨_,rfl⟩
       have CK:=fun W=>q9ay kind p W (by
        have h1:=(q3gm r).2
        have:=(qqjl xn (by rw[←HXN.out];exact x.toNat_lt) r)
        have h2:p.text.length≤70000:=by rw[hp1,HXN.out];exact qx1z xn r
        omega)
       rw[hC] at CK
       unfold qbhk at CK
       have CK:=Lib.hid CK
       have HST:=Lib.hid hst
       have OKP:=Lib.hid ok
       have HID:=Lib.hid hid
       have HP1:=Lib.hid hp1
       have HP3:=Lib.hid hp3
       have HKK:=Lib.hid hkk
       have HC:=Lib.hid hC
       have PB:=Lib.hid (heap_alloc_new w3 (.cells #[.int .i64 p.id,.int .u32 p.n,.string (bs p.text),.string (bs p.value)] 25))
       have HB:=Lib.hid (HB.out.alloc HB.out.size (.cells #[.int .i64 p.id,.int .u32 p.n,.string (bs p.text),.string (bs p.value)] 25))
       have OW:=Lib.hid (OW.out.alloc (.cells #[.int .i64 p.id,.int .u32 p.n,.string (bs p.text),.string (bs p.value)] 25))
       have HWW:=Lib.hid (HWW.out.alloc HWW.out.size (.cells #[.int .i64 p.id,.int .u32 p.n,.string (bs p.text),.string (bs p.value)] 25))
       clear hp1 hp3 hid ok hkk hst hC HO
       by_cases c0':C=0
       ·subst c0'
        obtain⟨b,hb⟩:∃b,qxv1 kind out p.id=b:=⟨_,rfl⟩
        have TW:=Lib.hid (fun W (h:Below wr.heap.size wr W)=>qdfs kind A m c out p.id W (HP.out.below h) HM.out (by have:=HL.out;rw[HM.out] at this;omega))
        rw[hb] at TW
        have HTW:=Lib.hid hb
        clear hb
        go_wp2_with fail
        refine(CK.out _).mono ?_
        rintro e w4 ⟨rfl,hb⟩
        have HB:=Lib.hid (HB.out.trans (hb.mono HB.out.size))
        have OW:=Lib.hid (qzd3 OW.out hb)
        have PB:=Lib.hid ((hb.block _ (lt_of_block PB.out)).trans PB.out)
        have HW:=Lib.hid (HWW.out.trans (hb.mono HWW.out.size))
        clear hb
        have d0:=cell_of_row _ w3.heap.size 0 _ _ _ PB.out
        go_wp2_with fail
        refine(TW.out _ HW.out).mono ?_
        rintro e w5 ⟨rfl,hb⟩
        have HB:=Lib.hid (HB.out.trans (hb.mono HB.out.size))
        have OW:=Lib.hid (qzd3 OW.out hb)
        have PB:=Lib.hid ((hb.block _ (lt_of_block PB.out)).trans PB.out)
        clear hb d0
        have TC:qx3j kind out p=if b=true then 9 else 0:=by
         unfold qx3j
         rw[HC.out,if_neg (by simp),HTW.out]
        have TCH:=Lib.hid TC
        clear TC
        cases b with
        | true=>
         have hRR:R=([],9):=I.out.end (V:=9) HX.out (by rw[HST.out,TCH.out];rfl) (by decide)
         have hq:=HQ.out
         rw[hRR] at hq
         simp only[ne_eq,show ¬(9:Nat)=0 by decide,not_false_eq_true,if_true] at hq
         have HQ2:=Lib.hid hq
         clear hRR hq
         go_wp2_with fail
         go_ret3
         exact PrdP.none HB.out HQ2.out.symm
        | false=>
         by_cases h1000:1000≤m
         ·have q9:(1000:Int)≤(m:Int):=by omega
          have H1:=Lib.hid h1000
          clear h1000
          have hRR:R=([],4):=I.out.end (V:=4) HX.out (by rw[HST.out,TCH.out];show(if (0:Nat)≠0 then _ else _)=4;rw[if_neg (by decide),HM.out,if_pos H1.out]) (by decide)
          have hq:=HQ.out
          rw[hRR] at hq
          simp only[ne_eq,show ¬(4:Nat)=0 by decide,not_false_eq_true,if_true] at hq
          have HQ2:=Lib.hid hq
          clear hRR hq
          go_wp2_with fail
          go_ret3
          exact PrdP.none HB.out HQ2.out.symm
         ·have q9:¬(1000:Int)≤(m:Int):=by omega
          have H1:=Lib.hid h1000
          have q7:(kk:Int)≤(lv.size:Int):=by have:=HKK.out;have:=HP3.out;have:=HLS.out;omega
          have q8:(0:Int)≤(kk:Int):=by omega
          have PA:PL (w5.alloc (.cells #[.int .i64 p.id,.int .u32 p.n,.string (bs p.text),.string (bs p.value)] 25)).drew (some ⟨w5.heap.size,0,none⟩) [p]:=PL.made w5 [p] _ _ rfl
          have OA:=Lib.hid (OW.out.alloc (.cells #[.int .i64 p.id,.int .u32 p.n,.string (bs p.text),.string (bs p.value)] 25)).drew
          have PA:=Lib.hid PA
          have BA:=Lib.hid (qnpu (HB.out.alloc HB.out.size (.cells #[.int .i64 p.id,.int .u32 p.n,.string (bs p.text),.string (bs p.value)] 25)) 1)
          have N3:=Lib.hid (show out.length+1≤3000 by rw[HM.out];omega)
          have PBK:=Lib.hid (fun W (h:Below w5.heap.size w5 W)=>(h.block _ (lt_of_block PB.out)).trans PB.out)
          have MK:=Lib.hid (fun W (h:Below w.heap.size w W) (h2:W.heap[w3.heap.size]? = some (.cells #[.int .i64 p.id,.int .u32 p.n,.string (bs p.text),.string (bs p.value)] 25 (0,0)))=>(show W.cell? ⟨w3.heap.size,0,none⟩=some (.int .i64 p.id)∧W.cell? ⟨w3.heap.size,1,none⟩=some (.int .u32 p.n)∧W.cell? ⟨w3.heap.size,2,none⟩=some (.string (bs p.text))∧W.cell? ⟨w3.heap.size,3,none⟩=some (.string (bs p.value))∧Below w.heap.size w W from
           ⟨cell_of_row _ _ _ _ _ _ h2,cell_of_row _ _ _ _ _ _ h2,cell_of_row _ _ _ _ _ _ h2,cell_of_row _ _ _ _ _ _ h2,h⟩))
          have hS:=MK.out w5.drew (qnpu HB.out 1) PB.out
          have hA0:=MK.out (w5.alloc (.cells #[.int .i64 p.id,.int .u32 p.n,.string (bs p.text),.string (bs p.value)] 25)).drew BA.out ((heap_alloc_old w5 (.cells #[.int .i64 p.id,.int .u32 p.n,.string (bs p.text),.string (bs p.value)] 25) (lt_of_block PB.out)).trans PB.out)
          have HA0:=Lib.hid hA0
          have GN:=Lib.hid (fun W (h:(w5.alloc (.cells #[.int .i64 p.id,.int .u32 p.n,.string (bs p.text),.string (bs p.value)] 25)).drew.grownBy W (Value.slice A m c).ownBlock)=>(show W.heap[w3.heap.size]? = some (.cells #[.int .i64 p.id,.int .u32 p.n,.string (bs p.text),.string (bs p.value)] 25 (0,0)) from
           (h.block w3.heap.size (by show _ < (w5.alloc _).heap.size;rw[World.size_alloc];have:=lt_of_block PB.out;omega) (fun e=>by have:=(I.out.own.lt _ e.symm).2;have:=W3S.out;omega)).trans ((heap_alloc_old w5 (.cells #[.int .i64 p.id,.int .u32 p.n,.string (bs p.text),.string (bs p.value)] 25) (lt_of_block PB.out)).trans PB.out)))
          clear hA0 h1000
          go_wp2_with fail
          go_region_held3 (fun w'=>w'.cell? ⟨w3.heap.size,0,none⟩=some (.int .i64 p.id)∧w'.cell? ⟨w3.heap.size,1,none⟩=some (.int .u32 p.n)∧w'.cell? ⟨w3.heap.size,2,none⟩=some (.string (bs p.text))∧w'.cell? ⟨w3.heap.size,3,none⟩=some (.string (bs p.value))∧Below w.heap.size w w')
           (first | exact hS | exact HA0.out)
           (first
            | (refine qqad (by rfl) _ _ (by rfl) (by rfl) (by rfl) OA.out PA.out rfl N3.out BA.out.size ?_;intro v6 w6 ho6 hb6 hg6;have hS:=MK.out _ (BA.out.trans hb6) (GN.out _ hg6)))
          rename_i hHeld
          have HB6:=Lib.hid hS.2.2.2.2
          have HO6:=Lib.hid ho6
          clear hHeld hS ho6 hb6 hg6
          go_wp2_with fail
          obtain⟨f',hF,hlt⟩:=I.out.next HX.out (by rw[HST.out,TCH.out];rfl) (by rw[HM.out];exact H1.out) HP1.out HKK.out.symm HP3.out OKP.out HO6.out HB6.out
          go_roundg (lv.extract kk lv.size).size
          case measure=>exact hlt
          case rel=>exact⟨_,f',_,rfl,rfl,hF⟩
       ·have n0:(((C:Nat):Int) != 0)=true:=by rw[bne_iff_ne];omega
        have n1:(((C:Nat):Int)==0)=false:=by rw[beq_eq_false_iff_ne];omega
        have hRR:R=([],C):=I.out.end (V:=C) HX.out (by
         have h2:qzyg kind out x r=C:=by
          rw[HST.out];unfold qx3j;rw[HC.out,if_pos c0']
         rw[h2,if_pos c0']) c0'
        have hq:=HQ.out
        rw[hRR] at hq
        simp only[ne_eq,c0',not_false_eq_true,if_true] at hq
        have HQ2:=Lib.hid hq
        clear hRR hq c0'
        go_wp2_with fail
        refine(CK.out _).mono ?_
        rintro e w4 ⟨rfl,hb⟩
        have HB:=Lib.hid (HB.out.trans (hb.mono HB.out.size))
        clear hb
        go_wp2_with fail
        go_ret3
        exact PrdP.none HB.out HQ2.out.symm
      ·have n0:(((E:Nat):Int) != 0)=true:=by rw[bne_iff_ne];omega
       have n1:(((E:Nat):Int)==0)=false:=by rw[beq_eq_false_iff_ne];omega
       have hRR:R=([],E):=I.out.end (V:=E) HX.out (by
        have h2:qzyg kind out x r=E:=by
         unfold qzyg;rw[HXN.out] at HE ⊢;rw[if_neg (by rw[HMM.out];decide),←HE.out,if_pos z0]
        rw[h2,if_pos z0]) z0
       have hq:=HQ.out
       rw[hRR] at hq
       simp only[ne_eq,z0,not_false_eq_true,if_true] at hq
       have HQ2:=Lib.hid hq
       clear hRR hq z0
       go_wp2_with fail
       go_ret3
       exact PrdP.none (HB.out.alloc HB.out.size _) HQ2.out.symm
 ·have q1:(((z:Nat):Int) != 0)=true:=by simp;exact h0
  rw[if_pos h0] at hQ2
  have HQ:=Lib.hid hQ2
  have HR:=Lib.hid RD
  clear RD hQ hQ2 f1 f2 f3 hsz hn hv hz h0 hm hk0 hk1
  go_enter Tryz.func104,Tryz.ntmps104
  go_wp2_with fail
  refine(HR.out).mono ?_
  rintro e w1 ⟨rfl,rfl⟩
  go_wp2_with fail
  go_ret3
  exact PrdP.none (Below.refl _ _) HQ.out.symm
end Go.Proofs.YtbklidpadffpgaaGreat
