/- The contract of polyglotref05.next, whole. Condition: at most 70,000 bytes. -/
import Derived.Deep.DeepCutAuto
import Derived.Test.YthhdhagenmcbeaaGreatK46
import Derived.Test.YthhdhagenmcbeaaGreatK45
import Derived.Test.YthhdhagenmcbeaaGreatK18
import Derived.Test.YthhdhagenmcbeaaGreatK10
import Derived.Test.YthhdhagenmcbeaaGreatK34
import Derived.Test.YthhdhagenmcbeaaGreatK23
set_option maxRecDepth 100000
set_option maxHeartbeats 2000000
namespace Go.Proofs.YthhdhagenmcbeaaGreat
open Go.RowKit
theorem qjai(d:Bool)(r:List UInt8):(q91e d r).2.1≤r.length:=by
 have h:=(q3gm r).1
 rcases q7jb d r with ⟨_,h2⟩ | ⟨_,_,_,h2⟩ | ⟨_,_,h2⟩
 ·rw[h2];exact Nat.zero_le _
 ·rw[h2];exact Nat.zero_le _
 ·rw[h2];exact h
def NtP(w:World)(x:UInt8)(r:List UInt8)(e:Ending)(W:World):Prop:=
 ∃(p:Pr) (n:Int) (E:Nat),e = .returned (.tuple #[qbhk p,.int .i64 n,.int .i64 (E:Nat)])∧Below w.heap.size w W∧E=(qij7 x.toNat r).2.2∧(E=0→p=(qij7 x.toNat r).1∧n=((1+(qij7 x.toNat r).2.1:Nat):Int)∧(qij7 x.toNat r).2.1≤r.length)
theorem qvny(s:ByteArray)(x:UInt8)(r:List UInt8)(hx:s.data.toList=x::r)(hs:s.size≤70000)(h1:1≤qwgc x.toNat)(h7:qwgc x.toNat≤7)(w:World) :
 Calls Tryz.prog 119 #[.string s] w (NtP w x r):=by
 have hlen:s.size=r.length+1:=by rw[q4ad,hx,List.length_cons]
 have h0:0 < s.size:=by omega
 have hsx:s[0]'h0=x:=by
  have e:s.data.toList[0]? = some (s[0]'h0):=by rw[List.getElem?_eq_getElem (by rw[←q4ad];exact h0)];rfl
  rw[hx] at e
  exact(Option.some.inj e).symm
 have hxx:(((s[0]'h0).toNat:Nat):Int)=((x.toNat:Nat):Int):=by rw[hsx]
 have hlt:x.toNat < 256:=x.toNat_lt
 have wx:IntKind.i64.wrap ((x.toNat:Nat):Int)=((x.toNat:Nat):Int):=by simp only[IntKind.wrap_i64];omega
 have hd:s.data.toList.drop 1=r:=by rw[hx];rfl
 have LK:=fun W=>(q43i ((x.toNat:Nat):Int) W).mono (R':=fun e w'=>∃A m y z,e = .returned (.agg #[.int .i64 ((qwgc x.toNat:Nat):Int),.slice A m m,.int .u32 y,.int .u32 z])∧Below W.heap.size W w') (fun e w' ⟨A,h1,h2,_⟩=>⟨A,_,_,_,h1,h2⟩)
 have q1:IntKind.i64.wrap ((s.size:Int) - 1)=(r.length:Int):=by simp only[IntKind.wrap_i64];omega
 have q3:(1:Int)≤(s.size:Int):=by omega
 have numc:∀(c:Nat),c≤4→1≤c→qij7 x.toNat r=numP x.toNat c r→
  (r.length < c→Calls Tryz.prog 119 #[.string s] w fun e w'=>e = .returned (.tuple #[.agg #[.int .i64 x.toNat,.int .u32 0,.string ⟨#[]⟩,.string ⟨#[]⟩],.int .i64 0,.int .i64 5])∧Below w.heap.size w w')→
  (c≤r.length→Calls Tryz.prog 119 #[.string s] w fun e w'=>e = .returned (.tuple #[.agg #[.int .i64 x.toNat,.int .u32 (num (r.take c):Nat),.string ⟨#[]⟩,.string ⟨#[]⟩],.int .i64 ((c+1:Nat):Int),.int .i64 0])∧Below w.heap.size w w')→
  Calls Tryz.prog 119 #[.string s] w (NtP w x r):=by
  intro c hc hc1 hn hno hyes
  by_cases hl:r.length < c
  ·refine(hno hl).mono fun e W ⟨he,hb⟩=>⟨⟨x.toNat,0,[],[]⟩,0,5,he,hb,?_,fun h=>by cases h⟩
   rw[hn];unfold numP;rw[if_pos hl]
  ·refine(hyes (by omega)).mono fun e W ⟨he,hb⟩=>⟨⟨x.toNat,num (r.take c),[],[]⟩,_,0,he,hb,?_,fun _=>?_⟩
   ·rw[hn];unfold numP;rw[if_neg hl]
   ·rw[hn];unfold numP;rw[if_neg hl];exact⟨rfl,by rw[Nat.add_comm],by show c≤_;omega⟩
 have GT:∀(c:Nat),c≤4→c≤r.length→∀W,Calls Tryz.prog 59 #[.string (s.extract 1 (c+1))] W fun e w'=>e = .returned (.int .u64 (num (r.take c):Nat))∧W=w':=by
  intro c hc hl W
  have:=q2jg (s.extract 1 (c+1)) W (by simp;omega)
  rw[Nat.add_comm c 1] at this ⊢
  rw[qelx s 1 c (by omega) (by omega),hd] at this
  exact this
 have wr:∀(c:Nat),c≤4→IntKind.u32.wrap ((num (r.take c):Nat):Int)=((num (r.take c):Nat):Int):=by
  intro c hc
  have h1:=qn9h (r.take c)
  have h2:256^(r.take c).length≤256^4:=Nat.pow_le_pow_right (by decide) (by rw[List.length_take];omega)
  have h3:256^4=4294967296:=by decide
  simp only[IntKind.wrap_u32];omega
 have hh:qwgc x.toNat=1∨qwgc x.toNat=2∨qwgc x.toNat=3∨qwgc x.toNat=4∨qwgc x.toNat=5∨qwgc x.toNat=6∨qwgc x.toNat=7:=by omega
 rcases hh with e | e | e | e | e | e | e
 ·rw[e] at LK
  exact numc 1 (by decide) (by decide) (by unfold qij7;rw[if_pos e]) (fun hl=>qvsf LK h0 hxx wx q1 (by omega) w) (fun hl=>qb19 LK h0 hxx wx q1 (by omega) (by omega) (wr 1 (by decide)) (GT 1 (by decide) hl) w)
 ·rw[e] at LK
  exact numc 2 (by decide) (by decide) (by unfold qij7;rw[if_neg (by omega),if_pos e]) (fun hl=>q9m3 LK h0 hxx wx q1 (by omega) w) (fun hl=>q7q4 LK h0 hxx wx q1 (by omega) (by omega) (wr 2 (by decide)) (GT 2 (by decide) hl) w)
 ·rw[e] at LK
  exact numc 4 (by decide) (by decide) (by unfold qij7;rw[if_neg (by omega),if_neg (by omega),if_pos e]) (fun hl=>q4cs LK h0 hxx wx q1 (by omega) w) (fun hl=>qv8u LK h0 hxx wx q1 (by omega) (by omega) (wr 4 (by decide)) (GT 4 (by decide) hl) w)
 ·rw[e] at LK
  have hn:qij7 x.toNat r=if rdE r≠0 then(⟨x.toNat,0,[],[]⟩,0,5) else(⟨x.toNat,rdV r,[],[]⟩,rdN r,0):=by unfold qij7;rw[if_neg (by omega),if_neg (by omega),if_neg (by omega),if_pos e]
  have RD:=fun W=>qtpo (s.extract 1 s.size) W (by simp;omega)
  unfold qwlf q51h at RD
  rw[qh3u,hd] at RD
  obtain⟨b1,b2,b3⟩:=qips r
  by_cases hz:rdE r=0
  ·rw[hz] at RD
   refine(qur3 (V:=(rdV r:Nat)) (k:=(rdN r:Nat)) (k1:=((1+rdN r:Nat):Int)) LK h0 hxx wx (by simp only[IntKind.wrap_u32];omega) q3 (by simp only[IntKind.wrap_i64];omega) RD w).mono fun e W ⟨he,hb⟩=>⟨⟨x.toNat,rdV r,[],[]⟩,_,0,he,hb,?_,fun _=>?_⟩
   ·rw[hn,if_neg (by simp[hz])]
   ·rw[hn,if_neg (by simp[hz])];exact⟨rfl,rfl,b1⟩
  ·refine(qmk8 (V:=(rdV r:Nat)) (k:=(rdN r:Nat)) (z:=(rdE r:Nat)) LK h0 hxx wx (by rw[bne_iff_ne];omega) q3 RD w).mono fun e W ⟨he,hb⟩=>⟨⟨x.toNat,0,[],[]⟩,0,5,he,hb,?_,fun h=>by cases h⟩
   rw[hn,if_pos hz]
 ·rw[e] at LK
  have hn:qij7 x.toNat r=if (q91e false r).2.2≠0 then(⟨x.toNat,0,[],[]⟩,0,(q91e false r).2.2) else(⟨x.toNat,0,(q91e false r).1,[]⟩,(q91e false r).2.1,0):=by
   unfold qij7;rw[if_neg (by omega),if_neg (by omega),if_neg (by omega),if_neg (by omega),if_neg (by omega),e];rfl
  have TT:=fun W=>qs5r s 1 5 W hs (by omega) (by decide)
  rw[hd,show((5:Nat)==6)=false from rfl] at TT
  have tl:=qjai false r
  refine(qu2k (T:=bs (q91e false r).1) LK h0 hxx wx rfl TT w).mono fun e W ⟨he,hb⟩=>⟨⟨x.toNat,0,(q91e false r).1,[]⟩,_,(q91e false r).2.2,he,hb,?_,fun h=>?_⟩
  ·rw[hn];exact(qzpi _ _ _ _).symm
  ·rw[hn,h];exact⟨by rw[if_neg (by simp)],by rw[if_pos rfl,if_neg (by simp)],by rw[if_neg (by simp)];exact tl⟩
 ·rw[e] at LK
  have hn:qij7 x.toNat r=if (q91e true r).2.2≠0 then(⟨x.toNat,0,[],[]⟩,0,(q91e true r).2.2) else(⟨x.toNat,0,(q91e true r).1,[]⟩,(q91e true r).2.1,0):=by
   unfold qij7;rw[if_neg (by omega),if_neg (by omega),if_neg (by omega),if_neg (by omega),if_neg (by omega),e];rfl
  have TT:=fun W=>qs5r s 1 6 W hs (by omega) (by decide)
  rw[hd,show((6:Nat)==6)=true from rfl] at TT
  have tl:=qjai true r
  refine(q4qj (T:=bs (q91e true r).1) LK h0 hxx wx rfl TT w).mono fun e W ⟨he,hb⟩=>⟨⟨x.toNat,0,(q91e true r).1,[]⟩,_,(q91e true r).2.2,he,hb,?_,fun h=>?_⟩
  ·rw[hn];exact(qzpi _ _ _ _).symm
  ·rw[hn,h];exact⟨by rw[if_neg (by simp)],by rw[if_pos rfl,if_neg (by simp)],by rw[if_neg (by simp)];exact tl⟩
 ·rw[e] at LK
  have hn:qij7 x.toNat r=(if (q91e false r).2.2≠0 then(⟨x.toNat,0,[],[]⟩,0,(q91e false r).2.2)
   else if (q91e false (r.drop (q91e false r).2.1)).2.2≠0 then(⟨x.toNat,0,[],[]⟩,0,(q91e false (r.drop (q91e false r).2.1)).2.2)
   else(⟨x.toNat,0,(q91e false r).1,(q91e false (r.drop (q91e false r).2.1)).1⟩,(q91e false r).2.1+(q91e false (r.drop (q91e false r).2.1)).2.1,0)):=by
    unfold qij7;rw[if_neg (by omega),if_neg (by omega),if_neg (by omega),if_neg (by omega),if_pos e]
  have TT:=fun W=>qs5r s 1 7 W hs (by omega) (by decide)
  rw[hd,show((7:Nat)==6)=false from rfl] at TT
  have tl:=qjai false r
  by_cases hz:(q91e false r).2.2=0
  ·rw[hz,if_pos rfl] at TT
   rw[if_neg (by simp[hz])] at hn
   have TU:=fun W=>qs5r s (1+(q91e false r).2.1) 7 W hs (by omega) (by decide)
   rw[←List.drop_drop,hd,show((7:Nat)==6)=false from rfl] at TU
   have tu:=qjai false (r.drop (q91e false r).2.1)
   rw[List.length_drop] at tu
   refine(quzf (T:=bs (q91e false r).1) (U:=bs (q91e false (r.drop (q91e false r).2.1)).1) LK h0 hxx wx TT TU w).mono fun e W ⟨he,hb⟩=>⟨⟨x.toNat,0,(q91e false r).1,(q91e false (r.drop (q91e false r).2.1)).1⟩,_,(q91e false (r.drop (q91e false r).2.1)).2.2,he,hb,?_,fun h=>?_⟩
   ·rw[hn];exact(qzpi _ _ _ _).symm
   ·rw[hn,h];exact⟨by rw[if_neg (by simp)],by rw[if_pos rfl,if_neg (by simp)];show _=((1+(_+_):Nat):Int);rw[Nat.add_assoc],by rw[if_neg (by simp)];show _+_≤_;omega⟩
  ·rw[if_pos hz] at hn
   rw[if_neg hz] at TT
   refine(qyei (T:=bs (q91e false r).1) (z:=((q91e false r).2.2:Nat)) LK h0 hxx wx (by rw[beq_eq_false_iff_ne];omega) TT w).mono fun e W ⟨he,hb⟩=>⟨⟨x.toNat,0,(q91e false r).1,[]⟩,_,(q91e false r).2.2,he,hb,?_,fun h=>absurd h hz⟩
   rw[hn]
structure DnS(w:World)(cb:Nat)(s:ByteArray)(p:Pk)(a:Ad)(y:Cs)(W:World):Prop where
 gr:w.grownBy W (some cb)
 box:W.heap[w.heap.size]? = some (.cells (pkC p a) 35 (0,0))
 res:W.heap[w.heap.size+1]? = some (.cells pkZ 35 (0,0))
 cs:RsAt W cb s y
section
variable{w W W':World}{cb:Nat}{s:ByteArray}{x y:Cs}{p:Pk}{a:Ad}
theorem RsAt.err(h:RsAt W cb s x):W.cell? ⟨cb,2,none⟩=some (.int .i64 ((x.e:Nat):Int)):=by obtain⟨i,_,hc,_⟩:=h;exact hc.c2
theorem DnS.call(h:DnS w cb s p a x W)(hcb:cb < w.heap.size)(hg:W.grownBy W' (some cb))(hy:RsAt W' cb s y):DnS w cb s p a y W':=
 ⟨qo6d h.gr hg,(hg.block _ (lt_of_block h.box) (by intro e;cases e;omega)).trans h.box,(hg.block _ (lt_of_block h.res) (by intro e;cases e;omega)).trans h.res,hy⟩
theorem DnS.made(h:RsAt w cb s x):DnS w cb s p a x ((w.alloc (.cells (pkC p a) 35)).alloc (.cells pkZ 35)):=
 ⟨qo6d (World.grownBy_alloc _ _ _) (World.grownBy_alloc _ _ _),heap_alloc2_old _ _ _,heap_alloc2_new _ _ _,(h.below (qybm _)).below (qybm _)⟩
theorem DnS.zero(h:DnS w cb s p a x W)(hcb:cb < w.heap.size):DnS w cb s p a x (W.setRow (w.heap.size+1) pkZ):=
 ⟨qacl h.gr (by omega) _,(setRow_other _ _ _ _ (by omega)).trans h.box,setRow_heap _ _ _ _ _ _ h.res,h.cs.of_block (setRow_other _ _ _ _ (by omega))⟩
theorem qeyg(f:Nat)(hm:s.size≤9223372036854775807)(h:RsAt w cb s x) :
 Calls Tryz.prog 41 #[.pointer (some ⟨cb,0,none⟩),.agg (pkC p a),.int .i64 (f:Int)] w fun e w'=>e = .returned (.tuple #[.agg (if (qveh x f).e≠0 then pkZ else pkC p a),.int .i64 (((qveh x f).e:Nat):Int)])∧w.grownBy w' (some cb):=by
 have S0:=Lib.hid (DnS.made (p:=p) (a:=a) h)
 have CB:=Lib.hid h.lt
 have C1:=Lib.hid (qwmp p a)
 have P2:=Lib.hid (qmz0 p a)
 have HZ:=Lib.hid qbwp
 have ZO:pkZ.all (·.oneCell')=true:=qmz0 Pk.zero adZ
 have hzv:=qrai
 have hne:¬pkZ=#[]:=by intro h;have:=qbwp;rw[h] at this;cases this
 have LE:=fun W (h:RsAt W cb s x)=>q5u4 hm h
 have F5:=fun W (h:RsAt W cb s x)=>qw3h 5 h
 obtain⟨y,hy⟩:∃y,(if x.e=0∧x.r≠[] then x.fail 5 else x)=y:=⟨_,rfl⟩
 have FF:=fun W (h:RsAt W cb s y)=>qw3h f h
 unfold qveh
 rw[hy]
 obtain⟨z,hz⟩:∃z,y.fail f=z:=⟨_,rfl⟩
 rw[hz] at FF ⊢
 obtain⟨V,hV⟩:∃V,(if z.e≠0 then pkZ else pkC p a)=V:=⟨_,rfl⟩
 rw[hV]
 have HV:=Lib.hid hV
 clear hV
 have HY:=Lib.hid hy
 have LE:=Lib.hid LE
 have F5:=Lib.hid F5
 have FF:=Lib.hid FF
 have k2:((w.alloc (.cells (pkC p a) 35)).alloc (.cells pkZ 35)).cell? ⟨cb,2,none⟩=some (.int .i64 ((x.e:Nat):Int)):=S0.out.cs.err
 clear h hy hz
 go_enter Tryz.func41,Tryz.ntmps41
 go_upto_region 1 with fail
 generalize (w.alloc (.cells (pkC p a) 35)).alloc (.cells pkZ 35)=W at *
 have S1:=Lib.hid S0.out
 clear S0
 obtain⟨b,hb⟩:∃b,decide (x.e=0∧x.r≠[])=b:=⟨_,rfl⟩
 have HB:=Lib.hid hb
 clear hb
 go_cut [17] (fun s17 wx=>s17 = .bool b∧DnS w cb s p a x wx)
 case first=>
  by_cases he:x.e=0
  ·have hl2:decide (0 < x.r.length)=b:=by
    rw[←HB.out,decide_eq_decide]
    cases x.r<;>simp[he]
   rw[he] at k2
   generalize x.r.length=n at *
   have LE:=Lib.hid LE.out
   have HL2:=Lib.hid hl2
   clear he HY HB hl2
   go_wp2_with fail
   refine(LE.out _ S1.out.cs).mono ?_
   rintro e W2 ⟨rfl,hc,hg⟩
   have S2:=Lib.hid (S1.out.call CB.out hg hc)
   clear hc hg
   go_wp2_with fail
   go_meet
   exact⟨congrArg Value.bool HL2.out,S2.out⟩
  ·have HT:=Lib.hid (show false=b by rw[←HB.out,decide_eq_false (by simp[he])])
   have he2:(((x.e:Nat):Int)==0)=false:=by simp;omega
   clear he HY HB
   go_wp2_with fail
   go_meet
   exact⟨congrArg Value.bool HT.out,S1.out⟩
 case rest=>
  clear S1 k2 LE
  obtain⟨rfl,hS⟩:=hcut
  have S1:=Lib.hid hS
  clear hS
  go_upto_if 17 with fail
  go_cut [] (fun wx=>DnS w cb s p a y wx)
  case first=>
   cases b with
   | false=>
    have HT:=Lib.hid (show x=y by rw[←HY.out,if_neg (of_decide_eq_false HB.out)])
    clear HY HB
    go_wp2_with fail
    go_meet
    rw[←HT.out];exact S1.out
   | true=>
    have HT:=Lib.hid (show x.fail 5=y by rw[←HY.out,if_pos (of_decide_eq_true HB.out)])
    clear HY HB
    go_wp2_with fail
    refine(F5.out _ S1.out.cs).mono ?_
    rintro e W3 ⟨rfl,hc,hg⟩
    have S3:=Lib.hid (S1.out.call CB.out hg hc)
    clear hc hg
    go_wp2_with fail
    go_meet
    rw[←HT.out];exact S3.out
  case rest=>
   have S2:=Lib.hid hcut
   clear hcut S1 F5 HY HB
   go_wp2_with fail
   refine(FF.out _ S2.out.cs).mono ?_
   rintro e W3 ⟨rfl,hc,hg⟩
   have S3:=Lib.hid (S2.out.call CB.out hg hc)
   have k2:W3.cell? ⟨cb,2,none⟩=some (.int .i64 ((z.e:Nat):Int)):=hc.err
   have GB:=Lib.hid S3.out.box
   have GR:=Lib.hid S3.out.res
   clear hc hg FF S2
   by_cases hz:z.e=0
   ·have RT:=Lib.hid (show Ending.returned (.tuple #[.agg (pkC p a),.int .i64 0]) = .returned (.tuple #[.agg V,.int .i64 ((z.e:Nat):Int)]) by rw[←HV.out,if_neg (by simpa using hz),hz];rfl)
    rw[hz] at k2
    have LO:=Lib.hid (qacl S3.out.gr (show w.heap.size≤w.heap.size+1 by omega) (pkC p a))
    clear hz S3
    go_wp2_with (first
     | (refine wpList_load_row rfl _ _ rfl w.heap.size rfl 35 (pkC p a) (0,0) _ GB.out Tryz.underlying35 rfl (by rw[C1.out];exact q5nr) ?_)
     | (refine wpList_store_row rfl _ _ _ rfl (w.heap.size+1) (pkC p a) rfl rfl 35 _ GR.out (by rw[C1.out];exact q5nr) (by rw[HZ.out,C1.out]) P2.out ?_))
    exact q8iy (cs:=pkC p a) rfl rfl rfl rfl Tryz.underlying35 rfl (by rw[C1.out];exact q5nr) (setRow_heap _ _ _ _ _ _ GR.out) ⟨RT.out,LO.out⟩
   ·have RT:=Lib.hid (show Ending.returned (.tuple #[.agg pkZ,.int .i64 ((z.e:Nat):Int)]) = .returned (.tuple #[.agg V,.int .i64 ((z.e:Nat):Int)]) by rw[←HV.out,if_pos hz])
    have he2:(((z.e:Nat):Int)==0)=false:=by simp;omega
    have he3:(((z.e:Nat):Int) != 0)=true:=by simp;omega
    have LO:=Lib.hid (qacl S3.out.gr (show w.heap.size≤w.heap.size+1 by omega) pkZ)
    clear hz
    go_upto_region 5 with fail
    refine qy7c (T:=DnS w cb s p a z) (B:=w.heap.size+1) (cb:=cb) (z:=((z.e:Nat):Int)) ⟨S3.out.gr.trans ⟨rfl,rfl,rfl,Nat.le_refl _,fun _ _ _=>rfl⟩,S3.out.box,S3.out.res,S3.out.cs⟩ (fun W h=>h.cs.err) (fun W h=>h.res) (fun W h=>h.zero CB.out) ?_
    intro W h
    have GR:=Lib.hid h.res
    have LO:=Lib.hid h.gr
    clear h
    go_wp2_with fail
    exact q8iy (cs:=pkZ) rfl rfl rfl rfl Tryz.underlying35 rfl (by rw[HZ.out];exact q5nr) GR.out ⟨RT.out,LO.out⟩
end
end Go.Proofs.YthhdhagenmcbeaaGreat
