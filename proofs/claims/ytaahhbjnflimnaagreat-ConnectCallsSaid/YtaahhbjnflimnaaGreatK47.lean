/- The contract of polyglotref05.next, whole. Condition: at most 70,000 bytes. -/
import Derived.Test.YtaahhbjnflimnaaGreatK46
import Derived.Test.YtaahhbjnflimnaaGreatK45
import Derived.Test.YtaahhbjnflimnaaGreatK15
set_option maxRecDepth 100000
set_option maxHeartbeats 2000000
namespace Go.Proofs.YtaahhbjnflimnaaGreat
open Go.RowKit
theorem qjai(d:Bool)(r:List UInt8):(q91e d r).2.1≤r.length:=by
 have h:=(q3gm r).1
 rcases q7jb d r with ⟨_,h2⟩ | ⟨_,_,_,h2⟩ | ⟨_,_,h2⟩
 ·rw[h2];exact Nat.zero_le _
 ·rw[h2];exact Nat.zero_le _
 ·rw[h2];exact h
def NtP(w:World)(x:UInt8)(r:List UInt8)(e:Ending)(W:World):Prop:=
 ∃(p:Pr) (n:Int) (E:Nat),e = .returned (.tuple #[qbhk p,.int .i64 n,.int .i64 (E:Nat)])∧Below w.heap.size w W∧E=(qij7 x.toNat r).2.2∧(E=0→p=(qij7 x.toNat r).1∧n=((1+(qij7 x.toNat r).2.1:Nat):Int)∧(qij7 x.toNat r).2.1≤r.length)
theorem qvny(s:ByteArray)(x:UInt8)(r:List UInt8)(hx:s.data.toList=x::r)(hs:s.size≤70000)(h1:1≤qwgc x.toNat)(h7:qwgc x.toNat≤7)(w:World) :
 Calls Tryz.prog 176 #[.string s] w (NtP w x r):=by
 have hlen:s.size=r.length+1:=by rw[q4ad,hx,List.length_cons]
 have h0:0 < s.size:=by omega
 have hsx:s[0]'h0=x:=by
  have e:s.data.toList[0]? = some (s[0]'h0):=by rw[List.getElem?_eq_getElem (by rw[←q4ad];exact h0)];rfl
  rw[hx] at e
  exact(Option.some.inj e).symm
 have hxx:(((s[0]'h0).toNat:Nat):Int)=((x.toNat:Nat):Int):=by rw[hsx]
 have hlt:x.toNat < 256:=x.toNat_lt
 have wx:IntKind.i64.wrap ((x.toNat:Nat):Int)=((x.toNat:Nat):Int):=by simp only[IntKind.wrap_i64];omega
 have hd:s.data.toList.drop 1=r:=by rw[hx];rfl
 have LK:=fun W=>(q43i ((x.toNat:Nat):Int) W).mono (R':=fun e w'=>∃A m y z,e = .returned (.agg #[.int .i64 ((qwgc x.toNat:Nat):Int),.slice A m m,.int .u32 y,.int .u32 z])∧Below W.heap.size W w') (fun e w' ⟨A,h1,h2,_⟩=>⟨A,_,_,_,h1,h2⟩)
 have q1:IntKind.i64.wrap ((s.size:Int) - 1)=(r.length:Int):=by simp only[IntKind.wrap_i64];omega
 have q3:(1:Int)≤(s.size:Int):=by omega
 have numc:∀(c:Nat),c≤4→1≤c→qij7 x.toNat r=numP x.toNat c r→
  (r.length < c→Calls Tryz.prog 176 #[.string s] w fun e w'=>e = .returned (.tuple #[.agg #[.int .i64 x.toNat,.int .u32 0,.string ⟨#[]⟩,.string ⟨#[]⟩],.int .i64 0,.int .i64 5])∧Below w.heap.size w w')→
  (c≤r.length→Calls Tryz.prog 176 #[.string s] w fun e w'=>e = .returned (.tuple #[.agg #[.int .i64 x.toNat,.int .u32 (num (r.take c):Nat),.string ⟨#[]⟩,.string ⟨#[]⟩],.int .i64 ((c+1:Nat):Int),.int .i64 0])∧Below w.heap.size w w')→
  Calls Tryz.prog 176 #[.string s] w (NtP w x r):=by
  intro c hc hc1 hn hno hyes
  by_cases hl:r.length < c
  ·refine(hno hl).mono fun e W ⟨he,hb⟩=>⟨⟨x.toNat,0,[],[]⟩,0,5,he,hb,?_,fun h=>by cases h⟩
   rw[hn];unfold numP;rw[if_pos hl]
  ·refine(hyes (by omega)).mono fun e W ⟨he,hb⟩=>⟨⟨x.toNat,num (r.take c),[],[]⟩,_,0,he,hb,?_,fun _=>?_⟩
   ·rw[hn];unfold numP;rw[if_neg hl]
   ·rw[hn];unfold numP;rw[if_neg hl];exact⟨rfl,by rw[Nat.add_comm],by show c≤_;omega⟩
 have GT:∀(c:Nat),c≤4→c≤r.length→∀W,Calls Tryz.prog 122 #[.string (s.extract 1 (c+1))] W fun e w'=>e = .returned (.int .u64 (num (r.take c):Nat))∧W=w':=by
  intro c hc hl W
  have:=q2jg (s.extract 1 (c+1)) W (by simp;omega)
  rw[Nat.add_comm c 1] at this ⊢
  rw[qelx s 1 c (by omega) (by omega),hd] at this
  exact this
 have wr:∀(c:Nat),c≤4→IntKind.u32.wrap ((num (r.take c):Nat):Int)=((num (r.take c):Nat):Int):=by
  intro c hc
  have h1:=qn9h (r.take c)
  have h2:256^(r.take c).length≤256^4:=Nat.pow_le_pow_right (by decide) (by rw[List.length_take];omega)
  have h3:256^4=4294967296:=by decide
  simp only[IntKind.wrap_u32];omega
 have hh:qwgc x.toNat=1∨qwgc x.toNat=2∨qwgc x.toNat=3∨qwgc x.toNat=4∨qwgc x.toNat=5∨qwgc x.toNat=6∨qwgc x.toNat=7:=by omega
 rcases hh with e | e | e | e | e | e | e
 ·rw[e] at LK
  exact numc 1 (by decide) (by decide) (by unfold qij7;rw[if_pos e]) (fun hl=>qvsf LK h0 hxx wx q1 (by omega) w) (fun hl=>qb19 LK h0 hxx wx q1 (by omega) (by omega) (wr 1 (by decide)) (GT 1 (by decide) hl) w)
 ·rw[e] at LK
  exact numc 2 (by decide) (by decide) (by unfold qij7;rw[if_neg (by omega),if_pos e]) (fun hl=>q9m3 LK h0 hxx wx q1 (by omega) w) (fun hl=>q7q4 LK h0 hxx wx q1 (by omega) (by omega) (wr 2 (by decide)) (GT 2 (by decide) hl) w)
 ·rw[e] at LK
  exact numc 4 (by decide) (by decide) (by unfold qij7;rw[if_neg (by omega),if_neg (by omega),if_pos e]) (fun hl=>q4cs LK h0 hxx wx q1 (by omega) w) (fun hl=>qv8u LK h0 hxx wx q1 (by omega) (by omega) (wr 4 (by decide)) (GT 4 (by decide) hl) w)
 ·rw[e] at LK
  have hn:qij7 x.toNat r=if rdE r≠0 then(⟨x.toNat,0,[],[]⟩,0,5) else(⟨x.toNat,rdV r,[],[]⟩,rdN r,0):=by unfold qij7;rw[if_neg (by omega),if_neg (by omega),if_neg (by omega),if_pos e]
  have RD:=fun W=>qtpo (s.extract 1 s.size) W (by simp;omega)
  unfold qwlf q51h at RD
  rw[qh3u,hd] at RD
  obtain⟨b1,b2,b3⟩:=qips r
  by_cases hz:rdE r=0
  ·rw[hz] at RD
   refine(qur3 (V:=(rdV r:Nat)) (k:=(rdN r:Nat)) (k1:=((1+rdN r:Nat):Int)) LK h0 hxx wx (by simp only[IntKind.wrap_u32];omega) q3 (by simp only[IntKind.wrap_i64];omega) RD w).mono fun e W ⟨he,hb⟩=>⟨⟨x.toNat,rdV r,[],[]⟩,_,0,he,hb,?_,fun _=>?_⟩
   ·rw[hn,if_neg (by simp[hz])]
   ·rw[hn,if_neg (by simp[hz])];exact⟨rfl,rfl,b1⟩
  ·refine(qmk8 (V:=(rdV r:Nat)) (k:=(rdN r:Nat)) (z:=(rdE r:Nat)) LK h0 hxx wx (by rw[bne_iff_ne];omega) q3 RD w).mono fun e W ⟨he,hb⟩=>⟨⟨x.toNat,0,[],[]⟩,0,5,he,hb,?_,fun h=>by cases h⟩
   rw[hn,if_pos hz]
 ·rw[e] at LK
  have hn:qij7 x.toNat r=if (q91e false r).2.2≠0 then(⟨x.toNat,0,[],[]⟩,0,(q91e false r).2.2) else(⟨x.toNat,0,(q91e false r).1,[]⟩,(q91e false r).2.1,0):=by
   unfold qij7;rw[if_neg (by omega),if_neg (by omega),if_neg (by omega),if_neg (by omega),if_neg (by omega),e];rfl
  have TT:=fun W=>qs5r s 1 5 W hs (by omega) (by decide)
  rw[hd,show((5:Nat)==6)=false from rfl] at TT
  have tl:=qjai false r
  refine(qu2k (T:=bs (q91e false r).1) LK h0 hxx wx rfl TT w).mono fun e W ⟨he,hb⟩=>⟨⟨x.toNat,0,(q91e false r).1,[]⟩,_,(q91e false r).2.2,he,hb,?_,fun h=>?_⟩
  ·rw[hn];exact(qzpi _ _ _ _).symm
  ·rw[hn,h];exact⟨by rw[if_neg (by simp)],by rw[if_pos rfl,if_neg (by simp)],by rw[if_neg (by simp)];exact tl⟩
 ·rw[e] at LK
  have hn:qij7 x.toNat r=if (q91e true r).2.2≠0 then(⟨x.toNat,0,[],[]⟩,0,(q91e true r).2.2) else(⟨x.toNat,0,(q91e true r).1,[]⟩,(q91e true r).2.1,0):=by
   unfold qij7;rw[if_neg (by omega),if_neg (by omega),if_neg (by omega),if_neg (by omega),if_neg (by omega),e];rfl
  have TT:=fun W=>qs5r s 1 6 W hs (by omega) (by decide)
  rw[hd,show((6:Nat)==6)=true from rfl] at TT
  have tl:=qjai true r
  refine(q4qj (T:=bs (q91e true r).1) LK h0 hxx wx rfl TT w).mono fun e W ⟨he,hb⟩=>⟨⟨x.toNat,0,(q91e true r).1,[]⟩,_,(q91e true r).2.2,he,hb,?_,fun h=>?_⟩
  ·rw[hn];exact(qzpi _ _ _ _).symm
  ·rw[hn,h];exact⟨by rw[if_neg (by simp)],by rw[if_pos rfl,if_neg (by simp)],by rw[if_neg (by simp)];exact tl⟩
 ·rw[e] at LK
  have hn:qij7 x.toNat r=(if (q91e false r).2.2≠0 then(⟨x.toNat,0,[],[]⟩,0,(q91e false r).2.2)
   else if (q91e false (r.drop (q91e false r).2.1)).2.2≠0 then(⟨x.toNat,0,[],[]⟩,0,(q91e false (r.drop (q91e false r).2.1)).2.2)
   else(⟨x.toNat,0,(q91e false r).1,(q91e false (r.drop (q91e false r).2.1)).1⟩,(q91e false r).2.1+(q91e false (r.drop (q91e false r).2.1)).2.1,0)):=by
    unfold qij7;rw[if_neg (by omega),if_neg (by omega),if_neg (by omega),if_neg (by omega),if_pos e]
  have TT:=fun W=>qs5r s 1 7 W hs (by omega) (by decide)
  rw[hd,show((7:Nat)==6)=false from rfl] at TT
  have tl:=qjai false r
  by_cases hz:(q91e false r).2.2=0
  ·rw[hz,if_pos rfl] at TT
   rw[if_neg (by simp[hz])] at hn
   have TU:=fun W=>qs5r s (1+(q91e false r).2.1) 7 W hs (by omega) (by decide)
   rw[←List.drop_drop,hd,show((7:Nat)==6)=false from rfl] at TU
   have tu:=qjai false (r.drop (q91e false r).2.1)
   rw[List.length_drop] at tu
   refine(quzf (T:=bs (q91e false r).1) (U:=bs (q91e false (r.drop (q91e false r).2.1)).1) LK h0 hxx wx TT TU w).mono fun e W ⟨he,hb⟩=>⟨⟨x.toNat,0,(q91e false r).1,(q91e false (r.drop (q91e false r).2.1)).1⟩,_,(q91e false (r.drop (q91e false r).2.1)).2.2,he,hb,?_,fun h=>?_⟩
   ·rw[hn];exact(qzpi _ _ _ _).symm
   ·rw[hn,h];exact⟨by rw[if_neg (by simp)],by rw[if_pos rfl,if_neg (by simp)];show _=((1+(_+_):Nat):Int);rw[Nat.add_assoc],by rw[if_neg (by simp)];show _+_≤_;omega⟩
  ·rw[if_pos hz] at hn
   rw[if_neg hz] at TT
   refine(qyei (T:=bs (q91e false r).1) (z:=((q91e false r).2.2:Nat)) LK h0 hxx wx (by rw[beq_eq_false_iff_ne];omega) TT w).mono fun e W ⟨he,hb⟩=>⟨⟨x.toNat,0,(q91e false r).1,[]⟩,_,(q91e false r).2.2,he,hb,?_,fun h=>absurd h hz⟩
   rw[hn]
section
variable{w W W':World}{cb:Nat}{s:ByteArray}{x:Cs}{v:Int}
theorem qunn(x:Cs):(x.num 1).1 < 256:=by
 unfold Cs.num
 have h1:=qn9h (x.take 1).1
 have hl:(x.take 1).1.length≤1:=by
  unfold Cs.take
  split
  ·simp
  ·split
   ·simp
   ·simp;omega
 have:256^(x.take 1).1.length≤256^1:=Nat.pow_le_pow_right (by decide) hl
 omega
theorem qq02:∀f < 256,∀b4:Bool,(f%2==0&&(decide ((0:Int)≤(f / 8%4:Nat))&&decide (((f / 8%4:Nat):Int)≤2)&&((f / 4%2==1) || (((f / 8%4:Nat):Int)==0&&!(f / 32%2==1)))&&!(b4&&(f / 64%2==1)&&!(f / 128%2==1))))=
 !(f%2==1 || f / 8%4==3 || (f / 4%2==0&&f / 8%8 != 0) || (b4&&f / 64==1)):=by decide+kernel
theorem qdcd(v:Int){f:Nat}(hf:f < 256):(f%2==0&&fitC v (f / 4%2==1) (f / 64%2==1) (f / 128%2==1) (f / 32%2==1) (f / 8%4:Nat))=!qoy6 v f:=qq02 f hf (v==4)
theorem qz9v(y:Cs)(b:Bool)(f:Nat):(if b then y else y.fail f)=if y.e=0∧b=false then y.fail f else y:=by
 cases b
 ·by_cases h:y.e=0
  ·simp[h]
  ·simp[h,Cs.fail]
 ·simp
structure RkS(w:World)(cb:Nat)(s:ByteArray)(v:Int)(y:Cs)(W:World):Prop where
 lt:cb < w.heap.size
 g:w.grownBy W (some cb)
 bx:W.heap[w.heap.size]? = some (.cells #[.pointer (some ⟨cb,0,none⟩),.int .i64 v] 71 (0,0))
 rs:W.heap[w.heap.size+1]? = some (.cells pkZ 28 (0,0))
 cs:CsAt W cb s y
theorem RkS.made(h:CsAt w cb s x):RkS w cb s v x ((w.alloc (.cells #[.pointer (some ⟨cb,0,none⟩),.int .i64 v] 71)).alloc (.cells pkZ 28)):=
 ⟨h.lt,qo6d (World.grownBy_alloc _ _ _) (World.grownBy_alloc _ _ _),heap_alloc2_old _ _ _,heap_alloc2_new _ _ _,(h.alloc _).alloc _⟩
theorem RkS.call{y y':Cs}(h:RkS w cb s v y W)(hc:CsAt W' cb s y')(hg:W.grownBy W' (some cb)):RkS w cb s v y' W':=
 ⟨h.lt,qo6d h.g hg,(hg.block _ (lt_of_block h.bx) (fun e=>by have:=Option.some.inj e;have:=h.lt;omega)).trans h.bx,(hg.block _ (lt_of_block h.rs) (fun e=>by have:=Option.some.inj e;have:=h.lt;omega)).trans h.rs,hc⟩
theorem RkS.below{y:Cs}(h:RkS w cb s v y W)(hb:Below W.heap.size W W'):RkS w cb s v y W':=h.call (h.cs.below hb) (q9cp hb _)
theorem RkS.drew{y:Cs}(h:RkS w cb s v y W):RkS w cb s v y W.drew:=⟨h.lt,qif8 h.g 1,h.bx,h.rs,h.cs⟩
theorem RkS.c0{y:Cs}(h:RkS w cb s v y W):W.cell? ⟨w.heap.size,0,none⟩=some (.pointer (some ⟨cb,0,none⟩)):=cell_of_row _ _ 0 _ _ _ h.bx
theorem RkS.c1{y:Cs}(h:RkS w cb s v y W):W.cell? ⟨w.heap.size,1,none⟩=some (.int .i64 v):=cell_of_row _ _ 1 _ _ _ h.bx
theorem RkS.other{y:Cs}(h:RkS w cb s v y W){B:Nat}(hB:w.heap.size+2≤B)(hg:W.grownBy W' (some B)):RkS w cb s v y W':=
 ⟨h.lt,⟨hg.os.trans h.g.os,hg.tape.trans h.g.tape,hg.output.trans h.g.output,Nat.le_trans h.g.size hg.size,fun k hk hne=>(hg.block k (Nat.lt_of_lt_of_le hk h.g.size) (fun e=>by have:=Option.some.inj e;omega)).trans (h.g.block k hk hne)⟩,
  (hg.block _ (lt_of_block h.bx) (fun e=>by have:=Option.some.inj e;omega)).trans h.bx,(hg.block _ (lt_of_block h.rs) (fun e=>by have:=Option.some.inj e;omega)).trans h.rs,
  h.cs.of_block (hg.block _ h.cs.lt (fun e=>by have:=Option.some.inj e;have:=h.lt;omega))⟩
theorem qacl{B:Nat}{r:Option Nat}(h:w.grownBy W r)(hB:w.heap.size≤B)(D:Array Value):w.grownBy (W.setRow B D) r:=
 ⟨h.os,h.tape,h.output,by have:=h.size;simpa [World.setRow] using this,fun k hk hne=>(setRow_other _ _ _ _ (by omega)).trans (h.block k hk hne)⟩
theorem q573(W:World)(B:Nat)(D:Array Value):W.grownBy (W.setRow B D) (some B):=
 ⟨rfl,rfl,rfl,by simp[World.setRow],fun k _ hne=>setRow_other _ _ _ _ (fun e=>hne (congrArg some e))⟩
theorem qb3g(hm:s.size≤9223372036854775807)(h:CsAt w cb s x) :
 Calls Tryz.prog 171 #[rdrV cb v] w fun e w'=>e = .returned (.agg (pkC (q8ku (x.flags v).1) adZ))∧CsAt w' cb s (x.flags v).2∧w.grownBy w' (some cb):=by
 have S0:=Lib.hid (RkS.made (v:=v) h)
 have OC:=Lib.hid (fun W (h:CsAt W cb s x)=>qevs (v:=v) hm h)
 have hf:=qunn x
 unfold Cs.flags
 rw[show(if (x.num 1).2.e=0∧qoy6 v (x.num 1).1=true then(x.num 1).2.fail 7 else(x.num 1).2)=(if (!qoy6 v (x.num 1).1) then(x.num 1).2 else(x.num 1).2.fail 7) by rw[qz9v];simp]
 generalize x.num 1=z at *
 obtain⟨f,y⟩:=z
 have hw:=qdcd v hf
 obtain⟨_,_,_,_,_,_,hb1⟩:=qmn0 f hf
 have DE:=Lib.hid (qmea f hf)
 have RQ:=Lib.hid (fun(b:Bool) W (h:CsAt W cb s y)=>qr75 (v:=v) b 7 h)
 have FF:=fun W=>qntu v (c:=pkC (q8ku f) adZ) W (show(pkC (q8ku f) adZ)[10]? = some (.bool (f / 128%2==1)) from rfl) (show(pkC (q8ku f) adZ)[12]? = some (.bool (f / 64%2==1)) from rfl) (show(pkC (q8ku f) adZ)[14]? = some (.bool (f / 4%2==1)) from rfl) (show(pkC (q8ku f) adZ)[17]? = some (.int .i64 (f / 8%4:Nat)) from rfl) (show(pkC (q8ku f) adZ)[18]? = some (.bool (f / 32%2==1)) from rfl)
 simp only at hf hw ⊢
 rw[←hw]
 generalize fitC v (f / 4%2==1) (f / 64%2==1) (f / 128%2==1) (f / 32%2==1) (f / 8%4:Nat)=b at *
 obtain⟨g,hgb⟩:∃g,(f%2==0&&b)=g:=⟨_,rfl⟩
 rw[hgb]
 have HGB:=Lib.hid hgb
 obtain⟨yf,hyf⟩:∃z,(if g=true then y else y.fail 7)=z:=⟨_,rfl⟩
 rw[hyf]
 have HY:=Lib.hid hyf
 clear hgb hyf
 have hD1:=qwmp (q8ku f) adZ
 have hD2:=qmz0 (q8ku f) adZ
 generalize pkC (q8ku f) adZ=D at *
 have FF:=Lib.hid FF
 have HD1:=Lib.hid hD1
 have HD2:=Lib.hid hD2
 have HZ:=Lib.hid qbwp
 have hzv:=qrai
 have hne:¬pkZ=#[]:=by intro h;have:=qbwp;rw[h] at this;cases this
 obtain⟨m,hm1⟩:∃m,bits .and .i64 (f:Int) 1=m:=⟨_,rfl⟩
 rw[hm1] at hb1
 have HM:=Lib.hid hm1
 unfold rdrV at *
 clear hD1 hD2 hf hw h
 go_enter Tryz.func171,Tryz.ntmps171
 have c0:=S0.out.c0
 have c1:=S0.out.c1
 go_wp2_with fail
 refine(OC.out _ S0.out.cs).mono ?_
 rintro e W1 ⟨rfl,hc,hg⟩
 have S1:=Lib.hid (S0.out.call hc hg)
 clear hc hg c0 c1
 have c0:=S1.out.c0
 have c1:=S1.out.c1
 go_wp2_with fail
 refine(DE.out _).mono ?_
 rintro e W2 ⟨rfl,hb⟩
 have S2:=Lib.hid (S1.out.below hb)
 clear hb c0 c1
 have Z2:=Lib.hid (show w.heap.size+2≤W2.heap.size from lt_of_block S2.out.rs)
 have SP:=Lib.hid ((S2.out.below (qybm (.cells pkZ 28))).other Z2.out (W':=(W2.alloc (.cells pkZ 28)).setRow W2.heap.size D) (q573 _ _ _))
 have GP:=Lib.hid (setRow_heap _ _ _ D _ _ (heap_alloc_new W2 (.cells pkZ 28)))
 have CB:=Lib.hid S2.out.lt
 cases hz:(f%2==0) with
 | true=>
  rw[hz] at hb1
  have hgb:=HGB.out
  rw[hz,Bool.true_and] at hgb
  have HGB2:=Lib.hid hgb
  clear HGB hgb
  have HB:=Lib.hid hb1
  clear hz hb1
  go_upto_region 3 with (first
   | (refine wpList_store_row rfl _ _ _ rfl W2.heap.size D rfl rfl 28 _ (heap_alloc_new W2 _) (by rw[HD1.out];exact q5nr) (by rw[HZ.out,HD1.out]) HD2.out ?_))
  refine q58n (S:=fun u W=>RkS w cb s v (if u=true then(if b=true then y else y.fail 7) else y) W∧W.heap[W2.heap.size]? = some (.cells D 28 (0,0))) (B:=w.heap.size) (P:=W2.heap.size) ⟨SP.out.drew,GP.out⟩ (fun u W h=>h.1.c0) (fun u W h=>h.1.c1) HM.out HB.out HD1.out (fun u W h=>h.2) (fun u W h=>(FF.out W).mono fun e w' ⟨he,hb⟩=>⟨he,h.1.below hb,(hb.block _ (lt_of_block h.2)).trans h.2⟩) (fun u W h hu=>by
   subst hu
   exact(RQ.out b W h.1.cs).mono fun e w' ⟨he,hc,hg⟩=>⟨he,h.1.call hc hg,(hg.block _ (lt_of_block h.2) (fun e=>by have:=Option.some.inj e;have:=CB.out;have:=Z2.out;omega)).trans h.2⟩) ?_
  intro W3 hS
  have hS1:=hS.1
  rw[if_pos rfl,HGB2.out,HY.out] at hS1
  have S3:=Lib.hid hS1
  have G3:=Lib.hid hS.2
  clear hS hS1
  go_wp2_with (first
   | (refine wpList_load_row rfl _ _ rfl W2.heap.size rfl 28 D (0,0) _ G3.out Tryz.underlying28 rfl (by rw[HD1.out];exact q5nr) ?_)
   | (refine wpList_store_row rfl _ _ _ rfl (w.heap.size+1) D rfl rfl 28 _ S3.out.rs (by rw[HD1.out];exact q5nr) (by rw[HZ.out,HD1.out]) HD2.out ?_))
  refine q7wi (cs:=D) rfl rfl rfl Tryz.underlying28 rfl (by rw[HD1.out];exact q5nr) (setRow_heap _ _ _ _ _ _ S3.out.rs) ⟨rfl,?_,?_⟩
  ·exact S3.out.cs.of_block (setRow_other W3 (w.heap.size+1) cb D (Nat.ne_of_lt (Nat.lt_succ_of_lt S3.out.lt)))
  ·exact qacl S3.out.g (by omega) _
 | false=>
  rw[hz] at hb1
  have hgb:=HGB.out
  rw[hz,Bool.false_and] at hgb
  have HGB2:=Lib.hid hgb
  clear HGB hgb
  have HB:=Lib.hid hb1
  clear hz hb1
  go_upto_region 3 with (first
   | (refine wpList_store_row rfl _ _ _ rfl W2.heap.size D rfl rfl 28 _ (heap_alloc_new W2 _) (by rw[HD1.out];exact q5nr) (by rw[HZ.out,HD1.out]) HD2.out ?_))
  refine q7fu (S:=fun u W=>RkS w cb s v (if u=true then(if false=true then y else y.fail 7) else y) W∧W.heap[W2.heap.size]? = some (.cells D 28 (0,0))) (B:=w.heap.size) (P:=W2.heap.size) ⟨SP.out.drew,GP.out⟩ (fun u W h=>h.1.c0) (fun u W h=>h.1.c1) HM.out HB.out (fun u W h hu=>by
   subst hu
   exact(RQ.out false W h.1.cs).mono fun e w' ⟨he,hc,hg⟩=>⟨he,h.1.call hc hg,(hg.block _ (lt_of_block h.2) (fun e=>by have:=Option.some.inj e;have:=CB.out;have:=Z2.out;omega)).trans h.2⟩) ?_
  intro W3 hS
  have hS1:=hS.1
  rw[if_pos rfl,HGB2.out,HY.out] at hS1
  have S3:=Lib.hid hS1
  have G3:=Lib.hid hS.2
  clear hS hS1
  go_wp2_with (first
   | (refine wpList_load_row rfl _ _ rfl W2.heap.size rfl 28 D (0,0) _ G3.out Tryz.underlying28 rfl (by rw[HD1.out];exact q5nr) ?_)
   | (refine wpList_store_row rfl _ _ _ rfl (w.heap.size+1) D rfl rfl 28 _ S3.out.rs (by rw[HD1.out];exact q5nr) (by rw[HZ.out,HD1.out]) HD2.out ?_))
  refine q7wi (cs:=D) rfl rfl rfl Tryz.underlying28 rfl (by rw[HD1.out];exact q5nr) (setRow_heap _ _ _ _ _ _ S3.out.rs) ⟨rfl,?_,?_⟩
  ·exact S3.out.cs.of_block (setRow_other W3 (w.heap.size+1) cb D (Nat.ne_of_lt (Nat.lt_succ_of_lt S3.out.lt)))
  ·exact qacl S3.out.g (by omega) _
end
structure ReS(w:World)(cb:Nat)(s:ByteArray)(v:Int)(B:Nat)(y:Cs)(P:Pk)(a:Ad)(W:World):Prop where
 rk:RkS w cb s v y W
 hB:w.heap.size+2≤B
 pk:W.heap[B]? = some (.cells (pkC P a) 28 (0,0))
 ps:PL W a.ps P.props
 pc:P.props.length≤a.pc
 pf:∀g i,a.ps=some ⟨g,i,none⟩→B < g
 ws:PL W a.w P.wProps
 wc:P.wProps.length≤a.wc
 wf:∀g i,a.w=some ⟨g,i,none⟩→B < g
section
variable{w W W':World}{cb:Nat}{s:ByteArray}{x y y':Cs}{v:Int}{B:Nat}{P P':Pk}{a a':Ad}
theorem ReS.ne(h:ReS w cb s v B y P a W):B≠cb:=by have:=h.rk.lt;have:=h.hB;omega
theorem ReS.call(h:ReS w cb s v B y P a W)(hc:CsAt W' cb s y')(hg:W.grownBy W' (some cb)):ReS w cb s v B y' P a W':=
 ⟨h.rk.call hc hg,h.hB,(hg.block _ (lt_of_block h.pk) (fun e=>h.ne (Option.some.inj e))).trans h.pk,h.ps.grown hg (fun g i e=>by have:=h.pf g i e;have:=h.rk.lt;have:=h.hB;omega),h.pc,h.pf,h.ws.grown hg (fun g i e=>by have:=h.wf g i e;have:=h.rk.lt;have:=h.hB;omega),h.wc,h.wf⟩
theorem ReS.cell(h:ReS w cb s v B y P a W)(j:Nat):W.cell? ⟨B,j,none⟩=(pkC P a)[j]? := cell_of_row _ _ j _ _ _ h.pk
theorem ReS.fr(h:ReS w cb s v B y P a W)(j:Nat):W.frozen? ⟨B,j,none⟩=false:=frozen_of_row _ _ _ _ _ h.pk
theorem ReS.put(h:ReS w cb s v B y P a W)(j:Nat)(u:Value)(he:(pkC P a).setIfInBounds j u=pkC P' a)(hp:P'.props=P.props)(hw:P'.wProps=P.wProps):ReS w cb s v B y P' a (W.setCell ⟨B,j,none⟩ u):=by
 have hg:=q99v W B j u
 refine⟨h.rk.other h.hB hg,h.hB,by have:=qlvy h.pk j u;rw[he] at this;exact this,?_,by rw[hp];exact h.pc,h.pf,?_,by rw[hw];exact h.wc,h.wf⟩
 ·rw[hp];exact h.ps.grown hg (fun g i e=>by have:=h.pf g i e;omega)
 ·rw[hw];exact h.ws.grown hg (fun g i e=>by have:=h.wf g i e;omega)
theorem ReS.putPs(h:ReS w cb s v B y P a W){A:Option Addr}{c:Nat}{L:List Pr}(hL:PL W A L)(hc:L.length≤c)(hf:∀g i,A=some ⟨g,i,none⟩→B < g):ReS w cb s v B y {P with props:=L} {a with ps:=A,pc:=c} (W.setCell ⟨B,24,none⟩ (.slice A L.length c)):=by
 have hg:=q99v W B 24 (.slice A L.length c)
 exact⟨h.rk.other h.hB hg,h.hB,qlvy h.pk 24 (.slice A L.length c),hL.grown hg (fun g i e=>by have:=hf g i e;omega),hc,hf,h.ws.grown hg (fun g i e=>by have:=h.wf g i e;omega),h.wc,h.wf⟩
theorem ReS.putWs(h:ReS w cb s v B y P a W){A:Option Addr}{c:Nat}{L:List Pr}(hL:PL W A L)(hc:L.length≤c)(hf:∀g i,A=some ⟨g,i,none⟩→B < g):ReS w cb s v B y {P with wProps:=L} {a with w:=A,wc:=c} (W.setCell ⟨B,19,none⟩ (.slice A L.length c)):=by
 have hg:=q99v W B 19 (.slice A L.length c)
 exact⟨h.rk.other h.hB hg,h.hB,qlvy h.pk 19 (.slice A L.length c),h.ps.grown hg (fun g i e=>by have:=h.pf g i e;omega),h.pc,h.pf,hL.grown hg (fun g i e=>by have:=hf g i e;omega),hc,hf⟩
theorem ReS.laid(h:RkS w cb s v y W){D:Array Value}(hD:pkC P adZ=D)(hp:P.props=[])(hw:P.wProps=[]):ReS w cb s v W.heap.size y P adZ ((W.alloc (.cells pkZ 28)).setRow W.heap.size D):=by
 have Z:=lt_of_block h.rs
 refine⟨(h.below (qybm (.cells pkZ 28))).other Z (q573 _ _ _),Z,by rw[hD];exact setRow_heap _ _ _ D _ _ (heap_alloc_new W _),?_,by rw[hp];exact Nat.zero_le _,fun g i e=>(by cases e),?_,by rw[hw];exact Nat.zero_le _,fun g i e=>(by cases e)⟩
 ·rw[hp];exact PL.nil
 ·rw[hw];exact PL.nil
def q563(w:World)(cb:Nat)(s:ByteArray)(y:Cs)(P:Pk)(e:Ending)(W:World):Prop:=
 ∃a:Ad,e = .returned (.agg (pkC P a))∧PL W a.ps P.props∧P.props.length≤a.pc∧PL W a.w P.wProps∧P.wProps.length≤a.wc∧(∀g i,a.ps=some ⟨g,i,none⟩→w.heap.size≤g)∧(∀g i,a.w=some ⟨g,i,none⟩→w.heap.size≤g)∧CsAt W cb s y∧w.grownBy W (some cb)
theorem ReS.ret(h:ReS w cb s v B y P a W)(D:Array Value):q563 w cb s y P (.returned (.agg (pkC P a))) (W.setRow (w.heap.size+1) D):=by
 have hg:=q573 W (w.heap.size+1) D
 have hb:=h.hB
 refine⟨a,rfl,h.ps.grown hg (fun g i e=>by have:=h.pf g i e;omega),h.pc,h.ws.grown hg (fun g i e=>by have:=h.wf g i e;omega),h.wc,fun g i e=>by have:=h.pf g i e;omega,fun g i e=>by have:=h.wf g i e;omega,?_,qacl h.rk.g (by omega) _⟩
 exact h.rk.cs.of_block (setRow_other W (w.heap.size+1) cb D (Nat.ne_of_lt (Nat.lt_succ_of_lt h.rk.lt)))
theorem q1g9:∀f:Nat,f < 256→(bits .andNot .i64 (f:Int) 1==0)=decide (f≤1):=by decide+kernel
theorem qldz(hm:s.size≤9223372036854775807)(h:CsAt w cb s x) :
 Calls Tryz.prog 114 #[rdrV cb v] w (q563 w cb s (qx6n v x).2 (qx6n v x).1):=by
 have S0:=Lib.hid (RkS.made (v:=v) h)
 have hf:=qunn x
 obtain⟨z,hz⟩:∃z,x.num 1=z:=⟨_,rfl⟩
 obtain⟨f,y1⟩:=z
 rw[hz] at hf
 obtain⟨y2,hy2⟩:∃z,(if f > 1 then y1.fail 7 else y1)=z:=⟨_,rfl⟩
 obtain⟨z,hz3⟩:∃z,y2.num 1=z:=⟨_,rfl⟩
 obtain⟨c,y3⟩:=z
 obtain⟨z,hz4⟩:∃z,y3.props v 2=z:=⟨_,rfl⟩
 obtain⟨L,y4⟩:=z
 have e:qx6n v x=({Pk.zero with kind:=2,session:=f==1,code:=(c:Int),props:=L},y4):=by
  unfold qx6n
  simp only[hz,hy2,hz3,hz4]
 rw[e]
 have O1:=fun W (h:CsAt W cb s x)=>qevs (v:=v) hm h
 have O2:=fun W (h:CsAt W cb s y2)=>qevs (v:=v) hm h
 have PR:=fun W (h:CsAt W cb s y3)=>q5sz (v:=v) 2 (by decide) (by decide) hm h
 have RQ:=fun W (h:CsAt W cb s y1)=>qr75 (v:=v) (decide (f≤1)) 7 h
 have ey2:(if decide (f≤1) then y1 else y1.fail 7)=y2:=by
  rw[←hy2]
  by_cases h1:f≤1
  ·rw[decide_eq_true h1,if_pos rfl,if_neg (by omega)]
  ·rw[decide_eq_false h1,if_neg (by decide),if_pos (by omega)]
 have hb1:=q1g9 f hf
 rw[hz] at O1
 rw[hz3] at O2
 rw[hz4] at PR
 rw[ey2] at RQ
 generalize decide (f≤1)=b at *
 have hc0:(f:Int) < 256:=by have:f < 256:=hf;omega
 have hs1:((f:Int)==1)=(f==1):=by
  by_cases h1:f=1
  ·subst h1;rfl
  ·rw[beq_eq_false_iff_ne.2 h1,beq_eq_false_iff_ne.2 (by omega)]
 generalize (f==1)=se at *
 obtain⟨D,hD⟩:∃D,pkC {Pk.zero with kind:=2,session:=se} adZ=D:=⟨_,rfl⟩
 have hD1:=qwmp {Pk.zero with kind:=2,session:=se} adZ
 have hD2:=qmz0 {Pk.zero with kind:=2,session:=se} adZ
 rw[hD] at hD1 hD2
 have HD:=Lib.hid hD
 have HD1:=Lib.hid hD1
 have HD2:=Lib.hid hD2
 have HZ:=Lib.hid qbwp
 have hzv:=qrai
 have hne:¬pkZ=#[]:=by intro h;have:=qbwp;rw[h] at this;cases this
 have O1:=Lib.hid O1
 have O2:=Lib.hid O2
 have PR:=Lib.hid PR
 have RQ:=Lib.hid RQ
 unfold rdrV at *
 clear hf hz hy2 hz3 hz4 e ey2 h hD hD1 hD2
 go_enter Tryz.func114,Tryz.ntmps114
 have c0:=S0.out.c0
 have c1:=S0.out.c1
 go_wp2_with fail
 refine(O1.out _ S0.out.cs).mono ?_
 rintro e W1 ⟨rfl,hc,hg⟩
 have S1:=Lib.hid (S0.out.call hc hg)
 clear hc hg c0 c1
 have c0:=S1.out.c0
 have c1:=S1.out.c1
 go_wp2_with fail
 refine(RQ.out _ S1.out.cs).mono ?_
 rintro e W2 ⟨rfl,hc,hg⟩
 have S2:=Lib.hid (S1.out.call hc hg)
 clear hc hg c0 c1
 have SP:=Lib.hid (ReS.laid S2.out HD.out rfl rfl)
 have c0:=SP.out.rk.c0
 have c1:=SP.out.rk.c1
 go_wp2_with (first
  | (refine wpList_buildTo rfl 28 _ rfl (some 14) rfl D (by rw[←HD.out];kernel_rfl) ?_)
  | (refine wpList_store_row rfl _ _ _ rfl W2.heap.size D rfl rfl 28 _ (heap_alloc_new W2 _) (by rw[HD1.out];exact q5nr) (by rw[HZ.out,HD1.out]) HD2.out ?_))
 refine(O2.out _ SP.out.rk.cs).mono ?_
 rintro e W3 ⟨rfl,hc,hg⟩
 have S3:=Lib.hid (SP.out.call hc hg)
 clear hc hg c0 c1
 generalize W2.heap.size=B at *
 have S4:=Lib.hid (S3.out.put 21 (.int .i64 (c:Int)) (P':={Pk.zero with kind:=2,session:=se,code:=(c:Int)}) rfl rfl rfl)
 have n21:W3.cell? ⟨B,21,none⟩=some (.int .i64 0):=S3.out.cell 21
 have f21:=S3.out.fr 21
 have c0:=S4.out.rk.c0
 have c1:=S4.out.rk.c1
 go_wp2_with fail
 clear n21 f21
 refine(PR.out _ S4.out.rk.cs).mono ?_
 rintro e W5 ⟨⟨A,cc,rfl,hl,hP,hA⟩,ok,h1000,hc,hg⟩
 have hBW:=lt_of_block S4.out.pk
 have S5:=Lib.hid (S4.out.call hc hg)
 have S6:=Lib.hid (S5.out.putPs hP hl (fun g i e=>Nat.lt_trans hBW (hA g i e)))
 clear hc hg c0 c1 hP hl hA hBW ok h1000
 have n24:W5.cell? ⟨B,24,none⟩=some (.slice none 0 0):=S5.out.cell 24
 have f24:=S5.out.fr 24
 have G6:=S6.out.pk
 have hE1:=qwmp {Pk.zero with kind:=2,session:=se,code:=(c:Int),props:=L} {adZ with ps:=A,pc:=cc}
 have hE2:=qmz0 {Pk.zero with kind:=2,session:=se,code:=(c:Int),props:=L} {adZ with ps:=A,pc:=cc}
 have GR:=Lib.hid S6.out.rk.rs
 have RT:=S6.out.ret (pkC {Pk.zero with kind:=2,session:=se,code:=(c:Int),props:=L} {adZ with ps:=A,pc:=cc})
 obtain⟨E,hE⟩:∃E,pkC {Pk.zero with kind:=2,session:=se,code:=(c:Int),props:=L} {adZ with ps:=A,pc:=cc}=E:=⟨_,rfl⟩
 change q563 w cb s y4 _ (.returned (.agg (pkC {Pk.zero with kind:=2,session:=se,code:=(c:Int),props:=L} {adZ with ps:=A,pc:=cc}))) _ at RT
 change _=some (Obj.cells (pkC {Pk.zero with kind:=2,session:=se,code:=(c:Int),props:=L} {adZ with ps:=A,pc:=cc}) _ _) at G6
 rw[hE] at hE1 hE2 G6 RT
 have HE1:=Lib.hid hE1
 have HE2:=Lib.hid hE2
 have G6:=Lib.hid G6
 have RT:=Lib.hid RT
 clear hE1 hE2 hE
 go_wp2_with (first
  | (refine wpList_load_row rfl _ _ rfl B rfl 28 E (0,0) _ G6.out Tryz.underlying28 rfl (by rw[HE1.out];exact q5nr) ?_)
  | (refine wpList_store_row rfl _ _ _ rfl (w.heap.size+1) E rfl rfl 28 _ GR.out (by rw[HE1.out];exact q5nr) (by rw[HZ.out,HE1.out]) HE2.out ?_))
 exact q7wi (cs:=E) rfl rfl rfl Tryz.underlying28 rfl (by rw[HE1.out];exact q5nr) (setRow_heap _ _ _ _ _ _ GR.out) RT.out
end
end Go.Proofs.YtaahhbjnflimnaaGreat
