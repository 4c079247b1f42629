/- Plain facts: what CONNECT and CONNACK may hold, their bodies, what is read of them. No condition. -/
import Derived.Deep.LoopGhost
import Derived.Deep.QuietTactic
import Derived.Laws.ResultCell
import Derived.Lib.Hide
import Derived.WalkKit
import Derived.Lib.Walk
import Derived.Lib.Tables
import Derived.Test.YtaahhbjnflimnaaGreatK06
import Derived.Test.YtaahhbjnflimnaaGreatK07
import Derived.Test.YtaahhbjnflimnaaGreatK04
namespace Go.Proofs.YtaahhbjnflimnaaGreat
def bitC(b:Bool)(n:Nat):Nat:=if b then n else 0
def qc61(p:Pk):Nat:=
 if p.kind=1 then bitC p.hasUser 128+bitC p.hasPass 64+bitC p.wRetain 32+8*(p.wQos%4).toNat+bitC p.hasWill 4+bitC p.clean 2 else 0
def qm70(p:Pk):Pk:=
 if p.kind=2 then {Pk.zero with kind:=p.kind,session:=p.session,code:=p.code,props:=p.props}
 else {Pk.zero with
  kind:=p.kind,clean:=p.clean,keep:=p.keep,client:=p.client,hasUser:=p.hasUser,hasPass:=p.hasPass,hasWill:=p.hasWill,props:=p.props,
  user:=if p.hasUser then p.user else [],pass:=if p.hasPass then p.pass else [],
  wTopic:=if p.hasWill then p.wTopic else [],wPayload:=if p.hasWill then p.wPayload else [],wQos:=if p.hasWill then p.wQos else 0,wRetain:=p.hasWill&&p.wRetain,wProps:=if p.hasWill then p.wProps else []}
def versC(v:Int):Bool:=v==4 || v==5
def okC(v:Int)(p:Pk):Bool:=
 versC v&&(p.kind==1 || p.kind==2)&&decide (p=qm70 p)&&!(v==4&&!(p.props.isEmpty&&p.wProps.isEmpty))&&
 if p.kind=2 then(if v=4 then qfn3 p.code else mayR 2 p.code)&&(!p.session || p.code==0)
 else !(v==4&&(p.client.isEmpty&&!p.clean || p.hasPass&&!p.hasUser))&&decide (0≤p.keep∧p.keep≤65535)&&decide (0≤p.wQos∧p.wQos≤2)
def qfk9(v kind:Int)(l:List Pr):Nat:=if v=5 then qpyu kind l else 0
def validC(v:Int)(p:Pk):Nat:=
 if okC v p=false then 2 else if (qecx p.client&&qecx p.user)=false then 6 else if (p.hasWill&&!q95c p.wTopic)=true then 10
 else if 65535 < p.wPayload.length∨65535 < p.pass.length then 2
 else if qfk9 v p.kind p.props≠0 then qfk9 v p.kind p.props else qfk9 v 16 p.wProps
def qasq(v kind:Int)(l:List Pr):List UInt8:=if v=5 then(q5aq kind l).1 else []
def q1f4:List UInt8:=[77,81,84,84]
def rawC(v:Int)(p:Pk):List UInt8:=
 if p.kind=2 then UInt8.ofNat (bitC p.session 1)::UInt8.ofNat p.code.toNat::qasq v 2 p.props
 else enc2 q1f4++([UInt8.ofNat v.toNat]++([UInt8.ofNat (qc61 p)]++(be p.keep.toNat 2++(qasq v 1 p.props++(enc2 p.client++
  ((if p.hasWill then qasq v 16 p.wProps++(enc2 p.wTopic++enc2 p.wPayload) else [])++((if p.hasUser then enc2 p.user else [])++if p.hasPass then enc2 p.pass else [])))))))
def qso1(v:Int)(p:Pk):List UInt8×Nat:=if validC v p≠0 then([],validC v p) else(rawC v p,0)
structure Cs where
 r:List UInt8
 e:Nat
def Cs.fail(s:Cs)(e:Nat):Cs:=if s.e≠0 then s else⟨s.r,e⟩
def Cs.take(s:Cs)(n:Nat):List UInt8×Cs:=if s.e≠0 then([],s) else if s.r.length < n then([],⟨s.r,3⟩) else(s.r.take n,⟨s.r.drop n,0⟩)
def Cs.num(s:Cs)(n:Nat):Nat×Cs:=(Go.Proofs.YtaahhbjnflimnaaGreat.num (s.take n).1,(s.take n).2)
def Cs.bin(s:Cs):List UInt8×Cs:=if s.e≠0 then([],s) else((rdB s.r).1,⟨s.r.drop (rdB s.r).2.1,(rdB s.r).2.2⟩)
def Cs.text(s:Cs):List UInt8×Cs:=if s.e≠0 then([],s) else((rdT s.r).1,⟨s.r.drop (rdT s.r).2.1,(rdT s.r).2.2⟩)
def Cs.props(s:Cs)(v kind:Int):List Pr×Cs:=if s.e≠0∨v≠5 then([],s) else((qflw kind s.r).1,⟨s.r.drop (qflw kind s.r).2.1,(qflw kind s.r).2.2⟩)
def qoy6(v:Int)(f:Nat):Bool:=f%2==1 || f / 8%4==3 || (f / 4%2==0&&f / 8%8 != 0) || (v==4&&f / 64==1)
def Cs.name(s:Cs):Cs:=if (s.take 6).2.e=0∧(s.take 6).1≠enc2 q1f4 then(s.take 6).2.fail 5 else(s.take 6).2
def Cs.vers(s:Cs)(v:Int):Cs:=if (s.num 1).2.e=0∧((s.num 1).1:Int)≠v then(s.num 1).2.fail 5 else(s.num 1).2
def Cs.flags(s:Cs)(v:Int):Nat×Cs:=((s.num 1).1,if (s.num 1).2.e=0∧qoy6 v (s.num 1).1=true then(s.num 1).2.fail 7 else(s.num 1).2)
def Cs.optT(s:Cs)(b:Bool):List UInt8×Cs:=if b then s.text else([],s)
def Cs.optB(s:Cs)(b:Bool):List UInt8×Cs:=if b then s.bin else([],s)
def Cs.optP(s:Cs)(b:Bool)(v kind:Int):List Pr×Cs:=if b then s.props v kind else([],s)
def qnld(v:Int)(s:Cs):Pk×Cs:=
 let c:=(s.name.vers v).flags v
 let d:=c.2.num 2
 let p:=d.2.props v 1
 let q:=p.2.text
 let wp:=q.2.optP (c.1 / 4%2==1) v 16
 let wt:=wp.2.optT (c.1 / 4%2==1)
 let wd:=wt.2.optB (c.1 / 4%2==1)
 let us:=wd.2.optT (c.1 / 128%2==1)
 let ps:=us.2.optB (c.1 / 64%2==1)
 ({Pk.zero with
  kind:=1,clean:=c.1 / 2%2==1,keep:=d.1,client:=q.1,hasUser:=c.1 / 128%2==1,user:=us.1,hasPass:=c.1 / 64%2==1,pass:=ps.1,hasWill:=c.1 / 4%2==1,
  wTopic:=wt.1,wPayload:=wd.1,wQos:=(c.1 / 8%4:Nat),wRetain:=c.1 / 32%2==1,wProps:=wp.1,props:=p.1},ps.2)
def qx6n(v:Int)(s:Cs):Pk×Cs:=
 let a:=s.num 1
 let s1:=if a.1 > 1 then a.2.fail 7 else a.2
 let b:=s1.num 1
 let p:=b.2.props v 2
 ({Pk.zero with kind:=2,session:=a.1==1,code:=b.1,props:=p.1},p.2)
def q56s(v kind:Int)(l:List UInt8):Pk×Nat:=
 if (versC v&&(kind==1 || kind==2))=false then(Pk.zero,2)
 else
  let x:=if kind=1 then qnld v ⟨l,0⟩ else qx6n v ⟨l,0⟩
  let s:=if x.2.e=0∧x.2.r≠[] then x.2.fail 5 else x.2
  let s:=s.fail (validC v x.1)
  if s.e≠0 then(Pk.zero,s.e) else(x.1,0)
theorem qgoi{v:Int}{p:Pk}(h:validC v p=0):okC v p=true∧qecx p.client=true∧qecx p.user=true∧(p.hasWill=true→q95c p.wTopic=true)∧p.wPayload.length≤65535∧p.pass.length≤65535∧qfk9 v p.kind p.props=0∧qfk9 v 16 p.wProps=0:=by
 rw[validC] at h
 split at h
 ·cases h
 split at h
 ·cases h
 split at h
 ·cases h
 split at h
 ·cases h
 rename_i h1 h2 h3 h4
 split at h
 ·rename_i h5;exact absurd h h5
 rename_i h5
 rw[Bool.and_eq_false_iff,not_or,Bool.not_eq_false,Bool.not_eq_false] at h2
 rw[not_or] at h4
 refine⟨by simpa using h1,h2.1,h2.2,fun hw=>?_,by omega,by omega,by simpa using h5,h⟩
 rw[hw] at h3
 simpa using h3
theorem ok_c{v:Int}{p:Pk}(h:okC v p=true):(v=4∨v=5)∧(p.kind=1∨p.kind=2)∧p=qm70 p∧(v=4→p.props=[]∧p.wProps=[])∧
 (p.kind=2→(if v=4 then qfn3 p.code else mayR 2 p.code)=true∧(p.session=true→p.code=0))∧
 (p.kind=1→(v=4→(p.client=[]→p.clean=true)∧(p.hasPass=true→p.hasUser=true))∧(0≤p.keep∧p.keep≤65535)∧0≤p.wQos∧p.wQos≤2):=by
 unfold okC at h
 simp only[Bool.and_eq_true,Bool.or_eq_true,beq_iff_eq,decide_eq_true_eq,versC] at h
 obtain⟨⟨⟨⟨hv,hk⟩,hu⟩,h4⟩,hr⟩:=h
 refine⟨hv,hk,hu,fun e=>?_,fun e=>?_,fun e=>?_⟩
 ·subst e
  have h4:=h4
  simp only[beq_self_eq_true,Bool.true_and,Bool.not_not,Bool.and_eq_true,List.isEmpty_iff] at h4
  exact h4
 ·rw[if_pos e] at hr
  simp only[Bool.and_eq_true,Bool.or_eq_true,Bool.not_eq_true',beq_iff_eq] at hr
  refine⟨hr.1,fun es=>?_⟩
  rcases hr.2 with h | h
  ·rw[es] at h;cases h
  ·exact h
 ·rw[if_neg (by omega)] at hr
  simp only[Bool.and_eq_true,decide_eq_true_eq] at hr
  refine⟨fun e4=>?_,hr.1.2,hr.2⟩
  have h1:=hr.1.1
  subst e4
  simp only[beq_self_eq_true,Bool.true_and,Bool.not_eq_true',Bool.or_eq_false_iff,Bool.and_eq_false_iff,Bool.not_eq_false',List.isEmpty_eq_false_iff] at h1
  refine⟨fun ec=>?_,fun ep=>?_⟩
  ·rcases h1.1 with h | h
   ·exact absurd ec h
   ·exact h
  ·rcases h1.2 with h | h
   ·rw[ep] at h;cases h
   ·exact h
theorem qp3s{v:Int}{c:Int}(h:(if v=4 then qfn3 c else mayR 2 c)=true):0≤c∧c < 163:=by
 split at h
 ·simp[qfn3] at h;omega
 ·simp only[mayR,Bool.and_eq_true,decide_eq_true_eq] at h
  have:=q5yb (grp 2) (qljz 2) c.toNat (by simpa using h.2)
  omega
def fl(u a r w c:Bool)(q:Nat):Nat:=bitC u 128+bitC a 64+bitC r 32+8*q+bitC w 4+bitC c 2
theorem qwk3(u a r w c:Bool){q:Nat}(hq:q < 3):fl u a r w c q < 256∧(fl u a r w c q / 128%2==1)=u∧(fl u a r w c q / 64%2==1)=a∧(fl u a r w c q / 32%2==1)=r∧fl u a r w c q / 8%4=q∧(fl u a r w c q / 4%2==1)=w∧(fl u a r w c q / 2%2==1)=c:=by
 obtain rfl | rfl | rfl:q=0∨q=1∨q=2:=by omega
 all_goals (revert u a r w c;decide+kernel)
theorem qv7n{p:Pk}{q:Nat}(hk:p.kind=1)(hq:p.wQos=q)(h3:q < 3):qc61 p=fl p.hasUser p.hasPass p.wRetain p.hasWill p.clean q:=by
 rw[qc61,if_pos hk,hq,fl]
 have:(((q:Nat):Int)%4).toNat=q:=by omega
 rw[this]
theorem qmh4{x:List UInt8}(h:q95c x=true):qecx x=true:=by
 simp only[q95c,Bool.and_eq_true] at h
 exact h.1.1.2
theorem qpzx{k:Nat}:be k 1=[UInt8.ofNat k]:=by simp[be]
theorem qy6q(v:Int)(s:Cs){c d:Nat×Cs}{p wp:List Pr×Cs}{q wt wd us ps:List UInt8×Cs}(hc:(s.name.vers v).flags v=c)(hd:c.2.num 2=d)(hp:d.2.props v 1=p)(hq:p.2.text=q)
 (hwp:q.2.optP (c.1 / 4%2==1) v 16=wp) (hwt:wp.2.optT (c.1 / 4%2==1)=wt) (hwd:wt.2.optB (c.1 / 4%2==1)=wd) (hus:wd.2.optT (c.1 / 128%2==1)=us) (hps:us.2.optB (c.1 / 64%2==1)=ps) :
 qnld v s=({Pk.zero with
 kind:=1,clean:=c.1 / 2%2==1,keep:=d.1,client:=q.1,hasUser:=c.1 / 128%2==1,user:=us.1,hasPass:=c.1 / 64%2==1,pass:=ps.1,hasWill:=c.1 / 4%2==1,
 wTopic:=wt.1,wPayload:=wd.1,wQos:=(c.1 / 8%4:Nat),wRetain:=c.1 / 32%2==1,wProps:=wp.1,props:=p.1},ps.2):=by
 subst hc hd hp hq hwp hwt hwd hus hps
 rfl
theorem Cs.fail_no{s:Cs}{e:Nat}(h:(s.fail e).e=0):s.e=0∧e=0:=by
 unfold Cs.fail at h
 split at h
 ·rename_i h1;exact absurd h h1
 ·rename_i h1;exact⟨by simpa using h1,h⟩
end Go.Proofs.YtaahhbjnflimnaaGreat
namespace Go.Proofs.YtaahhbjnflimnaaGreat
open Go.RowKit
theorem qgiq(w:World)(x y:Nat):(w.drewN x).drewN y=w.drewN (x+y):=by simp[World.drewN,Nat.add_assoc]
theorem qs8g{T:Type}{l m:List T}{n:Nat}(hl:l.length=n)(hm:m.length=n)(h:∀j p q,j < n→l[j]? = some p→m[j]? = some q→p=q):l=m:=by
 apply List.ext_getElem?
 intro j
 by_cases hj:j < n
 ·rw[List.getElem?_eq_getElem (by omega),List.getElem?_eq_getElem (by omega)]
  exact congrArg some (h j _ _ hj (List.getElem?_eq_getElem (by omega)) (List.getElem?_eq_getElem (by omega)))
 ·rw[List.getElem?_eq_none (by omega),List.getElem?_eq_none (by omega)]
theorem qzlf(p q:Pr):p=q∨(p.id==q.id)=false∨(p.id=q.id∧(((p.n:Nat):Int)==((q.n:Nat):Int))=false)∨(p.id=q.id∧p.n=q.n∧((bs p.text).toList==(bs q.text).toList)=false)∨(p.id=q.id∧p.n=q.n∧p.text=q.text∧((bs p.value).toList==(bs q.value).toList)=false):=by
 obtain⟨a,b,c,d⟩:=p
 obtain⟨a',b',c',d'⟩:=q
 simp only[q0c6]
 by_cases h1:a=a'
 ·by_cases h2:b=b'
  ·by_cases h3:c=c'
   ·by_cases h4:d=d'
    ·subst h1 h2 h3 h4;exact .inl rfl
    ·exact .inr (.inr (.inr (.inr ⟨h1,h2,h3,by rw[beq_eq_false_iff_ne];exact h4⟩)))
   ·exact .inr (.inr (.inr (.inl ⟨h1,h2,by rw[beq_eq_false_iff_ne];exact h3⟩)))
  ·exact .inr (.inr (.inl ⟨h1,by rw[beq_eq_false_iff_ne];omega⟩))
 ·exact .inr (.inl (by rw[beq_eq_false_iff_ne];exact h1))
def fiV(f:Fi):Value := .agg #[.string (bs f.topic),.int .i64 f.qos,.bool f.noLocal,.bool f.asPub,.int .i64 f.handling]
theorem qpuj(p q:Fi):p=q∨((bs p.topic).toList==(bs q.topic).toList)=false∨(p.topic=q.topic∧(p.qos==q.qos)=false)∨(p.topic=q.topic∧p.qos=q.qos∧(p.noLocal==q.noLocal)=false)∨(p.topic=q.topic∧p.qos=q.qos∧p.noLocal=q.noLocal∧(p.asPub==q.asPub)=false)∨(p.topic=q.topic∧p.qos=q.qos∧p.noLocal=q.noLocal∧p.asPub=q.asPub∧(p.handling==q.handling)=false):=by
 obtain⟨a,b,c,d,e⟩:=p
 obtain⟨a',b',c',d',e'⟩:=q
 simp only[q0c6]
 by_cases h1:a=a'
 ·by_cases h2:b=b'
  ·by_cases h3:c=c'
   ·by_cases h4:d=d'
    ·by_cases h5:e=e'
     ·subst h1 h2 h3 h4 h5;exact .inl rfl
     ·exact .inr (.inr (.inr (.inr (.inr ⟨h1,h2,h3,h4,by rw[beq_eq_false_iff_ne];exact h5⟩))))
    ·exact .inr (.inr (.inr (.inr (.inl ⟨h1,h2,h3,by rw[beq_eq_false_iff_ne];exact h4⟩))))
   ·exact .inr (.inr (.inr (.inl ⟨h1,h2,by rw[beq_eq_false_iff_ne];exact h3⟩)))
  ·exact .inr (.inr (.inl ⟨h1,by rw[beq_eq_false_iff_ne];exact h2⟩))
 ·exact .inr (.inl (by rw[beq_eq_false_iff_ne];exact h1))
theorem qd1x(p q:Int):p=q∨(p==q)=false:=by
 by_cases h:p=q
 ·exact .inl h
 ·exact .inr (by rw[beq_eq_false_iff_ne];exact h)
theorem qp2i{v kind:Int}{l:List Pr}(h:qfk9 v kind l=0):(qasq v kind l).length≤300000000:=by
 unfold qasq
 unfold qfk9 at h
 split
 ·rename_i h5
  rw[if_pos h5] at h
  obtain⟨_,_,_,h4⟩:=qpfx h
  unfold q5aq
  rw[if_neg (by simpa using h),List.length_append,q8sw]
  have:=qnl4 (q636 l).length h4
  omega
 ·exact Nat.zero_le _
structure BxS(w:World)(p:Pk)(a:Ad)(W:World):Prop where
 low:Below w.heap.size w W
 box:W.heap[w.heap.size]? = some (.cells (pkC p a) 28 (0,0))
theorem BxS.made(w:World)(p:Pk)(a:Ad):BxS w p a (w.alloc (.cells (pkC p a) 28)):=⟨qybm _,heap_alloc_new _ _⟩
theorem BxS.call{w W W':World}{p:Pk}{a:Ad}(h:BxS w p a W)(hb:Below W.heap.size W W'):BxS w p a W':=⟨qxh2 h.low hb,(hb.block _ (lt_of_block h.box)).trans h.box⟩
theorem BxS.draw{w W:World}{p:Pk}{a:Ad}(h:BxS w p a W):BxS w p a W.drew:=⟨h.low.drew,h.box⟩
theorem BxS.cell{w W:World}{p:Pk}{a:Ad}(h:BxS w p a W)(j:Nat):W.cell? ⟨w.heap.size,j,none⟩=(pkC p a)[j]? := cell_of_row _ _ j _ _ _ h.box
theorem q2a5{P:Program}{ops:Array Oper}{rest:List Oper}{o:Oper}{a:Act}{w:World}{Q:Exit→Act→World→Prop}(hw:Region.wanted o (yielded ops a.tmps)=true)(ty:TypeId)(x:Operand)(ho:o.op = .load ty x)
 (g:Nat) (hx:a.eval x = .pointer (some ⟨g,0,none⟩)) (t:TypeId) (cs:Array Value) (fr:Nat×Nat) (d:TypeDesc) (hg:w.heap[g]? = some (.cells cs t fr))
 (hu:P.underlying ty=some d) (hd:(match d with | .struct _ | .array _ _=>true | _=>false)=true) (hi:(P.info? ty).map (·.size)=some cs.size)
 (h:wpList P ops Q rest (a.put o.dst (.agg cs)) w):wpList P ops Q (o::rest) a w:=by
 unfold wpList
 rw[if_pos hw]
 exact .inl (wp_load_row ty x ho g hx t cs fr d hg hu hd hi h)
end Go.Proofs.YtaahhbjnflimnaaGreat
