/- Plain facts: what CONNECT and CONNACK may hold, their bodies, what is read of them. No condition. -/
import Derived.Test.YtombgnfedafkjaaGreatDoorK06
import Derived.Test.YtombgnfedafkjaaGreatDoorK08
namespace Go.Proofs.YtombgnfedafkjaaGreatDoor
def bitC(b:Bool)(n:Nat):Nat:=if b then n else 0
def qc61(p:Pk):Nat:=
 if p.kind=1 then bitC p.hasUser 128+bitC p.hasPass 64+bitC p.wRetain 32+8*(p.wQos%4).toNat+bitC p.hasWill 4+bitC p.clean 2 else 0
def qm70(p:Pk):Pk:=
 if p.kind=2 then {Pk.zero with kind:=p.kind,session:=p.session,code:=p.code,props:=p.props}
 else {Pk.zero with
  kind:=p.kind,clean:=p.clean,keep:=p.keep,client:=p.client,hasUser:=p.hasUser,hasPass:=p.hasPass,hasWill:=p.hasWill,props:=p.props,
  user:=if p.hasUser then p.user else [],pass:=if p.hasPass then p.pass else [],
  wTopic:=if p.hasWill then p.wTopic else [],wPayload:=if p.hasWill then p.wPayload else [],wQos:=if p.hasWill then p.wQos else 0,wRetain:=p.hasWill&&p.wRetain,wProps:=if p.hasWill then p.wProps else []}
def versC(v:Int):Bool:=v==4 || v==5
def okC(v:Int)(p:Pk):Bool:=
 versC v&&(p.kind==1 || p.kind==2)&&decide (p=qm70 p)&&!(v==4&&!(p.props.isEmpty&&p.wProps.isEmpty))&&
 if p.kind=2 then(if v=4 then qfn3 p.code else mayR 2 p.code)&&(!p.session || p.code==0)
 else !(v==4&&(p.client.isEmpty&&!p.clean || p.hasPass&&!p.hasUser))&&decide (0<=p.keep/\p.keep<=65535)&&decide (0<=p.wQos/\p.wQos<=2)
def rightC(v kind:Int)(l:List Pr):Nat:=if v=5 then qpyu kind l else 0
def validC(v:Int)(p:Pk):Nat:=
 if okC v p=false then 2 else if (qecx p.client&&qecx p.user)=false then 6 else if (p.hasWill&&!q95c p.wTopic)=true then 10
 else if 65535<p.wPayload.length\/65535<p.pass.length then 2
 else if rightC v p.kind p.props≠0 then rightC v p.kind p.props else rightC v 16 p.wProps
def tailC(v kind:Int)(l:List Pr):List UInt8:=if v=5 then(q5aq kind l).1 else []
def q1f4:List UInt8:=[77,81,84,84]
def rawC(v:Int)(p:Pk):List UInt8:=
 if p.kind=2 then UInt8.ofNat (bitC p.session 1)::UInt8.ofNat p.code.toNat::tailC v 2 p.props
 else enc2 q1f4++([UInt8.ofNat v.toNat]++([UInt8.ofNat (qc61 p)]++(be p.keep.toNat 2++(tailC v 1 p.props++(enc2 p.client++
  ((if p.hasWill then tailC v 16 p.wProps++(enc2 p.wTopic++enc2 p.wPayload) else [])++((if p.hasUser then enc2 p.user else [])++if p.hasPass then enc2 p.pass else [])))))))
def qso1(v:Int)(p:Pk):List UInt8×Nat:=if validC v p≠0 then([],validC v p) else(rawC v p,0)
structure Cs where
 r:List UInt8
 e:Nat
def Cs.fail(s:Cs)(e:Nat):Cs:=if s.e≠0 then s else⟨s.r,e⟩
def Cs.take(s:Cs)(n:Nat):List UInt8×Cs:=if s.e≠0 then([],s) else if s.r.length<n then([],⟨s.r,3⟩) else(s.r.take n,⟨s.r.drop n,0⟩)
def Cs.num(s:Cs)(n:Nat):Nat×Cs:=(Go.Proofs.YtombgnfedafkjaaGreatDoor.num (s.take n).1,(s.take n).2)
def Cs.bin(s:Cs):List UInt8×Cs:=if s.e≠0 then([],s) else((rdB s.r).1,⟨s.r.drop (rdB s.r).2.1,(rdB s.r).2.2⟩)
def Cs.text(s:Cs):List UInt8×Cs:=if s.e≠0 then([],s) else((rdT s.r).1,⟨s.r.drop (rdT s.r).2.1,(rdT s.r).2.2⟩)
def Cs.props(s:Cs)(v kind:Int):List Pr×Cs:=if s.e≠0\/v≠5 then([],s) else((qflw kind s.r).1,⟨s.r.drop (qflw kind s.r).2.1,(qflw kind s.r).2.2⟩)
theorem Cs.take_app{x t:List UInt8}{n:Nat}(h:x.length=n):(Cs.mk (x++t) 0).take n=(x,⟨t,0⟩):=by subst h;simp[Cs.take]
theorem Cs.num_app{k c:Nat}{t:List UInt8}(h:k<256^c):(Cs.mk (be k c++t) 0).num c=(k,⟨t,0⟩):=by rw[Cs.num,Cs.take_app (q0rl c k),q7wd,Nat.mod_eq_of_lt h]
theorem qdoow{x t:List UInt8}(h:x.length<=65535):rdB (enc2 x++t)=(x,x.length+2,0):=by
 have h2:(be x.length 2++(x++t)).take 2=be x.length 2:=by rw[List.take_left' (q0rl 2 _)]
 have hd:(be x.length 2++(x++t)).drop 2=x++t:=by rw[List.drop_left' (q0rl 2 _)]
 have hn:num (be x.length 2)=x.length:=by rw[q7wd,Nat.mod_eq_of_lt (by omega)]
 rw[rdB,enc2,List.append_assoc,h2,hd,hn,if_pos ⟨by simp[q0rl],by simp[q0rl]⟩,List.take_left' rfl,Nat.add_comm]
theorem Cs.bin_app{x t:List UInt8}(h:x.length<=65535):(Cs.mk (enc2 x++t) 0).bin=(x,⟨t,0⟩):=by simp only[Cs.bin,qdoow h,ne_eq,not_true_eq_false,if_false];rw[List.drop_left' (qnp6 x)]
theorem Cs.text_app{x t:List UInt8}(h:qecx x=true):(Cs.mk (enc2 x++t) 0).text=(x,⟨t,0⟩):=by have hl:x.length<=65535:=((qbv6 x).1 h).1;simp only[Cs.text,rdT,qdoow hl,ne_eq,not_true_eq_false,if_false,h,if_true];rw[List.drop_left' (qnp6 x)]
theorem Cs.props_app{v kind:Int}{l:List Pr}{t:List UInt8}(h:rightC v kind l=0)(h4:v≠5->l=[]):(Cs.mk (tailC v kind l++t) 0).props v kind=(l,⟨t,0⟩):=by
 by_cases hv:v=5
 ·rw[rightC,if_pos hv] at h
  have:=qyqt h t
  simp only[Cs.props,tailC,if_pos hv,this];simp[hv]
 ·rw[h4 hv];simp[Cs.props,tailC,hv]
def qoy6(v:Int)(f:Nat):Bool:=f%2==1 || f / 8%4==3 || (f / 4%2==0&&f / 8%8 != 0) || (v==4&&f / 64==1)
def Cs.name(s:Cs):Cs:=if (s.take 6).2.e=0/\(s.take 6).1≠enc2 q1f4 then(s.take 6).2.fail 5 else(s.take 6).2
def Cs.vers(s:Cs)(v:Int):Cs:=if (s.num 1).2.e=0/\((s.num 1).1:Int)≠v then(s.num 1).2.fail 5 else(s.num 1).2
def Cs.flags(s:Cs)(v:Int):Nat×Cs:=((s.num 1).1,if (s.num 1).2.e=0/\qoy6 v (s.num 1).1=true then(s.num 1).2.fail 7 else(s.num 1).2)
def Cs.optT(s:Cs)(b:Bool):List UInt8×Cs:=if b then s.text else([],s)
def Cs.optB(s:Cs)(b:Bool):List UInt8×Cs:=if b then s.bin else([],s)
def Cs.optP(s:Cs)(b:Bool)(v kind:Int):List Pr×Cs:=if b then s.props v kind else([],s)
def qnld(v:Int)(s:Cs):Pk×Cs:=
 let c:=(s.name.vers v).flags v
 let d:=c.2.num 2
 let p:=d.2.props v 1
 let q:=p.2.text
 let wp:=q.2.optP (c.1 / 4%2==1) v 16
 let wt:=wp.2.optT (c.1 / 4%2==1)
 let wd:=wt.2.optB (c.1 / 4%2==1)
 let us:=wd.2.optT (c.1 / 128%2==1)
 let ps:=us.2.optB (c.1 / 64%2==1)
 ({Pk.zero with
  kind:=1,clean:=c.1 / 2%2==1,keep:=d.1,client:=q.1,hasUser:=c.1 / 128%2==1,user:=us.1,hasPass:=c.1 / 64%2==1,pass:=ps.1,hasWill:=c.1 / 4%2==1,
  wTopic:=wt.1,wPayload:=wd.1,wQos:=(c.1 / 8%4:Nat),wRetain:=c.1 / 32%2==1,wProps:=wp.1,props:=p.1},ps.2)
def qx6n(v:Int)(s:Cs):Pk×Cs:=
 let a:=s.num 1
 let s1:=if a.1 > 1 then a.2.fail 7 else a.2
 let b:=s1.num 1
 let p:=b.2.props v 2
 ({Pk.zero with kind:=2,session:=a.1==1,code:=b.1,props:=p.1},p.2)
def q56s(v kind:Int)(l:List UInt8):Pk×Nat:=
 if (versC v&&(kind==1 || kind==2))=false then(Pk.zero,2)
 else
  let x:=if kind=1 then qnld v ⟨l,0⟩ else qx6n v ⟨l,0⟩
  let s:=if x.2.e=0/\x.2.r≠[] then x.2.fail 5 else x.2
  let s:=s.fail (validC v x.1)
  if s.e≠0 then(Pk.zero,s.e) else(x.1,0)
theorem qgoi{v:Int}{p:Pk}(h:validC v p=0):okC v p=true/\qecx p.client=true/\qecx p.user=true/\(p.hasWill=true->q95c p.wTopic=true)/\p.wPayload.length<=65535/\p.pass.length<=65535/\rightC v p.kind p.props=0/\rightC v 16 p.wProps=0:=by
 rw[validC] at h;split at h
 ·cases h
 split at h
 ·cases h
 split at h
 ·cases h
 split at h
 ·cases h
 rename_i h1 h2 h3 h4;split at h
 ·rename_i h5;exact absurd h h5
 rename_i h5;rw[Bool.and_eq_false_iff,not_or,Bool.not_eq_false,Bool.not_eq_false] at h2;rw[not_or] at h4;refine⟨by simpa using h1,h2.1,h2.2,fun hw=>?_,by omega,by omega,by simpa using h5,h⟩;rw[hw] at h3;simpa using h3
theorem ok_c{v:Int}{p:Pk}(h:okC v p=true):(v=4\/v=5)/\(p.kind=1\/p.kind=2)/\p=qm70 p/\(v=4->p.props=[]/\p.wProps=[])/\
 (p.kind=2->(if v=4 then qfn3 p.code else mayR 2 p.code)=true/\(p.session=true->p.code=0))/\
 (p.kind=1->(v=4->(p.client=[]->p.clean=true)/\(p.hasPass=true->p.hasUser=true))/\(0<=p.keep/\p.keep<=65535)/\0<=p.wQos/\p.wQos<=2):=by
 unfold okC at h;simp only[Bool.and_eq_true,Bool.or_eq_true,beq_iff_eq,decide_eq_true_eq,versC] at h;obtain⟨⟨⟨⟨hv,hk⟩,hu⟩,h4⟩,hr⟩:=h;refine⟨hv,hk,hu,fun e=>?_,fun e=>?_,fun e=>?_⟩
 ·subst e;have h4:=h4;simp only[beq_self_eq_true,Bool.true_and,Bool.not_not,Bool.and_eq_true,List.isEmpty_iff] at h4;exact h4
 ·rw[if_pos e] at hr;simp only[Bool.and_eq_true,Bool.or_eq_true,Bool.not_eq_true',beq_iff_eq] at hr;refine⟨hr.1,fun es=>?_⟩;rcases hr.2 with h|h
  ·rw[es] at h;cases h
  ·exact h
 ·rw[if_neg (by omega)] at hr;simp only[Bool.and_eq_true,decide_eq_true_eq] at hr;refine⟨fun e4=>?_,hr.1.2,hr.2⟩;have h1:=hr.1.1;subst e4;simp only[beq_self_eq_true,Bool.true_and,Bool.not_eq_true',Bool.or_eq_false_iff,Bool.and_eq_false_iff,Bool.not_eq_false',List.isEmpty_eq_false_iff] at h1;refine⟨fun ec=>?_,fun ep=>?_⟩
  ·rcases h1.1 with h|h
   ·exact absurd ec h
   ·exact h
  ·rcases h1.2 with h|h
   ·rw[ep] at h;cases h
   ·exact h
theorem qp3s{v:Int}{c:Int}(h:(if v=4 then qfn3 c else mayR 2 c)=true):0<=c/\c<163:=by
 split at h
 ·simp[qfn3] at h;omega
 ·simp only[mayR,Bool.and_eq_true,decide_eq_true_eq] at h
  have:=q5yb (grp 2) (qljz 2) c.toNat (by simpa using h.2)
  omega
theorem qh5y{v:Int}{p:Pk}{t:List UInt8}(h:validC v p=0)(hk:p.kind=2):qx6n v ⟨rawC v p++t,0⟩=(p,⟨t,0⟩):=by
 obtain⟨h0,_,_,_,_,_,hr,_⟩:=qgoi h;obtain⟨hv,_,hu,h4,hc,_⟩:=ok_c h0;obtain⟨c0,c1⟩:=qp3s (hc hk).1;have e1:(Cs.mk (rawC v p++t) 0).num 1=(bitC p.session 1,⟨UInt8.ofNat p.code.toNat::(tailC v 2 p.props++t),0⟩):=by rw[rawC,if_pos hk];cases p.session<;>simp[Cs.num,Cs.take,num,bitC]
 have e2:(Cs.mk (UInt8.ofNat p.code.toNat::(tailC v 2 p.props++t)) 0).num 1=(p.code.toNat,⟨tailC v 2 p.props++t,0⟩):=by
  have:(UInt8.ofNat p.code.toNat).toNat=p.code.toNat:=n8 (by omega)
  simp[Cs.num,Cs.take,num];omega
 have e3:=Cs.props_app (v:=v) (kind:=2) (l:=p.props) (t:=t) (by rw[<-hk];exact hr) (fun h5=>(h4 (by omega)).1);have hs:¬bitC p.session 1 > 1:=by cases p.session<;>simp[bitC]
 simp only[qx6n,e1,hs,if_false,e2,e3];rw[hu];have hb:(bitC p.session 1==1)=p.session:=by cases p.session<;>rfl
 have hn:((p.code.toNat:Nat):Int)=p.code:=by omega
 simp[qm70,hk,hb,hn]
theorem Cs.one_app{k:Nat}{t:List UInt8}(h:k<256):(Cs.mk ([UInt8.ofNat k]++t) 0).num 1=(k,⟨t,0⟩):=by
 have:(UInt8.ofNat k).toNat=k:=n8 h
 simp[Cs.num,Cs.take,Go.Proofs.YtombgnfedafkjaaGreatDoor.num];omega
def fl(u a r w c:Bool)(q:Nat):Nat:=bitC u 128+bitC a 64+bitC r 32+8*q+bitC w 4+bitC c 2
theorem qwk3(u a r w c:Bool){q:Nat}(hq:q<3):fl u a r w c q<256/\(fl u a r w c q / 128%2==1)=u/\(fl u a r w c q / 64%2==1)=a/\(fl u a r w c q / 32%2==1)=r/\fl u a r w c q / 8%4=q/\(fl u a r w c q / 4%2==1)=w/\(fl u a r w c q / 2%2==1)=c:=by
 obtain rfl|rfl|rfl:q=0\/q=1\/q=2:=by omega
 all_goals (revert u a r w c;decide+kernel)
theorem qzrw(v:Int)(u a r w c:Bool){q:Nat}(hq:q<3)(h:w=false->r=false/\q=0)(h4:v=4->a=true->u=true):qoy6 v (fl u a r w c q)=false:=by
 have hv:v=4\/(v==4)=false:=by by_cases e:v=4<;>simp[e]
 obtain rfl|rfl|rfl:q=0\/q=1\/q=2:=by omega
 all_goals
  cases w
  ·first
   |(
    obtain⟨rfl,_⟩:=h rfl;rcases hv with rfl|hv
    ·have h4:=h4 rfl;cases a<;>cases u<;>first|(exact absurd (h4 rfl) (by decide))|(cases c<;>decide+kernel)
    ·rw[qoy6,hv];cases u<;>cases a<;>cases c<;>decide+kernel)
   |exact absurd (h rfl).2 (by decide)
  ·rcases hv with rfl|hv
   ·have h4:=h4 rfl;cases a<;>cases u<;>first|(exact absurd (h4 rfl) (by decide))|(cases c<;>cases r<;>decide+kernel)
   ·rw[qoy6,hv];cases u<;>cases a<;>cases r<;>cases c<;>decide+kernel
theorem qv7n{p:Pk}{q:Nat}(hk:p.kind=1)(hq:p.wQos=q)(h3:q<3):qc61 p=fl p.hasUser p.hasPass p.wRetain p.hasWill p.clean q:=by
 rw[qc61,if_pos hk,hq,fl]
 have:(((q:Nat):Int)%4).toNat=q:=by omega
 rw[this]
theorem Cs.name_app{t:List UInt8}:(Cs.mk (enc2 q1f4++t) 0).name=⟨t,0⟩:=by rw[Cs.name,Cs.take_app (by decide)];simp
theorem Cs.vers_app{v:Int}{t:List UInt8}(hv:v=4\/v=5):(Cs.mk ([UInt8.ofNat v.toNat]++t) 0).vers v=⟨t,0⟩:=by
 have hn:((v.toNat:Nat):Int)=v:=by omega
 rw[Cs.vers,Cs.one_app (by omega)];simp[hn]
theorem Cs.flags_app{v:Int}{f:Nat}{t:List UInt8}(h:f<256)(hw:qoy6 v f=false):(Cs.mk ([UInt8.ofNat f]++t) 0).flags v=(f,⟨t,0⟩):=by rw[Cs.flags,Cs.one_app h];simp[hw]
theorem Cs.optT_app{b:Bool}{x t:List UInt8}(h:b=true->qecx x=true)(h0:b=false->x=[]):(Cs.mk ((if b then enc2 x else [])++t) 0).optT b=(x,⟨t,0⟩):=by
 cases b
 ·simp[Cs.optT,h0 rfl]
 ·simpa [Cs.optT] using Cs.text_app (h rfl)
theorem Cs.optB_app{b:Bool}{x t:List UInt8}(h:x.length<=65535)(h0:b=false->x=[]):(Cs.mk ((if b then enc2 x else [])++t) 0).optB b=(x,⟨t,0⟩):=by
 cases b
 ·simp[Cs.optB,h0 rfl]
 ·simpa [Cs.optB] using Cs.bin_app h
theorem Cs.optP_app{b:Bool}{v kind:Int}{l:List Pr}{t:List UInt8}(h:rightC v kind l=0)(h4:v≠5->l=[])(h0:b=false->l=[]):(Cs.mk ((if b then tailC v kind l else [])++t) 0).optP b v kind=(l,⟨t,0⟩):=by
 cases b
 ·simp[Cs.optP,h0 rfl]
 ·simpa [Cs.optP] using Cs.props_app h h4
theorem qmh4{x:List UInt8}(h:q95c x=true):qecx x=true:=by simp only[q95c,Bool.and_eq_true] at h;exact h.1.1.2
theorem qvic{v:Int}{p:Pk}{t:List UInt8}(h:validC v p=0)(hk:p.kind=1):qnld v ⟨rawC v p++t,0⟩=(p,⟨t,0⟩):=by
 obtain⟨h0,hcl,hus,hwt,hwl,hpl,hr,hrw⟩:=qgoi h;obtain⟨hv,_,hu,h4,_,hc⟩:=ok_c h0;obtain⟨h311,⟨k0,k1⟩,q0,q1⟩:=hc hk;obtain⟨q,hq,hq3⟩:∃q:Nat,p.wQos=q/\q<3:=⟨p.wQos.toNat,by omega,by omega⟩
 have hh:=hu;rw[qm70,if_neg (by omega)] at hh;have hwn:p.hasWill=false->p.wTopic=[]/\p.wPayload=[]/\p.wQos=0/\p.wRetain=false/\p.wProps=[]:=fun e=>
  ⟨by have:=congrArg Pk.wTopic hh;simpa [e] using this,by have:=congrArg Pk.wPayload hh;simpa [e] using this,by have:=congrArg Pk.wQos hh;simpa [e] using this,
   by have:=congrArg Pk.wRetain hh;simpa [e] using this,by have:=congrArg Pk.wProps hh;simpa [e] using this⟩
 have hun:p.hasUser=false->p.user=[]:=fun e=>by have:=congrArg Pk.user hh;simpa [e] using this
 have hpn:p.hasPass=false->p.pass=[]:=fun e=>by have:=congrArg Pk.pass hh;simpa [e] using this
 obtain⟨f256,fu,fp,fr,fq,fw,fc⟩:=qwk3 p.hasUser p.hasPass p.wRetain p.hasWill p.clean hq3;have hwrong:qoy6 v (qc61 p)=false:=by rw[qv7n hk hq hq3];exact qzrw v _ _ _ _ _ hq3 (fun e=>⟨(hwn e).2.2.2.1,by have:=(hwn e).2.2.1;omega⟩) (fun e=>(h311 e).2)
 rw[<-qv7n hk hq hq3] at f256 fu fp fr fq fw fc;have e5:∀t,(Cs.mk (tailC v 1 p.props++t) 0).props v 1=(p.props,⟨t,0⟩):=fun t=>Cs.props_app (by rw[<-hk];exact hr) (fun h5=>(h4 (by omega)).1);have e7:∀t,(Cs.mk ((if p.hasWill then tailC v 16 p.wProps else [])++t) 0).optP p.hasWill v 16=(p.wProps,⟨t,0⟩):=fun t=>Cs.optP_app hrw (fun h5=>(h4 (by omega)).2) (fun e=>(hwn e).2.2.2.2);have e8:∀t,(Cs.mk ((if p.hasWill then enc2 p.wTopic else [])++t) 0).optT p.hasWill=(p.wTopic,⟨t,0⟩):=fun t=>Cs.optT_app (fun e=>qmh4 (hwt e)) (fun e=>(hwn e).1);have e9:∀t,(Cs.mk ((if p.hasWill then enc2 p.wPayload else [])++t) 0).optB p.hasWill=(p.wPayload,⟨t,0⟩):=fun t=>Cs.optB_app hwl (fun e=>(hwn e).2.1);have e10:∀t,(Cs.mk ((if p.hasUser then enc2 p.user else [])++t) 0).optT p.hasUser=(p.user,⟨t,0⟩):=fun t=>Cs.optT_app (fun _=>hus) hun;have e11:∀t,(Cs.mk ((if p.hasPass then enc2 p.pass else [])++t) 0).optB p.hasPass=(p.pass,⟨t,0⟩):=fun t=>Cs.optB_app hpl hpn;have hraw:rawC v p++t=enc2 q1f4++([UInt8.ofNat v.toNat]++([UInt8.ofNat (qc61 p)]++(be p.keep.toNat 2++(tailC v 1 p.props++(enc2 p.client++
  ((if p.hasWill then tailC v 16 p.wProps else [])++((if p.hasWill then enc2 p.wTopic else [])++((if p.hasWill then enc2 p.wPayload else [])++((if p.hasUser then enc2 p.user else [])++((if p.hasPass then enc2 p.pass else [])++t)))))))))):=by
  rw[rawC,if_neg (by omega)];cases p.hasWill<;>simp
 rw[hraw];simp only[qnld,Cs.name_app,Cs.vers_app hv,Cs.flags_app f256 hwrong,Cs.num_app (show p.keep.toNat<256^2 by omega),e5,Cs.text_app hcl,fw,e7,e8,e9,fu,e10,fp,e11,fc,fr,fq];have hn:((p.keep.toNat:Nat):Int)=p.keep:=by omega
 rw[hn,<-hq];refine Prod.ext ?_ rfl
 conv=>rhs;rw[hh]
 cases hw:p.hasWill<;>cases hu:p.hasUser<;>cases hp:p.hasPass<;>simp[hk,hwn,hun,hpn,hw,hu,hp]
theorem qesd{v:Int}{p:Pk}(h:validC v p=0):q56s v p.kind (rawC v p)=(p,0):=by
 obtain⟨hv,hk,_⟩:=ok_c (qgoi h).1;have h1:(versC v&&(p.kind==1 || p.kind==2))=true:=by rcases hv with rfl|rfl<;>rcases hk with hk|hk<;>simp[versC,hk]
 have hx:(if p.kind=1 then qnld v ⟨rawC v p,0⟩ else qx6n v ⟨rawC v p,0⟩)=(p,⟨[],0⟩):=by
  rcases hk with hk|hk
  ·have:=qvic (t:=[]) h hk
   rw[List.append_nil] at this;rw[if_pos hk,this]
  ·have:=qh5y (t:=[]) h hk
   rw[List.append_nil] at this;rw[if_neg (by omega),this]
 simp only[q56s,h1,hx,h];simp[Cs.fail]
theorem Cs.take_back{s:Cs}{n:Nat}(h:(s.take n).2.e=0):s.e=0/\s.r=(s.take n).1++(s.take n).2.r/\(s.take n).1.length=n:=by
 unfold Cs.take at h ⊢;split at h
 ·rename_i h1;exact absurd h h1
 ·rename_i h1;split at h
  ·cases h
  ·rename_i h2;rw[if_neg h1,if_neg h2];refine⟨by simpa using h1,(List.take_append_drop n s.r).symm,by simp;omega⟩
theorem Cs.num_back{s:Cs}{n:Nat}(h:(s.num n).2.e=0):s.e=0/\s.r=be (s.num n).1 n++(s.num n).2.r/\(s.num n).1<256^n:=by
 obtain⟨h1,h2,h3⟩:=Cs.take_back (s:=s) (n:=n) h;refine⟨h1,?_,?_⟩
 ·show s.r=be (Go.Proofs.YtombgnfedafkjaaGreatDoor.num (s.take n).1) n++(s.take n).2.r
  have:=qz9g (s.take n).1
  rw[h3] at this;rw[this];exact h2
 ·have:=qn9h (s.take n).1
  rw[h3] at this;exact this
theorem Cs.bin_back{s:Cs}(h:s.bin.2.e=0):s.e=0/\s.r=enc2 s.bin.1++s.bin.2.r/\s.bin.1.length<=65535:=by
 unfold Cs.bin at h ⊢;split at h
 ·rename_i h1;exact absurd h h1
 ·rename_i h1;rw[if_neg h1];rcases qsrz s.r with ⟨_,h2,h3,h4,h5⟩|h2
  ·refine⟨by simpa using h1,?_,by show(rdB s.r).1.length<=65535;omega⟩;show s.r=enc2 (rdB s.r).1++s.r.drop (rdB s.r).2.1;rw[<-h5,List.take_append_drop]
  ·have h:(rdB s.r).2.2=0:=h;rw[h2] at h;cases h
theorem Cs.text_back{s:Cs}(h:s.text.2.e=0):s.e=0/\s.r=enc2 s.text.1++s.text.2.r/\qecx s.text.1=true:=by
 unfold Cs.text at h ⊢;split at h
 ·rename_i h1;exact absurd h h1
 ·rename_i h1;rw[if_neg h1];have h:(rdT s.r).2.2=0:=h;show s.e=0/\s.r=enc2 (rdT s.r).1++s.r.drop (rdT s.r).2.1/\qecx (rdT s.r).1=true;rw[rdT] at h ⊢;split at h
  ·cases h
  ·rename_i h2;split at h
   ·rename_i h3;rw[if_neg h2,if_pos h3];rcases qsrz s.r with ⟨_,_,_,_,h5⟩|h5
    ·exact⟨by simpa using h1,by rw[<-h5,List.take_append_drop],h3⟩
    ·rw[h5] at h2;exact absurd (by decide) h2
   ·cases h
theorem Cs.props_back{s:Cs}{v kind:Int}(h:(s.props v kind).2.e=0):s.e=0/\s.r=tailC v kind (s.props v kind).1++(s.props v kind).2.r/\rightC v kind (s.props v kind).1=0/\(v≠5->(s.props v kind).1=[]):=by
 unfold Cs.props at h ⊢;split at h
 ·rename_i h1;have h:s.e=0:=h;have hv:v≠5:=by
   rcases h1 with h1|h1
   ·exact absurd h h1
   ·exact h1
  rw[if_pos h1];exact⟨h,by simp[tailC,hv],by simp[rightC,hv],fun _=>rfl⟩
 ·rename_i h1;rw[if_neg h1];rw[not_or] at h1;have hv:v=5:=by simpa using h1.2
  have h:(qflw kind s.r).2.2=0:=h;obtain⟨h2,h3,h4⟩:=qugf (show qflw kind s.r=((qflw kind s.r).1,(qflw kind s.r).2.1,0) by rw[<-h]);refine⟨by simpa using h1.1,?_,by simp[rightC,hv,h2],fun h5=>absurd hv h5⟩;show s.r=tailC v kind (qflw kind s.r).1++s.r.drop (qflw kind s.r).2.1;rw[tailC,if_pos hv,h4,List.take_append_drop]
theorem Cs.fail_e{s:Cs}{e:Nat}(he:e≠0):(s.fail e).e≠0:=by
 unfold Cs.fail;split
 ·assumption
 ·exact he
theorem Cs.name_back{s:Cs}(h:s.name.e=0):s.e=0/\s.r=enc2 q1f4++s.name.r:=by
 unfold Cs.name at h ⊢;split at h
 ·exact absurd h (Cs.fail_e (by decide))
 ·rename_i h1;obtain⟨h2,h3,_⟩:=Cs.take_back h;rw[if_neg h1];rw[Decidable.not_and_iff_or_not] at h1;refine⟨h2,?_⟩;rcases h1 with h1|h1
  ·exact absurd h h1
  ·rw[Decidable.not_not] at h1;rw[<-h1];exact h3
theorem qpzx{k:Nat}:be k 1=[UInt8.ofNat k]:=by simp[be]
theorem Cs.vers_back{s:Cs}{v:Int}(h:(s.vers v).e=0):s.e=0/\s.r=[UInt8.ofNat v.toNat]++(s.vers v).r:=by
 unfold Cs.vers at h ⊢;split at h
 ·exact absurd h (Cs.fail_e (by decide))
 ·rename_i h1;obtain⟨h2,h3,_⟩:=Cs.num_back h;rw[if_neg h1];rw[Decidable.not_and_iff_or_not] at h1;refine⟨h2,?_⟩;rcases h1 with h1|h1
  ·exact absurd h h1
  ·rw[Decidable.not_not] at h1
   have:v.toNat=(s.num 1).1:=by omega
   rw[this,<-qpzx];exact h3
theorem Cs.flags_back{s:Cs}{v:Int}(h:(s.flags v).2.e=0):s.e=0/\s.r=[UInt8.ofNat (s.flags v).1]++(s.flags v).2.r/\(s.flags v).1<256/\qoy6 v (s.flags v).1=false:=by
 unfold Cs.flags at h ⊢;simp only at h ⊢;split at h
 ·exact absurd h (Cs.fail_e (by decide))
 ·rename_i h1;obtain⟨h2,h3,h4⟩:=Cs.num_back h;rw[if_neg h1];rw[Decidable.not_and_iff_or_not] at h1;refine⟨h2,by rw[<-qpzx];exact h3,by simpa using h4,?_⟩;rcases h1 with h1|h1
  ·exact absurd h h1
  ·simpa using h1
theorem Cs.optT_back{s:Cs}{b:Bool}(h:(s.optT b).2.e=0):s.e=0/\s.r=(if b then enc2 (s.optT b).1 else [])++(s.optT b).2.r/\qecx (s.optT b).1=true/\(b=false->(s.optT b).1=[]):=by
 cases b
 ·exact⟨h,by simp[Cs.optT],by simp[Cs.optT];decide+kernel,fun _=>rfl⟩
 ·obtain⟨h1,h2,h3⟩:=Cs.text_back (s:=s) h;exact⟨h1,h2,h3,fun e=>by cases e⟩
theorem Cs.optB_back{s:Cs}{b:Bool}(h:(s.optB b).2.e=0):s.e=0/\s.r=(if b then enc2 (s.optB b).1 else [])++(s.optB b).2.r/\(s.optB b).1.length<=65535/\(b=false->(s.optB b).1=[]):=by
 cases b
 ·exact⟨h,by simp[Cs.optB],by simp[Cs.optB],fun _=>rfl⟩
 ·obtain⟨h1,h2,h3⟩:=Cs.bin_back (s:=s) h;exact⟨h1,h2,h3,fun e=>by cases e⟩
theorem Cs.optP_back{s:Cs}{b:Bool}{v kind:Int}(h:(s.optP b v kind).2.e=0):s.e=0/\s.r=(if b then tailC v kind (s.optP b v kind).1 else [])++(s.optP b v kind).2.r/\(b=false->(s.optP b v kind).1=[]):=by
 cases b
 ·exact⟨h,by simp[Cs.optP],fun _=>rfl⟩
 ·obtain⟨h1,h2,_⟩:=Cs.props_back (s:=s) (v:=v) (kind:=kind) h;exact⟨h1,h2,fun e=>by cases e⟩
theorem qy6q(v:Int)(s:Cs){c d:Nat×Cs}{p wp:List Pr×Cs}{q wt wd us ps:List UInt8×Cs}(hc:(s.name.vers v).flags v=c)(hd:c.2.num 2=d)(hp:d.2.props v 1=p)(hq:p.2.text=q)
 (hwp:q.2.optP (c.1 / 4%2==1) v 16=wp) (hwt:wp.2.optT (c.1 / 4%2==1)=wt) (hwd:wt.2.optB (c.1 / 4%2==1)=wd) (hus:wd.2.optT (c.1 / 128%2==1)=us) (hps:us.2.optB (c.1 / 64%2==1)=ps) :
 qnld v s=({Pk.zero with
 kind:=1,clean:=c.1 / 2%2==1,keep:=d.1,client:=q.1,hasUser:=c.1 / 128%2==1,user:=us.1,hasPass:=c.1 / 64%2==1,pass:=ps.1,hasWill:=c.1 / 4%2==1,
 wTopic:=wt.1,wPayload:=wd.1,wQos:=(c.1 / 8%4:Nat),wRetain:=c.1 / 32%2==1,wProps:=wp.1,props:=p.1},ps.2):=by
 subst hc hd hp hq hwp hwt hwd hus hps
 rfl
theorem q3c1:∀f<256,f%2=0->f=fl (f / 128%2==1) (f / 64%2==1) (f / 32%2==1) (f / 4%2==1) (f / 2%2==1) (f / 8%4):=by decide+kernel
theorem qyg2{v:Int}{s:Cs}(h:(qnld v s).2.e=0):s.e=0/\s.r=rawC v (qnld v s).1++(qnld v s).2.r/\(qnld v s).1.kind=1:=by
 obtain⟨c,hc⟩:∃c,(s.name.vers v).flags v=c:=⟨_,rfl⟩
 obtain⟨d,hd⟩:∃d,c.2.num 2=d:=⟨_,rfl⟩
 obtain⟨p,hp⟩:∃p,d.2.props v 1=p:=⟨_,rfl⟩
 obtain⟨q,hq⟩:∃q,p.2.text=q:=⟨_,rfl⟩
 obtain⟨wp,hwp⟩:∃x,q.2.optP (c.1 / 4%2==1) v 16=x:=⟨_,rfl⟩
 obtain⟨wt,hwt⟩:∃x,wp.2.optT (c.1 / 4%2==1)=x:=⟨_,rfl⟩
 obtain⟨wd,hwd⟩:∃x,wt.2.optB (c.1 / 4%2==1)=x:=⟨_,rfl⟩
 obtain⟨us,hus⟩:∃x,wd.2.optT (c.1 / 128%2==1)=x:=⟨_,rfl⟩
 obtain⟨ps,hps⟩:∃x,us.2.optB (c.1 / 64%2==1)=x:=⟨_,rfl⟩
 rw[qy6q v s hc hd hp hq hwp hwt hwd hus hps] at h ⊢;have h:ps.2.e=0:=h;obtain⟨g9,r9,_,_⟩:=Cs.optB_back (s:=us.2) (b:=c.1 / 64%2==1) (by rw[hps];exact h);rw[hps] at r9;obtain⟨g8,r8,_,_⟩:=Cs.optT_back (s:=wd.2) (b:=c.1 / 128%2==1) (by rw[hus];exact g9);rw[hus] at r8;obtain⟨g7,r7,_,_⟩:=Cs.optB_back (s:=wt.2) (b:=c.1 / 4%2==1) (by rw[hwd];exact g8);rw[hwd] at r7;obtain⟨g6,r6,_,_⟩:=Cs.optT_back (s:=wp.2) (b:=c.1 / 4%2==1) (by rw[hwt];exact g7);rw[hwt] at r6;obtain⟨g5,r5,_⟩:=Cs.optP_back (s:=q.2) (b:=c.1 / 4%2==1) (v:=v) (kind:=16) (by rw[hwp];exact g6);rw[hwp] at r5;obtain⟨g4,r4,_⟩:=Cs.text_back (s:=p.2) (by rw[hq];exact g5);rw[hq] at r4;obtain⟨g3,r3,_⟩:=Cs.props_back (s:=d.2) (v:=v) (kind:=1) (by rw[hp];exact g4);rw[hp] at r3;obtain⟨g2,r2,_⟩:=Cs.num_back (s:=c.2) (n:=2) (by rw[hd];exact g3);rw[hd] at r2;obtain⟨g1,r1,f256,fw⟩:=Cs.flags_back (s:=s.name.vers v) (v:=v) (by rw[hc];exact g2);rw[hc] at r1 f256 fw;obtain⟨g0,r0⟩:=Cs.vers_back g1;obtain⟨gm,rm⟩:=Cs.name_back g0;refine⟨gm,?_,rfl⟩;have hf:qc61 {Pk.zero with
  kind:=1,clean:=c.1 / 2%2==1,keep:=d.1,client:=q.1,hasUser:=c.1 / 128%2==1,user:=us.1,hasPass:=c.1 / 64%2==1,pass:=ps.1,hasWill:=c.1 / 4%2==1,
  wTopic:=wt.1,wPayload:=wd.1,wQos:=(c.1 / 8%4:Nat),wRetain:=c.1 / 32%2==1,wProps:=wp.1,props:=p.1}=c.1:=by
  have h2:c.1%2=0:=by simp only[qoy6,Bool.or_eq_false_iff,beq_eq_false_iff_ne] at fw;omega
  rw[qv7n (q:=c.1 / 8%4) rfl rfl]
  ·exact(q3c1 c.1 f256 h2).symm
  ·simp only[qoy6,Bool.or_eq_false_iff,beq_eq_false_iff_ne] at fw;omega
 obtain⟨x,hx⟩:∃x:Pk,{Pk.zero with
  kind:=1,clean:=c.1 / 2%2==1,keep:=d.1,client:=q.1,hasUser:=c.1 / 128%2==1,user:=us.1,hasPass:=c.1 / 64%2==1,pass:=ps.1,hasWill:=c.1 / 4%2==1,
  wTopic:=wt.1,wPayload:=wd.1,wQos:=(c.1 / 8%4:Nat),wRetain:=c.1 / 32%2==1,wProps:=wp.1,props:=p.1}=x:=⟨_,rfl⟩
 rw[hx] at hf ⊢;have k1:¬x.kind=2:=by rw[<-hx];exact(by decide:¬(1:Int)=2)
 rw[rawC,if_neg k1,hf,<-hx,rm,r0,r1,r2,r3,r4,r5,r6,r7,r8,r9];cases (c.1 / 4%2==1)<;>simp
theorem q55w{v:Int}{s:Cs}(h:(qx6n v s).2.e=0):s.e=0/\s.r=rawC v (qx6n v s).1++(qx6n v s).2.r/\(qx6n v s).1.kind=2:=by
 obtain⟨a,ha⟩:∃a,s.num 1=a:=⟨_,rfl⟩
 obtain⟨b,hb⟩:∃b,(if a.1 > 1 then a.2.fail 7 else a.2).num 1=b:=⟨_,rfl⟩
 obtain⟨p,hp⟩:∃p,b.2.props v 2=p:=⟨_,rfl⟩
 have e:qx6n v s=({Pk.zero with kind:=2,session:=a.1==1,code:=b.1,props:=p.1},p.2):=by subst ha hb hp;rfl
 rw[e] at h ⊢;obtain⟨g2,r2,_⟩:=Cs.props_back (s:=b.2) (v:=v) (kind:=2) (by rw[hp];exact h);rw[hp] at r2;obtain⟨g1,r1,_⟩:=Cs.num_back (n:=1) (by rw[hb];exact g2);rw[hb] at r1;split at g1
 ·exact absurd g1 (Cs.fail_e (by decide))
 rename_i h1;rw[if_neg h1] at r1;obtain⟨g0,r0,_⟩:=Cs.num_back (s:=s) (n:=1) (by rw[ha];exact g1);rw[ha] at r0;refine⟨g0,?_,rfl⟩;have hb:bitC (a.1==1) 1=a.1:=by
  obtain e|e:a.1=0\/a.1=1:=by omega
  all_goals rw[e];rfl
 rw[r0,r1,r2,rawC,if_pos rfl,qpzx,qpzx];simp[hb]
theorem Cs.fail_keep{s:Cs}{e:Nat}(h:s.e≠0):(s.fail e).e≠0:=by rw[Cs.fail,if_pos h];exact h
theorem Cs.fail_no{s:Cs}{e:Nat}(h:(s.fail e).e=0):s.e=0/\e=0:=by
 unfold Cs.fail at h;split at h
 ·rename_i h1;exact absurd h h1
 ·rename_i h1;exact⟨by simpa using h1,h⟩
theorem qqbo{v kind:Int}{l:List UInt8}{q:Pk}(h:q56s v kind l=(q,0)):validC v q=0/\rawC v q=l/\q.kind=kind:=by
 unfold q56s at h;split at h
 ·cases h
 rename_i hk;rw[Bool.not_eq_false] at hk;simp only at h;have hp:∀x:Pk×Cs,(if kind=1 then qnld v ⟨l,0⟩ else qx6n v ⟨l,0⟩)=x->x.2.e=0->l=rawC v x.1++x.2.r/\x.1.kind=kind:=by
  intro x hx he;split at hx
  ·rename_i h1;subst hx;obtain⟨_,h2,h3⟩:=qyg2 he;exact⟨h2,by rw[h3,h1]⟩
  ·rename_i h1;subst hx;obtain⟨_,h2,h3⟩:=q55w he;refine⟨h2,?_⟩;rw[h3];simp only[Bool.and_eq_true,Bool.or_eq_true,beq_iff_eq] at hk;omega
 generalize hx:(if kind=1 then qnld v ⟨l,0⟩ else qx6n v ⟨l,0⟩)=x at h;have hp:=hp x hx;split at h
 ·have hn:((x.2.fail 5).fail (validC v x.1)).e≠0:=Cs.fail_keep (Cs.fail_e (by decide));rw[if_pos hn] at h;exact absurd (Prod.mk.inj h).2 hn
 ·rename_i h5;split at h
  ·rename_i hn;exact absurd (Prod.mk.inj h).2 hn
  ·rename_i h2;rw[ne_eq,Decidable.not_not] at h2;have h:=(Prod.mk.inj h).1;subst h;obtain⟨h3,h4⟩:=Cs.fail_no h2;obtain⟨h6,h7⟩:=hp h3;have hr:x.2.r=[]:=by
    rcases Decidable.em (x.2.r=[]) with h8|h8
    ·exact h8
    ·exact absurd ⟨h3,h8⟩ h5
   rw[hr,List.append_nil] at h6;exact⟨h4,h6.symm,h7⟩
def qveh(x:Cs)(f:Nat):Cs:=(if x.e=0/\x.r≠[] then x.fail 5 else x).fail f
theorem qemw{s:Cs}{e:Nat}(h:(s.fail e).e=0):s.e=0/\e=0:=by
 unfold Cs.fail at h;split at h
 ·rename_i h1;exact absurd h h1
 ·rename_i h1;exact⟨by simpa using h1,h⟩
end Go.Proofs.YtombgnfedafkjaaGreatDoor
