/- Plain facts: what a PUBLISH may hold, its body, what is read of it. No condition. -/
import Derived.Test.YtombgnfedafkjaaGreatDoorK09
namespace Go.Proofs.YtombgnfedafkjaaGreatDoor
def qbi7(v:Int)(p:Pk):Pk:={Pk.zero with kind:=p.kind,dup:=p.dup,retain:=p.retain,qos:=p.qos,id:=p.id,topic:=p.topic,payload:=p.payload,props:=if v=5 then p.props else []}
def idU(p:Pk):Bool:=if p.qos=0 then p.id==0 else decide (0<p.id)&&decide (p.id<=65535)
def qsuf(p:Pk):Bool:=q95c p.topic || (p.topic.isEmpty&&hasP p.props 35)
def q6ed(v:Int)(p:Pk):Nat:=
 if p.kind≠3 then 2 else if (qjyu v 3 p.dup p.retain p.qos).2≠0 then(qjyu v 3 p.dup p.retain p.qos).2
 else if (idU p&&decide (p=qbi7 v p))=false then 2 else if qsuf p=false then 10 else qpyu 3 p.props
def rawU(v:Int)(p:Pk):List UInt8:=enc2 p.topic++((if p.qos=0 then [] else be p.id.toNat 2)++(tailC v 3 p.props++p.payload))
def qtsh(v:Int)(p:Pk):List UInt8×Nat:=if q6ed v p≠0 then([],q6ed v p) else(rawU v p,0)
def qf69(f:Int):Pk:={Pk.zero with kind:=3,dup:=decide (8<=f),retain:=f%2==1,qos:=f / 2%4}
def Cs.optN(s:Cs)(b:Bool):Nat×Cs:=if b then s.num 2 else(0,s)
def qefe(v f:Int)(s:Cs):Pk×Cs:=
 let t:=s.text
 let i:=t.2.optN (f / 2%4 != 0)
 let p:=i.2.props v 3
 ({qf69 f with topic:=t.1,id:=(i.1:Nat),props:=p.1,payload:=p.2.r},p.2)
def qgrv(v f:Int)(l:List UInt8):Pk×Nat:=
 if q9d8 v ⟨3,f,0⟩≠0 then(Pk.zero,q9d8 v ⟨3,f,0⟩)
 else
  let x:=qefe v f ⟨l,0⟩
  let s:=x.2.fail (q6ed v x.1)
  if s.e≠0 then(Pk.zero,s.e) else(x.1,0)
theorem qytj{v:Int}{d r:Bool}{q:Int}:(qjyu v 3 d r q).2=0↔verH v=true/\q0xk d q=true:=by
 unfold qjyu;have hk:qbe2 v 3=true:=by simp[qbe2]
 rw[hk];cases verH v
 ·simp
 ·cases q0xk d q<;>simp
theorem qdep{v:Int}(h:verH v=true):v=4\/v=5:=by unfold verH at h;simpa using h
theorem qhc8{v:Int}{p:Pk}(h:q6ed v p=0):p.kind=3/\(v=4\/v=5)/\q0xk p.dup p.qos=true/\idU p=true/\p=qbi7 v p/\qsuf p=true/\qpyu 3 p.props=0/\(v=4->p.props=[]):=by
 rw[q6ed] at h;split at h
 ·cases h
 rename_i hk;split at h
 ·rename_i hf;exact absurd h hf
 rename_i hf;have hf:(qjyu v 3 p.dup p.retain p.qos).2=0:=by simpa using hf
 obtain⟨hv,hq⟩:=qytj.1 hf;split at h
 ·cases h
 rename_i hi;split at h
 ·cases h
 rename_i ht;rw[Bool.not_eq_false,Bool.and_eq_true,decide_eq_true_eq] at hi;refine⟨by simpa using hk,qdep hv,hq,hi.1,hi.2,by simpa using ht,h,fun h4=>?_⟩
 have:=congrArg Pk.props hi.2
 rw[this];simp[qbi7,h4]
theorem qahj{p:Pk}(h:qsuf p=true):qecx p.topic=true:=by
 unfold qsuf at h;rw[Bool.or_eq_true,Bool.and_eq_true,List.isEmpty_iff] at h;rcases h with h|⟨h,_⟩
 ·exact qmh4 h
 ·rw[h];decide
theorem qom2(v:Int)(p:Pk)(x:List UInt8):q6ed v {p with payload:=x}=q6ed v p:=by
 have h:decide ({p with payload:=x}=qbi7 v {p with payload:=x})=decide (p=qbi7 v p):=by rw[decide_eq_decide];obtain⟨⟩:=p;simp[qbi7,Pk.zero]
 unfold q6ed;rw[h]
 rfl
theorem qabo{d:Bool}{q:Int}(h:q0xk d q=true):0<=q/\q<=2/\(d=true->q≠0):=by
 unfold q0xk at h;simp only[Bool.and_eq_true,decide_eq_true_eq,Bool.not_eq_true',Bool.and_eq_false_iff,beq_eq_false_iff_ne] at h;refine⟨h.1.1,h.1.2,fun hd=>?_⟩;rcases h.2 with h|h
 ·rw[hd] at h;cases h
 ·exact h
theorem qbkg{d r:Bool}{q:Int}(h:q0xk d q=true):qg3k 3 (qgl0 d r q)=true/\decide (8<=qgl0 d r q)=d/\(qgl0 d r q%2==1)=r/\qgl0 d r q / 2%4=q:=by
 obtain⟨h0,h1,h2⟩:=qabo h;obtain rfl|rfl|rfl:q=0\/q=1\/q=2:=by omega
 all_goals (cases d<;>cases r<;>first|exact absurd rfl (h2 rfl)|decide+kernel)
theorem qlep{f:Int}(h:qg3k 3 f=true):q0xk (decide (8<=f)) (f / 2%4)=true/\qgl0 (decide (8<=f)) (f%2==1) (f / 2%4)=f:=by
 obtain⟨h0,h1⟩:=qo5i h;obtain⟨n,rfl⟩:∃n:Nat,f=(n:Int):=⟨f.toNat,by omega⟩
 have hn:n<16:=by omega
 revert h
 clear h0 h1
 revert n
 decide+kernel
theorem q4p4(v f:Int):q9d8 v ⟨3,f,0⟩=if verH v=false then 2 else if qg3k 3 f=false then 7 else 0:=by
 unfold q9d8;have hk:qbe2 v 3=true:=by simp[qbe2]
 rw[hk];cases verH v
 ·simp
 ·cases qg3k 3 f<;>simp
theorem qvwx{v:Int}{p:Pk}(t:List UInt8)(h:q6ed v p=0):qefe v (qgl0 p.dup p.retain p.qos) ⟨rawU v p++t,0⟩=({p with payload:=p.payload++t},⟨p.payload++t,0⟩):=by
 obtain⟨hk,hv,hq,hi,hu,ht,hp,h4⟩:=qhc8 h;obtain⟨_,e8,e1,e3⟩:=qbkg (r:=p.retain) hq;have hr:rightC v 3 p.props=0:=by
  unfold rightC;split
  ·exact hp
  ·rfl
 have e5:∀t,(Cs.mk (tailC v 3 p.props++t) 0).props v 3=(p.props,⟨t,0⟩):=fun t=>Cs.props_app hr (fun h5=>h4 (by omega));have eN:∀t,(Cs.mk ((if p.qos=0 then [] else be p.id.toNat 2)++t) 0).optN (p.qos != 0)=(p.id.toNat,⟨t,0⟩)/\((p.id.toNat:Nat):Int)=p.id:=fun t=>by
  unfold idU at hi;by_cases h0:p.qos=0
  ·rw[if_pos h0,beq_iff_eq] at hi;simp[Cs.optN,h0,hi]
  ·rw[if_neg h0,Bool.and_eq_true,decide_eq_true_eq,decide_eq_true_eq] at hi;rw[if_neg h0];have hb:(p.qos != 0)=true:=by simpa using h0
   rw[Cs.optN,hb,if_pos rfl,Cs.num_app (by omega)];exact⟨rfl,by omega⟩
 have hraw:rawU v p++t=enc2 p.topic++((if p.qos=0 then [] else be p.id.toNat 2)++(tailC v 3 p.props++(p.payload++t))):=by simp[rawU]
 rw[hraw];simp only[qefe,Cs.text_app (qahj ht),e3,(eN _).1,(eN t).2,e5,qf69,e8,e1];refine Prod.ext ?_ rfl
 conv=>rhs;rw[hu]
 have hpr:(if v=5 then p.props else [])=p.props:=by
  split
  ·rfl
  ·exact(h4 (by omega)).symm
 simp[qbi7,hk,hpr]
theorem q3xr{v:Int}{p:Pk}(t:List UInt8)(h:q6ed v p=0):qgrv v (qgl0 p.dup p.retain p.qos) (rawU v p++t)=({p with payload:=p.payload++t},0):=by
 obtain⟨_,hv,hq,_⟩:=qhc8 h;have hc:q9d8 v ⟨3,qgl0 p.dup p.retain p.qos,0⟩=0:=by
  rw[q4p4,(qbkg hq).1,show verH v=true by rcases hv with rfl|rfl<;>rfl]
  rfl
 have hv2:q6ed v {p with payload:=p.payload++t}=0:=by rw[qom2];exact h
 simp only[qgrv,hc,qvwx t h,hv2];simp[Cs.fail]
theorem Cs.optN_back{s:Cs}{b:Bool}(h:(s.optN b).2.e=0):s.e=0/\s.r=(if b then be (s.optN b).1 2 else [])++(s.optN b).2.r/\(s.optN b).1<65536/\(b=false->(s.optN b).1=0):=by
 cases b
 ·exact⟨h,rfl,Nat.zero_lt_succ _,fun _=>rfl⟩
 ·obtain⟨h1,h2,h3⟩:=Cs.num_back (s:=s) (n:=2) h;exact⟨h1,h2,h3,fun e=>by cases e⟩
theorem qhpw{v f:Int}{l:List UInt8}(h:(qgrv v f l).2=0):q6ed v (qgrv v f l).1=0/\rawU v (qgrv v f l).1=l/\qgl0 (qgrv v f l).1.dup (qgrv v f l).1.retain (qgrv v f l).1.qos=f:=by
 unfold qgrv at h ⊢;split at h
 ·rename_i h1;exact absurd h h1
 rename_i h1;rw[if_neg h1];have hc:q9d8 v ⟨3,f,0⟩=0:=by simpa using h1
 simp only at h ⊢;split at h
 ·rename_i h2;exact absurd h h2
 rename_i h2;rw[if_neg h2];have h2:((qefe v f ⟨l,0⟩).2.fail (q6ed v (qefe v f ⟨l,0⟩).1)).e=0:=by simpa using h2
 obtain⟨h3,h4⟩:=qemw h2;have hfl:qg3k 3 f=true:=by
  rw[q4p4] at hc;split at hc
  ·cases hc
  ·split at hc
   ·cases hc
   ·rename_i h;simpa using h
 obtain⟨u1,u2⟩:=qlep hfl;refine⟨h4,?_,u2⟩;obtain⟨t,ht⟩:∃t,(Cs.mk l 0).text=t:=⟨_,rfl⟩
 obtain⟨i,hi⟩:∃i,t.2.optN (f / 2%4 != 0)=i:=⟨_,rfl⟩
 obtain⟨p,hp⟩:∃p,i.2.props v 3=p:=⟨_,rfl⟩
 have hx:qefe v f ⟨l,0⟩=({qf69 f with topic:=t.1,id:=(i.1:Nat),props:=p.1,payload:=p.2.r},p.2):=by subst ht hi hp;rfl
 rw[hx] at h3 ⊢;have h3:p.2.e=0:=h3;rw[<-hp] at h3;obtain⟨b1,b2,_,b4⟩:=Cs.props_back h3;rw[hp] at b2 b4;rw[<-hi] at b1;obtain⟨c1,c2,c3,c4⟩:=Cs.optN_back b1;rw[hi] at c2 c3 c4;rw[<-ht] at c1;obtain⟨_,d2,_⟩:=Cs.text_back c1;rw[ht] at d2;have d2:l=enc2 t.1++t.2.r:=d2;rw[d2,c2,b2];have hb:(if (f / 2%4 != 0)=true then be i.1 2 else [])=if f / 2%4=0 then [] else be i.1 2:=by
  by_cases h0:f / 2%4=0
  ·simp[h0]
  ·simp[h0]
 rw[hb]
 rfl
def tl(ls:List (List UInt8)):Nat:=(ls.map fun l=>l.length+1).sum
section
variable{s:List UInt8}(hn:q95c s=true)(hs:s.length<=200)
end
def share:List UInt8:=[36,115,104,97,114,101]
def qar3(s:List UInt8):List UInt8×List UInt8×Bool:=
 match lvls s with
 |h::g::f::ls=>if qecx s=true/\h=share/\g≠[]/\(43:UInt8)∉g/\(35:UInt8)∉g/\qw8n (q8nq (f::ls))=true then(g,q8nq (f::ls),true) else([],[],false)
 |_=>([],[],false)
theorem qt0s:(47:UInt8)∉share:=by decide
theorem qe2w(s:List UInt8):(∃g f,qar3 s=(g,f,true)/\s=share++47::(g++47::f)/\g≠[]/\qw8n f=true/\qecx s=true/\(43:UInt8)∉g/\(35:UInt8)∉g/\(47:UInt8)∉g)\/qar3 s=([],[],false):=by
 unfold qar3;have hj:=qz8l s;have hf:=qxp9 s;split
 ·rename_i h g f ls e;rw[e] at hj hf;split
  ·rename_i hc;obtain⟨h1,rfl,h3,h4,h5,h6⟩:=hc;refine .inl ⟨g,q8nq (f::ls),rfl,?_,h3,h6,h1,h4,h5,hf g (by simp)⟩;rw[<-hj,qcnz _ (by simp),qcnz g (by simp)]
  ·exact .inr rfl
 ·exact .inr rfl
def qsfj(k:Int):Bool:=k==8 || k==10
def qfws(k:Int):Bool:=decide (8<=k)&&decide (k<=11)
def qumw(v:Int)(p:Pk):Pk:={Pk.zero with kind:=p.kind,id:=p.id,props:=p.props,filters:=if qsfj p.kind then p.filters else [],codes:=if !qsfj p.kind&&(p.kind==9 || v==5) then p.codes else []}
def okS(v:Int)(p:Pk):Bool:=
 versC v&&qfws p.kind&&decide (p=qumw v p)&&(decide (1<=p.id)&&decide (p.id<=65535))&&!(v==4&&!p.props.isEmpty)&&!(p.filters.isEmpty&&p.codes.isEmpty&&!(p.kind==11&&v==4))
def q7yu(f:Fi):Fi:=⟨f.topic,0,false,false,0⟩
def optS(v kind:Int)(f:Fi):Bool:=
 if kind=10 then decide (f=q7yu f)
 else(decide (0<=f.qos)&&decide (f.qos<=2)&&(decide (0<=f.handling)&&decide (f.handling<=2)))&&if v=4 then !f.noLocal&&!f.asPub&&f.handling==0 else !f.noLocal || !(qar3 f.topic).2.2
def q190(v kind n:Int):Bool:=if v=4 then qw69 n else mayR kind n
def qlck(v kind:Int):List Fi->Nat
 |[]=>0
 |f::l=>if qw8n f.topic=false then 10 else if optS v kind f=false then 2 else qlck v kind l
def qq92(v kind:Int):List Int->Nat
 |[]=>0
 |c::l=>if q190 v kind c=false then 2 else qq92 v kind l
def q3m2(v:Int)(p:Pk):Nat:=
 if okS v p=false then 2 else if rightC v p.kind p.props≠0 then rightC v p.kind p.props else if qlck v p.kind p.filters≠0 then qlck v p.kind p.filters else qq92 v p.kind p.codes
def qang(f:Fi):Nat:=(f.qos%4).toNat+16*(f.handling%4).toNat+bitC f.noLocal 4+bitC f.asPub 8
def qjk5(kind:Int)(f:Fi):List UInt8:=enc2 f.topic++if kind=8 then [UInt8.ofNat (qang f)] else []
def q56c(l:List Int):List UInt8:=l.map fun c=>UInt8.ofNat c.toNat
def rawS(v:Int)(p:Pk):List UInt8:=be p.id.toNat 2++(tailC v p.kind p.props++(p.filters.flatMap (qjk5 p.kind)++q56c p.codes))
def qktk(v:Int)(p:Pk):List UInt8×Nat:=if q3m2 v p≠0 then([],q3m2 v p) else(rawS v p,0)
def q7vq(t:List UInt8)(n:Nat):Fi:=⟨t,(n%4:Nat),n / 4%2==1,n / 8%2==1,(n / 16%4:Nat)⟩
def Cs.filt(s:Cs)(v kind:Int):Fi×Cs:=
 let t:=s.text
 if kind=10 then(⟨t.1,0,false,false,0⟩,t.2)
 else
  let n:=t.2.num 1
  (q7vq t.1 n.1,if 63<n.1\/(v=4/\3<n.1) then n.2.fail 7 else n.2)
def Cs.filts(v kind:Int):Nat->Cs->List Fi×Cs
 |0,s=>([],s)
 |n+1,s=>if s.e≠0\/s.r=[] then([],s) else((s.filt v kind).1::(Cs.filts v kind n (s.filt v kind).2).1,(Cs.filts v kind n (s.filt v kind).2).2)
def Cs.codes(s:Cs):List Int×Cs:=if s.e≠0 then([],s) else(s.r.map (fun b=>((b.toNat:Nat):Int)),⟨[],0⟩)
def q7qx(v kind:Int)(s:Cs):Pk×Cs:=
 let i:=s.num 2
 let p:=i.2.props v kind
 if qsfj kind then
  let f:=Cs.filts v kind p.2.r.length p.2
  ({Pk.zero with kind:=kind,id:=(i.1:Nat),props:=p.1,filters:=f.1},f.2)
 else({Pk.zero with kind:=kind,id:=(i.1:Nat),props:=p.1,codes:=p.2.codes.1},p.2.codes.2)
def q98d(v kind:Int)(l:List UInt8):Pk×Nat:=
 if (versC v&&qfws kind)=false then(Pk.zero,2)
 else
  let x:=q7qx v kind ⟨l,0⟩
  let s:=qveh x.2 (q3m2 v x.1)
  if s.e≠0 then(Pk.zero,s.e) else(x.1,0)
theorem q3p9{f:Fi}(h0:0<=f.qos/\f.qos<=2)(h1:0<=f.handling/\f.handling<=2):qang f<=63/\q7vq f.topic (qang f)=f:=by
 obtain⟨t,q,a,b,h⟩:=f;simp only at h0 h1;have hq:q=0\/q=1\/q=2:=by omega
 have hh:h=0\/h=1\/h=2:=by omega
 rcases hq with rfl|rfl|rfl<;>rcases hh with rfl|rfl|rfl<;>cases a<;>cases b<;>simp[qang,bitC,q7vq]
theorem qp90{f:Fi}(h1:f.handling=0)(ha:f.noLocal=false)(hb:f.asPub=false):qang f<=3:=by unfold qang bitC;rw[h1,ha,hb];simp;omega
theorem q7kh(t:List UInt8){n:Nat}(h:n<=63):qang (q7vq t n)=n:=by
 have h2:∀m,m<64->qang (q7vq [] m)=m:=by decide+kernel
 have:=h2 n (by omega)
 exact this
theorem qme0{t:List UInt8}(h:qw8n t=true):qecx t=true:=by simp only[qw8n,Bool.and_eq_true] at h;exact h.1.2
theorem q267{v kind:Int}:∀{l:List Fi},qlck v kind l=0->∀f∈l,qw8n f.topic=true/\optS v kind f=true
 |[],_,f,hf=>by cases hf
 |g::l,h,f,hf=>by
  unfold qlck at h;split at h
  ·cases h
  split at h
  ·cases h
  rename_i h1 h2;rcases List.mem_cons.1 hf with rfl|hf
  ·exact⟨by simpa using h1,by simpa using h2⟩
  ·exact q267 h f hf
theorem q6r9{v kind:Int}:∀{l:List Int},qq92 v kind l=0->∀c∈l,q190 v kind c=true
 |[],_,f,hf=>by cases hf
 |g::l,h,f,hf=>by
  unfold qq92 at h;split at h
  ·cases h
  rename_i h1;rcases List.mem_cons.1 hf with rfl|hf
  ·simpa using h1
  ·exact q6r9 h f hf
theorem qzk9{v kind c:Int}(h:q190 v kind c=true):0<=c/\c<163:=by
 unfold q190 at h;split at h
 ·simp only[qw69,Bool.or_eq_true,beq_iff_eq] at h;omega
 ·simp only[mayR,Bool.and_eq_true,decide_eq_true_eq] at h
  have:=q5yb (grp kind) (qljz kind) c.toNat (by simpa using h.2)
  omega
theorem ok_s{v:Int}{p:Pk}(h:okS v p=true):(v=4\/v=5)/\(8<=p.kind/\p.kind<=11)/\p=qumw v p/\(1<=p.id/\p.id<=65535)/\(v=4->p.props=[])/\(p.filters=[]->p.codes=[]->p.kind=11/\v=4):=by
 unfold okS at h;simp only[Bool.and_eq_true,Bool.or_eq_true,beq_iff_eq,decide_eq_true_eq,versC,qfws] at h;obtain⟨⟨⟨⟨⟨hv,hk⟩,hu⟩,hi⟩,h4⟩,he⟩:=h;refine⟨hv,hk,hu,hi,fun e=>?_,fun e1 e2=>?_⟩
 ·subst e;simpa using h4
 ·rw[e1,e2] at he;simpa using he
theorem q87v{v:Int}{p:Pk}(h:q3m2 v p=0):okS v p=true/\rightC v p.kind p.props=0/\qlck v p.kind p.filters=0/\qq92 v p.kind p.codes=0:=by
 unfold q3m2 at h;split at h
 ·cases h
 split at h
 ·rename_i h1 h2;exact absurd h h2
 split at h
 ·rename_i h1 h2 h3;exact absurd h h3
 rename_i h1 h2 h3;exact⟨by simpa using h1,by simpa using h2,by simpa using h3,h⟩
theorem q9zy{k:Int}(hk:8<=k/\k<=11):(qsfj k=true/\(k=8\/k=10))\/(qsfj k=false/\(k=9\/k=11)):=by
 obtain rfl|rfl|rfl|rfl:k=8\/k=9\/k=10\/k=11:=by omega
 ·exact .inl ⟨rfl,.inl rfl⟩
 ·exact .inr ⟨rfl,.inl rfl⟩
 ·exact .inl ⟨rfl,.inr rfl⟩
 ·exact .inr ⟨rfl,.inr rfl⟩
theorem qmqi{v:Int}{p:Pk}(hu:p=qumw v p):(qsfj p.kind=true->p.codes=[])/\(qsfj p.kind=false->p.filters=[]):=by
 constructor
 ·intro h
  have:=congrArg Pk.codes hu
  rw[qumw,h] at this;simpa using this
 ·intro h
  have:=congrArg Pk.filters hu
  rw[qumw,h] at this;simpa using this
theorem qagk{v:Int}{f:Fi}(h:optS v 8 f=true):(0<=f.qos/\f.qos<=2)/\(0<=f.handling/\f.handling<=2)/\(v=4->f.noLocal=false/\f.asPub=false/\f.handling=0):=by unfold optS at h;rw[if_neg (by decide),Bool.and_eq_true,Bool.and_eq_true,Bool.and_eq_true,Bool.and_eq_true] at h;simp only[decide_eq_true_eq] at h;refine⟨h.1.1,h.1.2,fun e=>?_⟩;have h2:=h.2;rw[if_pos e,Bool.and_eq_true,Bool.and_eq_true,Bool.not_eq_true',Bool.not_eq_true',beq_iff_eq] at h2;exact⟨h2.1.1,h2.1.2,h2.2⟩
theorem q8jf{v kind:Int}{f:Fi}{t:List UInt8}(hk:kind=8\/kind=10)(h1:qw8n f.topic=true)(h2:optS v kind f=true):(Cs.mk (qjk5 kind f++t) 0).filt v kind=(f,⟨t,0⟩):=by
 rcases hk with rfl|rfl
 ·obtain⟨hq,hh,h4⟩:=qagk h2;obtain⟨hb,hu⟩:=q3p9 hq hh;have ht:(Cs.mk (qjk5 8 f++t) 0).text=(f.topic,⟨[UInt8.ofNat (qang f)]++t,0⟩):=by rw[qjk5,if_pos rfl,List.append_assoc];exact Cs.text_app (qme0 h1)
  have hn:¬(63<qang f\/(v=4/\3<qang f)):=by
   rintro(h|⟨e,h⟩)
   ·omega
   ·obtain⟨a,b,c⟩:=h4 e
    have:=qp90 c a b
    omega
  simp only[Cs.filt,ht,Cs.one_app (show qang f<256 by omega),hu];rw[if_neg (by decide),if_neg hn]
 ·have he:f=q7yu f:=by unfold optS at h2;rw[if_pos rfl] at h2;exact of_decide_eq_true h2
  have ht:(Cs.mk (qjk5 10 f++t) 0).text=(f.topic,⟨t,0⟩):=by rw[qjk5,if_neg (by decide),List.append_nil];exact Cs.text_app (qme0 h1)
  simp only[Cs.filt,ht,if_true];rw[show(⟨f.topic,0,false,false,0⟩:Fi)=q7yu f from rfl,<-he]
theorem q0ul(kind:Int)(f:Fi):qjk5 kind f≠[]:=by
 intro e
 have:=congrArg List.length e
 rw[qjk5,List.length_append,qnp6,List.length_nil] at this;omega
theorem q4zf{v kind:Int}(hk:kind=8\/kind=10):∀(l:List Fi) (n:Nat),l.length<=n->(∀f∈l,qw8n f.topic=true/\optS v kind f=true)->Cs.filts v kind n ⟨l.flatMap (qjk5 kind),0⟩=(l,⟨[],0⟩)
 |[],n,_,_=>by
  cases n with
  |zero=>rfl
  |succ n=>simp[Cs.filts]
 |f::l,0,hn,_=>by simp at hn
 |f::l,n+1,hn,h=>by
  have hf:=h f (List.mem_cons_self ..);have e:=q8jf (t:=l.flatMap (qjk5 kind)) hk hf.1 hf.2;have ih:=q4zf hk l n (by simpa using hn) (fun g hg=>h g (List.mem_cons_of_mem _ hg));have hne:¬((Cs.mk ((f::l).flatMap (qjk5 kind)) 0).e≠0\/(Cs.mk ((f::l).flatMap (qjk5 kind)) 0).r=[]):=by rw[List.flatMap_cons];simp[q0ul]
  rw[Cs.filts,if_neg hne,List.flatMap_cons,e,ih]
theorem qlix{l:List Int}(h:∀c∈l,0<=c/\c<163):(q56c l).map (fun b=>((b.toNat:Nat):Int))=l:=by
 unfold q56c;rw[List.map_map]
 conv=>rhs;rw[<-List.map_id l]
 refine List.map_congr_left fun c hc=>?_
 have:=h c hc
 show(((UInt8.ofNat c.toNat).toNat:Nat):Int)=c;rw[UInt8.toNat_ofNat'];omega
theorem qbogt(kind:Int)(l:List Fi):l.length<=(l.flatMap (qjk5 kind)).length:=by
 induction l with
 |nil=>exact Nat.zero_le _
 |cons f l ih=>
  have:=List.length_pos_iff.2 (q0ul kind f)
  rw[List.flatMap_cons,List.length_append,List.length_cons];omega
theorem q2r8{v:Int}{p:Pk}(h:q3m2 v p=0):q98d v p.kind (rawS v p)=(p,0):=by
 obtain⟨h0,hr,hf,hc⟩:=q87v h;obtain⟨hv,hk,hu,hi,h4,_⟩:=ok_s h0;have h1:(versC v&&qfws p.kind)=true:=by rw[Bool.and_eq_true];exact⟨by rcases hv with rfl|rfl<;>rfl,by simp[qfws,hk]⟩
 have hn:((p.id.toNat:Nat):Int)=p.id:=by omega
 have hp:=Cs.props_app (t:=p.filters.flatMap (qjk5 p.kind)++q56c p.codes) hr (fun e=>h4 (by omega));obtain⟨u1,u2⟩:=qmqi hu;have hx:q7qx v p.kind ⟨rawS v p,0⟩=(p,⟨[],0⟩):=by
  unfold q7qx;simp only[rawS,Cs.num_app (show p.id.toNat<256^2 by omega),hp,hn];rcases q9zy hk with ⟨ha,hkk⟩|⟨ha,hkk⟩
  ·rw[if_pos ha,u1 ha];have hcn:q56c []=[]:=rfl;rw[hcn,List.append_nil,q4zf hkk _ _ (qbogt p.kind p.filters) (q267 hf)];refine Prod.ext ?_ rfl
   conv=>rhs;rw[hu]
   simp only[qumw,ha]
   rfl
  ·rw[if_neg (by rw[ha];decide),u2 ha];simp only[List.flatMap_nil,List.nil_append,Cs.codes];rw[if_neg (by simp),qlix (fun c hcm=>qzk9 (q6r9 hc c hcm))];refine Prod.ext ?_ rfl;have hcc:=congrArg Pk.codes hu
   conv=>rhs;rw[hu]
   rw[qumw] at hcc ⊢;simp only[ha] at hcc ⊢;rw[<-hcc]
   rfl
 simp only[q98d,h1,hx,h];simp[qveh,Cs.fail]
theorem q749{s:Cs}{v kind:Int}(hk:kind=8\/kind=10)(h:(s.filt v kind).2.e=0):s.e=0/\s.r=qjk5 kind (s.filt v kind).1++(s.filt v kind).2.r:=by
 rcases hk with rfl|rfl
 ·unfold Cs.filt at h ⊢;simp only[show ¬((8:Int)=10) by decide,if_false] at h ⊢;obtain⟨n,hn⟩:∃n,s.text.2.num 1=n:=⟨_,rfl⟩
  rw[hn] at h ⊢;by_cases hb:63<n.1\/(v=4/\3<n.1)
  ·rw[if_pos hb] at h;exact absurd (Cs.fail_no h).2 (by decide)
  ·rw[if_neg hb] at h ⊢;have h1:=Cs.num_back (s:=s.text.2) (n:=1) (by rw[hn];exact h);rw[hn,qpzx] at h1;obtain⟨h2,h3,_⟩:=h1;obtain⟨h4,h5,_⟩:=Cs.text_back h2;refine⟨h4,?_⟩;have hx:n.1<=63:=by
    rcases Nat.lt_or_ge 63 n.1 with h|h
    ·exact absurd (.inl h) hb
    ·exact h
   show s.r=qjk5 8 (q7vq s.text.1 n.1)++n.2.r;rw[qjk5,if_pos rfl,q7kh _ hx];show s.r=enc2 s.text.1++[UInt8.ofNat n.1]++n.2.r;rw[List.append_assoc,<-h3];exact h5
 ·unfold Cs.filt at h ⊢;simp only[if_true] at h ⊢;obtain⟨h4,h5,_⟩:=Cs.text_back h;refine⟨h4,?_⟩;rw[qjk5,if_neg (by decide),List.append_nil];exact h5
theorem qo9t{v kind:Int}(hk:kind=8\/kind=10):∀(n:Nat) (s:Cs),(Cs.filts v kind n s).2.e=0->(Cs.filts v kind n s).2.r=[]->s.e=0/\s.r=(Cs.filts v kind n s).1.flatMap (qjk5 kind)
 |0,s,h,hr=>⟨h,hr⟩
 |n+1,s,h,hr=>by
  unfold Cs.filts at h hr ⊢;split at h
  ·rename_i hc;rw[if_pos hc] at hr ⊢;exact⟨h,hr⟩
  ·rename_i hc;rw[if_neg hc] at hr ⊢;obtain⟨h1,h2⟩:=qo9t hk n _ h hr;obtain⟨h3,h4⟩:=q749 hk h1;refine⟨h3,?_⟩;rw[List.flatMap_cons,<-h2];exact h4
theorem q06l(l:List UInt8):q56c (l.map fun b=>((b.toNat:Nat):Int))=l:=by
 unfold q56c;rw[List.map_map]
 conv=>rhs;rw[<-List.map_id l]
 refine List.map_congr_left fun b _=>?_;show UInt8.ofNat (((b.toNat:Nat):Int)).toNat=b;rw[Int.toNat_natCast];simp
theorem q3vn{x:Cs}{f:Nat}(h:(qveh x f).e=0):x.e=0/\x.r=[]/\f=0:=by
 unfold qveh at h;obtain⟨h1,h2⟩:=qemw h;by_cases hx:x.e=0/\x.r≠[]
 ·rw[if_pos hx] at h1;exact absurd (qemw h1).2 (by decide)
 ·rw[if_neg hx] at h1;refine⟨h1,?_,h2⟩;by_cases hr:x.r=[]
  ·exact hr
  ·exact absurd ⟨h1,hr⟩ hx
theorem q6to{v k:Int}{s:Cs}(hk:8<=k/\k<=11)(h:(q7qx v k s).2.e=0)(hr:(q7qx v k s).2.r=[]):s.e=0/\s.r=rawS v (q7qx v k s).1/\(q7qx v k s).1.kind=k:=by
 obtain⟨i,hi⟩:∃i,s.num 2=i:=⟨_,rfl⟩
 obtain⟨p,hp⟩:∃p,i.2.props v k=p:=⟨_,rfl⟩
 have fin:∀(rest:List UInt8),p.2.e=0->p.2.r=rest->s.e=0/\s.r=be i.1 2++(tailC v k p.1++rest):=fun rest he hrr=>by have h1:=Cs.props_back (s:=i.2) (v:=v) (kind:=k) (by rw[hp];exact he);rw[hp,hrr] at h1;have h2:=Cs.num_back (s:=s) (n:=2) (by rw[hi];exact h1.1);rw[hi] at h2;exact⟨h2.1,by rw[<-h1.2.1];exact h2.2.1⟩
 unfold q7qx at h hr ⊢;simp only[hi,hp] at h hr ⊢;rcases q9zy hk with ⟨ha,hkk⟩|⟨ha,hkk⟩
 ·rw[if_pos ha] at h hr ⊢;obtain⟨h1,h2⟩:=qo9t hkk _ _ h hr;obtain⟨h3,h4⟩:=fin _ h1 h2;refine⟨h3,?_,rfl⟩;show s.r=be i.1 2++(tailC v k p.1++((Cs.filts v k p.2.r.length p.2).1.flatMap (qjk5 k)++q56c []))
  rw[show q56c []=[] from rfl,List.append_nil];exact h4
 ·rw[if_neg (by rw[ha];decide)] at h hr ⊢;unfold Cs.codes at h hr ⊢;by_cases he:p.2.e=0
  ·rw[if_neg (by simpa using he)] at h hr ⊢;obtain⟨h3,h4⟩:=fin _ he rfl;refine⟨h3,?_,rfl⟩;show s.r=be i.1 2++(tailC v k p.1++([]++q56c (p.2.r.map fun b=>((b.toNat:Nat):Int))))
   rw[q06l,List.nil_append];exact h4
  ·rw[if_pos he] at h;exact absurd h he
theorem qy13{v k:Int}{l:List UInt8}(h:(q98d v k l).2=0):q3m2 v (q98d v k l).1=0/\rawS v (q98d v k l).1=l/\(q98d v k l).1.kind=k:=by
 unfold q98d at h ⊢;split at h
 ·cases h
 rename_i h1;rw[if_neg h1];simp only at h ⊢;split at h
 ·rename_i h2;exact absurd h h2
 rename_i h2;rw[if_neg h2];have h2:(qveh (q7qx v k ⟨l,0⟩).2 (q3m2 v (q7qx v k ⟨l,0⟩).1)).e=0:=by simpa using h2
 obtain⟨h3,h4,h5⟩:=q3vn h2;have hk:8<=k/\k<=11:=by rw[Bool.not_eq_false,Bool.and_eq_true] at h1;simpa [qfws] using h1.2
 obtain⟨_,h6,h7⟩:=q6to hk h3 h4;exact⟨h5,h6.symm,h7⟩
def qzno(v kind code:Int)(l:List Pr):List UInt8:=
 if v=5/\(code≠0\/l≠[]) then UInt8.ofNat code.toNat::(if l≠[] then(q5aq kind l).1 else []) else []
def qiby(p:Pk):Pk:={Pk.zero with kind:=p.kind,id:=p.id,code:=p.code,props:=p.props}
def qvya(k:Int):Bool:=decide (4<=k)&&decide (k<=7)
def okA(v:Int)(p:Pk):Bool:=
 versC v&&qvya p.kind&&decide (p=qiby p)&&!(v==4&&!(p.code==0&&p.props.isEmpty))&&(decide (1<=p.id)&&decide (p.id<=65535))&&mayR p.kind p.code
def qryp(v:Int)(p:Pk):Nat:=if okA v p=false then 2 else rightC v p.kind p.props
def rawA(v:Int)(p:Pk):List UInt8:=be p.id.toNat 2++qzno v p.kind p.code p.props
def q04h(v:Int)(p:Pk):List UInt8×Nat:=if qryp v p≠0 then([],qryp v p) else(rawA v p,0)
def Cs.rest(s:Cs)(v kind:Int):(Nat×List Pr)×Cs:=
 if v≠5\/s.e≠0\/s.r=[] then((0,[]),s)
 else
  let c:=s.num 1
  let p:=if c.2.r=[] then([],c.2) else c.2.props v kind
  ((c.1,p.1),if p.2.e=0/\p.2.r=[]/\qzno v kind c.1 p.1≠s.r then p.2.fail 5 else p.2)
def qngm(v kind:Int)(s:Cs):Pk×Cs:=
 let i:=s.num 2
 let r:=i.2.rest v kind
 ({Pk.zero with kind:=kind,id:=(i.1:Nat),code:=(r.1.1:Nat),props:=r.1.2},r.2)
def q9uf(v kind:Int)(l:List UInt8):Pk×Nat:=
 if (versC v&&qvya kind)=false then(Pk.zero,2)
 else
  let x:=qngm v kind ⟨l,0⟩
  let s:=qveh x.2 (qryp v x.1)
  if s.e≠0 then(Pk.zero,s.e) else(x.1,0)
theorem qaiv{k c:Int}(h:mayR k c=true):0<=c/\c<163:=by
 simp only[mayR,Bool.and_eq_true,decide_eq_true_eq] at h
 have:=q5yb (grp k) (qljz k) c.toNat (by simpa using h.2)
 omega
theorem qwnm{kind:Int}{l:List Pr}(h:qpyu kind l=0):(q5aq kind l).1≠[]:=by
 unfold q5aq;rw[if_neg (by simp[h])];obtain⟨_,_,_,h4⟩:=qpfx h;intro e;have e:=congrArg List.length e;rw[List.length_append,q8sw,List.length_nil] at e
 have:=qnl4 (q636 l).length h4
 omega
theorem ok_a{v:Int}{p:Pk}(h:okA v p=true):(v=4\/v=5)/\(4<=p.kind/\p.kind<=7)/\p=qiby p/\(v=4->p.code=0/\p.props=[])/\(1<=p.id/\p.id<=65535)/\mayR p.kind p.code=true:=by unfold okA at h;simp only[Bool.and_eq_true,Bool.or_eq_true,beq_iff_eq,decide_eq_true_eq,versC,qvya] at h;obtain⟨⟨⟨⟨⟨hv,hk⟩,hu⟩,h4⟩,hi⟩,hm⟩:=h;refine⟨hv,hk,hu,fun e=>?_,hi,hm⟩;subst e;simpa using h4
theorem q858{v:Int}{p:Pk}(h:qryp v p=0):okA v p=true/\rightC v p.kind p.props=0:=by
 rw[qryp] at h;split at h
 ·cases h
 ·rename_i h1;exact⟨by simpa using h1,h⟩
theorem q7a6{v k:Int}{c:Int}{l:List Pr}(h0:0<=c)(h1:c<256)(h4:v≠5->c=0/\l=[])(hr:rightC v k l=0):(Cs.mk (qzno v k c l) 0).rest v k=((c.toNat,l),⟨[],0⟩):=by
 by_cases hv:v=5
 ·subst hv;have hr:qpyu k l=0:=hr;have e1:∀t,(Cs.mk (UInt8.ofNat c.toNat::t) 0).num 1=(c.toNat,⟨t,0⟩):=fun t=>Cs.one_app (by omega);have hc:((c.toNat:Nat):Int)=c:=by omega
  by_cases hl:l=[]
  ·subst hl;by_cases hz:c=0
   ·subst hz;rfl
   ·have hs:qzno 5 k c []=[UInt8.ofNat c.toNat]:=by simp[qzno,hz]
    rw[hs];simp only[Cs.rest,e1,hc,if_true,hs];simp
  ·have hs:qzno 5 k c l=UInt8.ofNat c.toNat::(q5aq k l).1:=by simp[qzno,hl]
   have hp:(Cs.mk (q5aq k l).1 0).props 5 k=(l,⟨[],0⟩):=by
    have:=Cs.props_app (v:=5) (kind:=k) (l:=l) (t:=[]) hr (fun e=>absurd rfl e)
    rwa [tailC,if_pos rfl,List.append_nil] at this
   rw[hs];simp only[Cs.rest,e1,if_neg (qwnm hr),hp,hc,hs];simp
 ·obtain⟨rfl,rfl⟩:=h4 hv;simp[Cs.rest,qzno,hv]
theorem qv5p{v:Int}{p:Pk}(h:qryp v p=0):q9uf v p.kind (rawA v p)=(p,0):=by
 obtain⟨h0,hr⟩:=q858 h;obtain⟨hv,hk,hu,h4,hi,hm⟩:=ok_a h0;obtain⟨c0,c1⟩:=qaiv hm;have h1:(versC v&&qvya p.kind)=true:=by rw[Bool.and_eq_true];exact⟨by rcases hv with rfl|rfl<;>rfl,by simp[qvya,hk]⟩
 have hn:((p.id.toNat:Nat):Int)=p.id:=by omega
 have hc:((p.code.toNat:Nat):Int)=p.code:=by omega
 have hx:qngm v p.kind ⟨rawA v p,0⟩=(p,⟨[],0⟩):=by
  simp only[qngm,rawA,Cs.num_app (show p.id.toNat<256^2 by omega),q7a6 c0 (by omega) (fun e=>h4 (by omega)) hr,hn,hc];refine Prod.ext ?_ rfl
  conv=>rhs;rw[hu]
  rfl
 simp only[q9uf,h1,hx,h];simp[qveh,Cs.fail]
theorem q0lq{x:Cs}{f:Nat}(h:(qveh x f).e=0):x.e=0/\x.r=[]/\f=0:=by
 unfold qveh at h;obtain⟨h1,h2⟩:=qemw h;by_cases hx:x.e=0/\x.r≠[]
 ·rw[if_pos hx] at h1;exact absurd (qemw h1).2 (by decide)
 ·rw[if_neg hx] at h1;refine⟨h1,?_,h2⟩;by_cases hr:x.r=[]
  ·exact hr
  ·exact absurd ⟨h1,hr⟩ hx
theorem qgvz{v k:Int}{l:List UInt8}(h:(q9uf v k l).2=0):qryp v (q9uf v k l).1=0/\rawA v (q9uf v k l).1=l/\(q9uf v k l).1.kind=k:=by
 unfold q9uf at h ⊢;split at h
 ·cases h
 rename_i h1;rw[if_neg h1];simp only at h ⊢;split at h
 ·rename_i h2;exact absurd h h2
 rename_i h2;rw[if_neg h2];have h2:(qveh (qngm v k ⟨l,0⟩).2 (qryp v (qngm v k ⟨l,0⟩).1)).e=0:=by simpa using h2
 obtain⟨h3,h4,h5⟩:=q0lq h2;refine⟨h5,?_,rfl⟩;obtain⟨i,hi⟩:∃i,(Cs.mk l 0).num 2=i:=⟨_,rfl⟩
 obtain⟨r,hr⟩:∃r,i.2.rest v k=r:=⟨_,rfl⟩
 have hx:qngm v k ⟨l,0⟩=({Pk.zero with kind:=k,id:=(i.1:Nat),code:=(r.1.1:Nat),props:=r.1.2},r.2):=by subst hi hr;rfl
 rw[hx] at h3 h4 ⊢;have h3:r.2.e=0:=h3;have h4:r.2.r=[]:=h4;have hs:i.2.e=0/\qzno v k (r.1.1:Nat) r.1.2=i.2.r:=by
  unfold Cs.rest at hr;split at hr
  ·rename_i hc;subst hr;refine⟨h3,?_⟩;have h4:i.2.r=[]:=h4;rw[h4];simp[qzno]
  ·rename_i hc;have he:i.2.e=0:=by
    by_cases he:i.2.e=0
    ·exact he
    ·exact absurd (.inr (.inl he)) hc
   refine⟨he,?_⟩;simp only at hr;obtain⟨p,hp⟩:∃p,(if (i.2.num 1).2.r=[] then([],(i.2.num 1).2) else(i.2.num 1).2.props v k)=p:=⟨_,rfl⟩
   rw[hp] at hr;subst hr;simp only at h3 h4 ⊢;by_cases hw:p.2.e=0/\p.2.r=[]/\qzno v k (i.2.num 1).1 p.1≠i.2.r
   ·rw[if_pos hw] at h3;exact absurd (qemw h3).2 (by decide)
   ·rw[if_neg hw] at h3 h4;by_cases he:qzno v k (i.2.num 1).1 p.1=i.2.r
    ·exact he
    ·exact absurd ⟨h3,h4,he⟩ hw
 have hb:=Cs.num_back (s:=Cs.mk l 0) (n:=2) (by rw[hi];exact hs.1);rw[hi] at hb;have e:l=be i.1 2++i.2.r:=hb.2.1;rw[e,<-hs.2]
 rfl
def kindK(k:Int):Bool:=decide (12<=k)&&decide (k<=15)
def q6gd(v k:Int):Bool:=k==12 || k==13 || (k==14&&v==4)
def usedK(v:Int)(p:Pk):Pk:={Pk.zero with kind:=p.kind,code:=if q6gd v p.kind then 0 else p.code,props:=if q6gd v p.kind then [] else p.props}
def q1ra(v:Int)(p:Pk):Nat:=
 if (versC v&&kindK p.kind)=false then 2 else if p.kind=15/\v=4 then 8 else if (decide (p=usedK v p)&&(q6gd v p.kind || mayR p.kind p.code))=false then 2 else rightC v p.kind p.props
def q4py(code:Int)(l:List Pr)(kind:Int):List UInt8:=if code<0\/255<code\/qpyu kind l≠0 then [] else qzno 5 kind code l
def rawK(v:Int)(p:Pk):List UInt8:=if q6gd v p.kind then [] else q4py p.code p.props p.kind
def q2jl(v:Int)(p:Pk):List UInt8×Nat:=if q1ra v p≠0 then([],q1ra v p) else(rawK v p,0)
def q9kh(v kind:Int)(s:Cs):Pk×Cs:=
 if q6gd v kind then({Pk.zero with kind:=kind},s)
 else({Pk.zero with kind:=kind,code:=((s.rest v kind).1.1:Nat),props:=(s.rest v kind).1.2},(s.rest v kind).2)
def qf4x(v kind:Int)(l:List UInt8):Pk×Nat:=
 if (versC v&&kindK kind)=false then(Pk.zero,2) else if kind=15/\v=4 then(Pk.zero,8)
 else
  let x:=q9kh v kind ⟨l,0⟩
  let s:=qveh x.2 (q1ra v x.1)
  if s.e≠0 then(Pk.zero,s.e) else(x.1,0)
theorem qi0l{v:Int}{p:Pk}(h:q1ra v p=0):(v=4\/v=5)/\(12<=p.kind/\p.kind<=15)/\¬(p.kind=15/\v=4)/\p=usedK v p/\(q6gd v p.kind=false->mayR p.kind p.code=true)/\rightC v p.kind p.props=0:=by
 unfold q1ra at h;split at h
 ·cases h
 split at h
 ·cases h
 split at h
 ·cases h
 rename_i h1 h2 h3;rw[Bool.not_eq_false,Bool.and_eq_true] at h1 h3;simp only[versC,kindK,Bool.or_eq_true,Bool.and_eq_true,beq_iff_eq,decide_eq_true_eq] at h1 h3;exact⟨h1.1,h1.2,h2,h3.1,fun e=>by have:=h3.2;rw[e] at this;simpa using this,h⟩
theorem qm9l{v k:Int}(hk:12<=k/\k<=15)(hv:v=4\/v=5)(h15:¬(k=15/\v=4))(h:q6gd v k=false):v=5:=by simp only[q6gd,Bool.or_eq_false_iff,Bool.and_eq_false_iff,beq_eq_false_iff_ne] at h;omega
theorem qkt1{v:Int}{p:Pk}(h:q1ra v p=0):qf4x v p.kind (rawK v p)=(p,0):=by
 obtain⟨hv,hk,h15,hu,hm,hr⟩:=qi0l h;have h1:(versC v&&kindK p.kind)=true:=by rw[Bool.and_eq_true];exact⟨by rcases hv with rfl|rfl<;>rfl,by simp[kindK,hk]⟩
 have hx:q9kh v p.kind ⟨rawK v p,0⟩=(p,⟨[],0⟩):=by
  unfold q9kh rawK;cases hp:q6gd v p.kind with
  |true=>
   rw[if_pos rfl,if_pos rfl];refine Prod.ext ?_ rfl
   conv=>rhs;rw[hu,usedK,hp]
   rfl
  |false=>
   have h5:=qm9l hk hv h15 hp;obtain⟨c0,c1⟩:=qaiv (hm hp);have hvp:qpyu p.kind p.props=0:=by rw[rightC,if_pos h5] at hr;exact hr
   rw[if_neg (by decide),if_neg (by decide),q4py,if_neg (by omega)];have e:=q7a6 (v:=5) (k:=p.kind) (c:=p.code) (l:=p.props) c0 (by omega) (fun h=>absurd rfl h) (by rw[h5] at hr;exact hr);rw[h5,e];refine Prod.ext ?_ rfl;have hc:((p.code.toNat:Nat):Int)=p.code:=by omega
   rw[hc]
   conv=>rhs;rw[hu,usedK,hp]
   rfl
 unfold qf4x;rw[if_neg (by rw[h1];decide),if_neg h15];simp only[hx,h];simp[qveh,Cs.fail]
theorem qaiu{v k:Int}{s:Cs}(he:(s.rest v k).2.e=0)(hr:(s.rest v k).2.r=[]):s.e=0/\qzno v k ((s.rest v k).1.1:Nat) (s.rest v k).1.2=s.r:=by
 unfold Cs.rest at he hr ⊢;by_cases hc:v≠5\/s.e≠0\/s.r=[]
 ·rw[if_pos hc] at he hr ⊢;refine⟨he,?_⟩;have hr:s.r=[]:=hr;rw[hr];simp[qzno]
 ·rw[if_neg hc] at he hr ⊢;simp only at he hr ⊢;obtain⟨p,hp⟩:∃p,(if (s.num 1).2.r=[] then([],(s.num 1).2) else(s.num 1).2.props v k)=p:=⟨_,rfl⟩
  rw[hp] at he hr ⊢;by_cases hw:p.2.e=0/\p.2.r=[]/\qzno v k ((s.num 1).1:Nat) p.1≠s.r
  ·rw[if_pos hw] at he;exact absurd (qemw he).2 (by decide)
  ·rw[if_neg hw] at he hr;refine⟨?_,?_⟩
   ·by_cases e:s.e=0
    ·exact e
    ·exact absurd (.inr (.inl e)) hc
   ·by_cases e:qzno v k ((s.num 1).1:Nat) p.1=s.r
    ·exact e
    ·exact absurd ⟨he,hr,e⟩ hw
theorem qpsx{v k:Int}{l:List UInt8}(h:(qf4x v k l).2=0):q1ra v (qf4x v k l).1=0/\rawK v (qf4x v k l).1=l/\(qf4x v k l).1.kind=k:=by
 unfold qf4x at h ⊢;split at h
 ·cases h
 rename_i h1;rw[if_neg h1];split at h
 ·cases h
 rename_i h15;rw[if_neg h15];simp only at h ⊢;split at h
 ·rename_i h2;exact absurd h h2
 rename_i h2;rw[if_neg h2];have h2:(qveh (q9kh v k ⟨l,0⟩).2 (q1ra v (q9kh v k ⟨l,0⟩).1)).e=0:=by simpa using h2
 obtain⟨h3,h4,h5⟩:=q0lq h2;have hkk:(q9kh v k ⟨l,0⟩).1.kind=k:=by unfold q9kh;split<;>rfl
 refine⟨h5,?_,hkk⟩;unfold rawK;rw[hkk];have hvk:=qi0l h5;rw[hkk] at hvk;unfold q9kh at h3 h4 h5 hvk ⊢;cases hp:q6gd v k with
 |true=>rw[hp,if_pos rfl] at h4;rw[if_pos rfl];exact h4.symm
 |false=>rw[hp,if_neg (by decide)] at h3 h4 hvk;rw[if_neg (by decide),if_neg (by decide)];obtain⟨hv,hk,hn,_,hm,hr⟩:=hvk;have hv5:=qm9l hk hv hn hp;obtain⟨_,hs⟩:=qaiu h3 h4;subst hv5;have hvp:qpyu k ((Cs.mk l 0).rest 5 k).1.2=0:=hr;obtain⟨c0,c1⟩:=qaiv (hm rfl);have c0:(0:Int)<=(((Cs.mk l 0).rest 5 k).1.1:Nat):=c0;have c1:((((Cs.mk l 0).rest 5 k).1.1:Nat):Int)<163:=c1;show q4py (((Cs.mk l 0).rest 5 k).1.1:Nat) ((Cs.mk l 0).rest 5 k).1.2 k=l;rw[q4py,if_neg (by omega)];exact hs
def qc11(v:Int)(p:Pk):Nat:=
 if p.kind<=2 then validC v p else if p.kind=3 then q6ed v p else if p.kind<=7 then qryp v p else if p.kind<=11 then q3m2 v p else q1ra v p
def qx3b(v:Int)(p:Pk):List UInt8:=
 if p.kind<=2 then rawC v p else if p.kind=3 then rawU v p else if p.kind<=7 then rawA v p else if p.kind<=11 then rawS v p else rawK v p
def qdvz(v:Int)(h:Hd)(l:List UInt8):Pk×Nat:=
 if h.kind<=2 then q56s v h.kind l else if h.kind=3 then qgrv v h.flags l else if h.kind<=7 then q9uf v h.kind l else if h.kind<=11 then q98d v h.kind l else qf4x v h.kind l
def q8s2(v:Int)(p:Pk):Nat:=
 if verH v=false then 2 else if qbe2 v p.kind=false then 8 else if qc11 v p≠0 then qc11 v p else if 268435455<(qx3b v p).length then 4 else 0
def q9sw(v:Int)(p:Pk):Hd:=⟨p.kind,(qjyu v p.kind p.dup p.retain p.qos).1,((qx3b v p).length:Nat)⟩
def rawM(v:Int)(p:Pk):List UInt8:=rawH (q9sw v p)++qx3b v p
def qk4b(v:Int)(p:Pk):List UInt8×Nat:=if q8s2 v p≠0 then([],q8s2 v p) else(rawM v p,0)
def qyib(v:Int)(l:List UInt8):Pk×Nat×Nat:=
 let h:=qday v l
 if h.2.2≠0 then(Pk.zero,0,h.2.2)
 else if ((l.length-h.2.1:Nat):Int)<h.1.length then(Pk.zero,0,3)
 else
  let r:=qdvz v h.1 ((l.drop h.2.1).take h.1.length.toNat)
  if r.2≠0 then(Pk.zero,0,if r.2=3 then 5 else r.2) else(r.1,h.2.1+h.1.length.toNat,0)
def allM(v:Int):Nat->List UInt8->List Pk×Nat×Nat
 |0,_=>([],0,0)
 |n+1,l=>
  let r:=qyib v l
  if r.2.2=3 then([],0,0) else if r.2.2≠0 then([],0,r.2.2)
  else let a:=allM v n (l.drop r.2.1)
   (r.1::a.1,r.2.1+a.2.1,a.2.2)
theorem q31v{v:Int}{p:Pk}(h:q8s2 v p=0):verH v=true/\qbe2 v p.kind=true/\qc11 v p=0/\(qx3b v p).length<=268435455:=by
 unfold q8s2 at h;split at h
 ·cases h
 split at h
 ·cases h
 split at h
 ·rename_i h1;exact absurd h h1
 split at h
 ·cases h
 rename_i h1 h2 h3 h4;exact⟨by simpa using h1,by simpa using h2,by simpa using h3,by omega⟩
theorem qctd{v:Int}{p:Pk}(h1:verH v=true)(h2:qbe2 v p.kind=true)(h3:qc11 v p=0):(qjyu v p.kind p.dup p.retain p.qos).2=0:=by
 by_cases hk:p.kind=3
 ·unfold qc11 at h3;rw[if_neg (by omega),if_pos hk] at h3;obtain⟨_,_,hq,_⟩:=qhc8 h3;rw[hk];exact qytj.2 ⟨h1,hq⟩
 ·unfold qjyu;rw[h1,h2];simp only[Bool.true_eq_false,if_false,if_neg hk];split<;>rfl
theorem qlyn{v:Int}{p:Pk}(h:q8s2 v p=0):q9d8 v (q9sw v p)=0:=by obtain⟨h1,h2,h3,h4⟩:=q31v h;exact qri3.2 ⟨h1,h2,(qhp2 (qctd h1 h2 h3)).2.2,Int.natCast_nonneg _,by show(((qx3b v p).length:Nat):Int)<=_;omega⟩
theorem qqmi{v:Int}{p:Pk}(h:q8s2 v p=0):qdvz v (q9sw v p) (qx3b v p)=(p,0):=by
 obtain⟨h1,h2,h3,h4⟩:=q31v h;unfold qdvz qx3b;unfold qc11 at h3;show(if p.kind<=2 then q56s v p.kind _ else if p.kind=3 then qgrv v (qjyu v p.kind p.dup p.retain p.qos).1 _ else if p.kind<=7 then q9uf v p.kind _ else if p.kind<=11 then q98d v p.kind _ else qf4x v p.kind _)=(p,0)
 by_cases k1:p.kind<=2
 ·rw[if_pos k1] at h3 ⊢;rw[if_pos k1];exact qesd h3
 rw[if_neg k1] at h3 ⊢;rw[if_neg k1];by_cases k2:p.kind=3
 ·rw[if_pos k2] at h3 ⊢;rw[if_pos k2];obtain⟨_,_,hq,_⟩:=qhc8 h3;have hf:(qjyu v p.kind p.dup p.retain p.qos).1=qgl0 p.dup p.retain p.qos:=by unfold qjyu;rw[h1,h2];simp only[Bool.true_eq_false,if_false];rw[if_neg (by omega),if_pos k2,if_pos hq]
  rw[hf]
  have:=q3xr (t:=[]) h3
  simpa using this
 rw[if_neg k2] at h3 ⊢;rw[if_neg k2];by_cases k3:p.kind<=7
 ·rw[if_pos k3] at h3 ⊢;rw[if_pos k3];exact qv5p h3
 rw[if_neg k3] at h3 ⊢;rw[if_neg k3];by_cases k4:p.kind<=11
 ·rw[if_pos k4] at h3 ⊢;rw[if_pos k4];exact q2r8 h3
 rw[if_neg k4] at h3 ⊢;rw[if_neg k4];exact qkt1 h3
theorem qbl2(v:Int)(p:Pk):(rawM v p).length=(rawH (q9sw v p)).length+(qx3b v p).length:=by unfold rawM;rw[List.length_append]
theorem qpmk{v:Int}{p:Pk}(h:q8s2 v p=0)(t:List UInt8):qyib v (rawM v p++t)=(p,(rawM v p).length,0):=by
 have hr:=qzlb (qlyn h) (qx3b v p++t);have hk:=qqmi h;have e:rawM v p++t=rawH (q9sw v p)++(qx3b v p++t):=by unfold rawM;rw[List.append_assoc]
 have el:(q9sw v p).length=(((qx3b v p).length:Nat):Int):=rfl;unfold qyib;rw[e];simp only[hr];rw[if_neg (by simp),if_neg (by rw[el,List.length_append,List.length_append];omega),el,Int.toNat_natCast,List.drop_left,List.take_left,hk,if_neg (by simp),qbl2]
theorem qel0{v:Int}{h:Hd}{l:List UInt8}(hc:q9d8 v h=0)(hr:(qdvz v h l).2=0):qc11 v (qdvz v h l).1=0/\qx3b v (qdvz v h l).1=l/\(qdvz v h l).1.kind=h.kind/\(qjyu v h.kind (qdvz v h l).1.dup (qdvz v h l).1.retain (qdvz v h l).1.qos).1=h.flags:=by
 obtain⟨h1,h2,h3,h4⟩:=qri3.1 hc;have fl:∀(q:Pk),h.kind≠3->(qjyu v h.kind q.dup q.retain q.qos).1=h.flags:=fun q hk=>by
  have hz:(qjyu v h.kind q.dup q.retain q.qos).2=0:=by unfold qjyu;rw[h1,h2];simp only[Bool.true_eq_false,if_false,if_neg hk];split<;>rfl
  have:=q25l (f:=h.flags) hz hk
  rw[h3] at this;exact(beq_iff_eq.1 this.symm).symm
 unfold qdvz at hr ⊢;unfold qc11 qx3b;by_cases k1:h.kind<=2
 ·rw[if_pos k1] at hr ⊢;obtain⟨⟨q,e⟩,hq⟩:∃z,q56s v h.kind l=z:=⟨_,rfl⟩
  rw[hq] at hr ⊢;obtain rfl:e=0:=hr;obtain⟨a1,a2,a3⟩:=qqbo hq;simp only;rw[a3,if_pos k1,if_pos k1];exact⟨a1,a2,rfl,fl q (by omega)⟩
 rw[if_neg k1] at hr ⊢;by_cases k2:h.kind=3
 ·rw[if_pos k2] at hr ⊢;obtain⟨a1,a2,a3⟩:=qhpw hr;obtain⟨b1,_,hq,_⟩:=qhc8 a1;rw[b1];rw[if_neg (by decide),if_pos rfl,if_neg (by decide),if_pos rfl,k2];refine⟨a1,a2,rfl,?_⟩;generalize (qgrv v h.flags l).1=q at *;unfold qjyu;rw[h1,show qbe2 v 3=true by rw[<-k2];exact h2];simp only[Bool.true_eq_false,if_false];rw[if_neg (by omega),if_pos trivial,if_pos hq];exact a3
 rw[if_neg k2] at hr ⊢;by_cases k3:h.kind<=7
 ·rw[if_pos k3] at hr ⊢;obtain⟨a1,a2,a3⟩:=qgvz hr;rw[a3];rw[if_neg k1,if_neg k2,if_pos k3,if_neg k1,if_neg k2,if_pos k3];exact⟨a1,a2,rfl,fl _ k2⟩
 rw[if_neg k3] at hr ⊢;by_cases k4:h.kind<=11
 ·rw[if_pos k4] at hr ⊢;obtain⟨a1,a2,a3⟩:=qy13 hr;rw[a3];rw[if_neg k1,if_neg k2,if_neg k3,if_pos k4,if_neg k1,if_neg k2,if_neg k3,if_pos k4];exact⟨a1,a2,rfl,fl _ k2⟩
 rw[if_neg k4] at hr ⊢;obtain⟨a1,a2,a3⟩:=qpsx hr;rw[a3];rw[if_neg k1,if_neg k2,if_neg k3,if_neg k4,if_neg k1,if_neg k2,if_neg k3,if_neg k4];exact⟨a1,a2,rfl,fl _ k2⟩
theorem qwwt{v:Int}{l:List UInt8}(h:(qyib v l).2.2=0):(qday v l).2.2=0/\¬(((l.length-(qday v l).2.1:Nat):Int)<(qday v l).1.length)/\(qdvz v (qday v l).1 ((l.drop (qday v l).2.1).take (qday v l).1.length.toNat)).2=0/\
 qyib v l=((qdvz v (qday v l).1 ((l.drop (qday v l).2.1).take (qday v l).1.length.toNat)).1,(qday v l).2.1+(qday v l).1.length.toNat,0):=by
 unfold qyib at h ⊢;simp only at h ⊢;by_cases h1:(qday v l).2.2≠0
 ·rw[if_pos h1] at h;exact absurd h h1
 rw[if_neg h1] at h ⊢;by_cases h2:((l.length-(qday v l).2.1:Nat):Int)<(qday v l).1.length
 ·rw[if_pos h2] at h;cases h
 rw[if_neg h2] at h ⊢;by_cases h3:(qdvz v (qday v l).1 ((l.drop (qday v l).2.1).take (qday v l).1.length.toNat)).2≠0
 ·rw[if_pos h3] at h;exfalso;by_cases h4:(qdvz v (qday v l).1 ((l.drop (qday v l).2.1).take (qday v l).1.length.toNat)).2=3
  ·rw[if_pos h4] at h;cases h
  ·rw[if_neg h4] at h;exact h3 h
 rw[if_neg h3];exact⟨by simpa using h1,h2,by simpa using h3,rfl⟩
theorem qegg{v:Int}{l:List UInt8}(h:(qyib v l).2.2=0):q8s2 v (qyib v l).1=0/\(qyib v l).2.1<=l.length/\rawM v (qyib v l).1=l.take (qyib v l).2.1:=by
 obtain⟨h1,h2,h3,h4⟩:=qwwt h;obtain⟨c1,c2,c3⟩:=qu5k h1;have cz:=qri3.1 c1;rw[h4];obtain⟨⟨H,n,e⟩,hh⟩:∃z,qday v l=z:=⟨_,rfl⟩
 rw[hh] at h2 h3 c1 c2 c3 cz ⊢;simp only at h2 h3 c1 c2 c3 cz ⊢;obtain⟨m,hm⟩:∃m:Nat,H.length=(m:Int):=⟨H.length.toNat,by omega⟩
 rw[hm,Int.toNat_natCast] at h3 ⊢;have hlen:m<=l.length-n:=by omega
 obtain⟨b1,b2,b3,b4⟩:=qel0 c1 h3;have hbl:((l.drop n).take m).length=m:=by rw[List.length_take,List.length_drop];omega
 obtain⟨q,hq⟩:∃q,(qdvz v H ((l.drop n).take m)).1=q:=⟨_,rfl⟩
 rw[hq] at b1 b2 b3 b4 ⊢;have hhd:q9sw v q=H:=by unfold q9sw;rw[b3,b4,b2,hbl,<-hm]
 refine⟨?_,by omega,?_⟩
 ·unfold q8s2;rw[if_neg (by rw[cz.1];decide),if_neg (by rw[b3,cz.2.1];decide),if_neg (by rw[b1];simp),if_neg (by rw[b2,hbl];omega)]
 ·unfold rawM;rw[hhd,c3,b2,List.take_add]
theorem q7j5{v:Int}{p:Pk}(h:q8s2 v p=0){i:Nat}(hi:i<(rawM v p).length):qyib v ((rawM v p).take i)=(Pk.zero,0,3):=by
 rw[qbl2] at hi;by_cases h1:i<(rawH (q9sw v p)).length
 ·have e:(rawM v p).take i=(rawH (q9sw v p)).take i:=by unfold rawM;rw[List.take_append_of_le_length (by omega)]
  rw[e];unfold qyib;simp only[q83i (qlyn h) i h1];rw[if_pos (by decide)]
 ·have e:(rawM v p).take i=rawH (q9sw v p)++(qx3b v p).take (i-(rawH (q9sw v p)).length):=by unfold rawM;rw[List.take_append,List.take_of_length_le (by omega)]
  rw[e];unfold qyib;simp only[qzlb (qlyn h)];rw[if_neg (by simp),if_pos];have el:(q9sw v p).length=(((qx3b v p).length:Nat):Int):=rfl;rw[el,List.length_append,List.length_take];omega
theorem q8z5{v:Int}(h:verH v=true):qyib v []=(Pk.zero,0,3):=by unfold qyib;simp[qwts,h]
theorem qbog{v:Int}:∀(L:List Pk) (n:Nat) (t:List UInt8),(∀p∈L,q8s2 v p=0)->(qyib v t).2.2=3->L.length<n->allM v n (L.flatMap (rawM v)++t)=(L,(L.flatMap (rawM v)).length,0)
 |[],n,t,_,ht,hn=>by
  obtain⟨n,rfl⟩:∃m,n=m+1:=⟨n-1,by simp at hn;omega⟩
  rw[List.flatMap_nil,List.nil_append,allM];simp only[ht]
  rfl
 |p::L,n,t,hv,ht,hn=>by
  obtain⟨n,rfl⟩:∃m,n=m+1:=⟨n-1,by simp at hn;omega⟩
  have h1:=qpmk (hv p (List.mem_cons_self ..)) (L.flatMap (rawM v)++t);have ih:=qbog L n t (fun q hq=>hv q (List.mem_cons_of_mem _ hq)) ht (by simp at hn;omega);rw[List.flatMap_cons,List.append_assoc,allM];simp only[h1];rw[if_neg (by decide),if_neg (by simp),List.drop_left,ih,List.length_append]
end Go.Proofs.YtombgnfedafkjaaGreatDoor
