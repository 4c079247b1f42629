/- Plain facts: what a PUBLISH may hold, its body, what is read of it. No condition. -/
import Derived.Test.YtlhkgidoaggodaaGreatDoorK03
namespace Go.Proofs.YtlhkgidoaggodaaGreatDoor
def qbi7(v:Int)(p:Pk):Pk:={Pk.zero with kind:=p.kind,dup:=p.dup,retain:=p.retain,qos:=p.qos,id:=p.id,topic:=p.topic,payload:=p.payload,props:=if v=5 then p.props else []}
def idU(p:Pk):Bool:=if p.qos=0 then p.id==0 else decide (0<p.id)&&decide (p.id<=65535)
def qsuf(p:Pk):Bool:=q95c p.topic || (p.topic.isEmpty&&hasP p.props 35)
def q6ed(v:Int)(p:Pk):Nat:=
 if p.kind≠3 then 2 else if (qjyu v 3 p.dup p.retain p.qos).2≠0 then(qjyu v 3 p.dup p.retain p.qos).2
 else if (idU p&&decide (p=qbi7 v p))=false then 2 else if qsuf p=false then 10 else qpyu 3 p.props
def rawU(v:Int)(p:Pk):List UInt8:=enc2 p.topic++((if p.qos=0 then [] else be p.id.toNat 2)++(tailC v 3 p.props++p.payload))
def qf69(f:Int):Pk:={Pk.zero with kind:=3,dup:=decide (8<=f),retain:=f%2==1,qos:=f / 2%4}
def Cs.optN(s:Cs)(b:Bool):Nat×Cs:=if b then s.num 2 else(0,s)
def qefe(v f:Int)(s:Cs):Pk×Cs:=
 let t:=s.text
 let i:=t.2.optN (f / 2%4 != 0)
 let p:=i.2.props v 3
 ({qf69 f with topic:=t.1,id:=(i.1:Nat),props:=p.1,payload:=p.2.r},p.2)
def qgrv(v f:Int)(l:List UInt8):Pk×Nat:=
 if q9d8 v ⟨3,f,0⟩≠0 then(Pk.zero,q9d8 v ⟨3,f,0⟩)
 else
  let x:=qefe v f ⟨l,0⟩
  let s:=x.2.fail (q6ed v x.1)
  if s.e≠0 then(Pk.zero,s.e) else(x.1,0)
theorem qytj{v:Int}{d r:Bool}{q:Int}:(qjyu v 3 d r q).2=0↔verH v=true/\q0xk d q=true:=by
 unfold qjyu;have hk:qbe2 v 3=true:=by simp[qbe2]
 rw[hk];cases verH v
 ·simp
 ·cases q0xk d q<;>simp
theorem qdep{v:Int}(h:verH v=true):v=4\/v=5:=by unfold verH at h;simpa using h
theorem qhc8{v:Int}{p:Pk}(h:q6ed v p=0):p.kind=3/\(v=4\/v=5)/\q0xk p.dup p.qos=true/\idU p=true/\p=qbi7 v p/\qsuf p=true/\qpyu 3 p.props=0/\(v=4->p.props=[]):=by
 rw[q6ed] at h;split at h
 ·cases h
 rename_i hk;split at h
 ·rename_i hf;exact absurd h hf
 rename_i hf;have hf:(qjyu v 3 p.dup p.retain p.qos).2=0:=by simpa using hf
 obtain⟨hv,hq⟩:=qytj.1 hf;split at h
 ·cases h
 rename_i hi;split at h
 ·cases h
 rename_i ht;rw[Bool.not_eq_false,Bool.and_eq_true,decide_eq_true_eq] at hi;refine⟨by simpa using hk,qdep hv,hq,hi.1,hi.2,by simpa using ht,h,fun h4=>?_⟩
 have:=congrArg Pk.props hi.2
 rw[this];simp[qbi7,h4]
theorem qlep{f:Int}(h:qg3k 3 f=true):q0xk (decide (8<=f)) (f / 2%4)=true/\qgl0 (decide (8<=f)) (f%2==1) (f / 2%4)=f:=by
 obtain⟨h0,h1⟩:=qo5i h;obtain⟨n,rfl⟩:∃n:Nat,f=(n:Int):=⟨f.toNat,by omega⟩
 have hn:n<16:=by omega
 revert h
 clear h0 h1
 revert n
 decide+kernel
theorem q4p4(v f:Int):q9d8 v ⟨3,f,0⟩=if verH v=false then 2 else if qg3k 3 f=false then 7 else 0:=by
 unfold q9d8;have hk:qbe2 v 3=true:=by simp[qbe2]
 rw[hk];cases verH v
 ·simp
 ·cases qg3k 3 f<;>simp
theorem Cs.optN_back{s:Cs}{b:Bool}(h:(s.optN b).2.e=0):s.e=0/\s.r=(if b then be (s.optN b).1 2 else [])++(s.optN b).2.r/\(s.optN b).1<65536/\(b=false->(s.optN b).1=0):=by
 cases b
 ·exact⟨h,rfl,Nat.zero_lt_succ _,fun _=>rfl⟩
 ·obtain⟨h1,h2,h3⟩:=Cs.num_back (s:=s) (n:=2) h;exact⟨h1,h2,h3,fun e=>by cases e⟩
theorem qhpw{v f:Int}{l:List UInt8}(h:(qgrv v f l).2=0):q6ed v (qgrv v f l).1=0/\rawU v (qgrv v f l).1=l/\qgl0 (qgrv v f l).1.dup (qgrv v f l).1.retain (qgrv v f l).1.qos=f:=by
 unfold qgrv at h ⊢;split at h
 ·rename_i h1;exact absurd h h1
 rename_i h1;rw[if_neg h1];have hc:q9d8 v ⟨3,f,0⟩=0:=by simpa using h1
 simp only at h ⊢;split at h
 ·rename_i h2;exact absurd h h2
 rename_i h2;rw[if_neg h2];have h2:((qefe v f ⟨l,0⟩).2.fail (q6ed v (qefe v f ⟨l,0⟩).1)).e=0:=by simpa using h2
 obtain⟨h3,h4⟩:=qemw h2;have hfl:qg3k 3 f=true:=by
  rw[q4p4] at hc;split at hc
  ·cases hc
  ·split at hc
   ·cases hc
   ·rename_i h;simpa using h
 obtain⟨u1,u2⟩:=qlep hfl;refine⟨h4,?_,u2⟩;obtain⟨t,ht⟩:∃t,(Cs.mk l 0).text=t:=⟨_,rfl⟩
 obtain⟨i,hi⟩:∃i,t.2.optN (f / 2%4 != 0)=i:=⟨_,rfl⟩
 obtain⟨p,hp⟩:∃p,i.2.props v 3=p:=⟨_,rfl⟩
 have hx:qefe v f ⟨l,0⟩=({qf69 f with topic:=t.1,id:=(i.1:Nat),props:=p.1,payload:=p.2.r},p.2):=by subst ht hi hp;rfl
 rw[hx] at h3 ⊢;have h3:p.2.e=0:=h3;rw[<-hp] at h3;obtain⟨b1,b2,_,b4⟩:=Cs.props_back h3;rw[hp] at b2 b4;rw[<-hi] at b1;obtain⟨c1,c2,c3,c4⟩:=Cs.optN_back b1;rw[hi] at c2 c3 c4;rw[<-ht] at c1;obtain⟨_,d2,_⟩:=Cs.text_back c1;rw[ht] at d2;have d2:l=enc2 t.1++t.2.r:=d2;rw[d2,c2,b2];have hb:(if (f / 2%4 != 0)=true then be i.1 2 else [])=if f / 2%4=0 then [] else be i.1 2:=by
  by_cases h0:f / 2%4=0
  ·simp[h0]
  ·simp[h0]
 rw[hb]
 rfl
def tl(ls:List (List UInt8)):Nat:=(ls.map fun l=>l.length+1).sum
section
variable{s:List UInt8}(hn:q95c s=true)(hs:s.length<=200)
end
def share:List UInt8:=[36,115,104,97,114,101]
def qar3(s:List UInt8):List UInt8×List UInt8×Bool:=
 match lvls s with
 |h::g::f::ls=>if qecx s=true/\h=share/\g≠[]/\(43:UInt8)∉g/\(35:UInt8)∉g/\qw8n (q8nq (f::ls))=true then(g,q8nq (f::ls),true) else([],[],false)
 |_=>([],[],false)
theorem qt0s:(47:UInt8)∉share:=by decide
theorem qe2w(s:List UInt8):(∃g f,qar3 s=(g,f,true)/\s=share++47::(g++47::f)/\g≠[]/\qw8n f=true/\qecx s=true/\(43:UInt8)∉g/\(35:UInt8)∉g/\(47:UInt8)∉g)\/qar3 s=([],[],false):=by
 unfold qar3;have hj:=qz8l s;have hf:=qxp9 s;split
 ·rename_i h g f ls e;rw[e] at hj hf;split
  ·rename_i hc;obtain⟨h1,rfl,h3,h4,h5,h6⟩:=hc;refine .inl ⟨g,q8nq (f::ls),rfl,?_,h3,h6,h1,h4,h5,hf g (by simp)⟩;rw[<-hj,qcnz _ (by simp),qcnz g (by simp)]
  ·exact .inr rfl
 ·exact .inr rfl
def qsfj(k:Int):Bool:=k==8 || k==10
def qfws(k:Int):Bool:=decide (8<=k)&&decide (k<=11)
def qumw(v:Int)(p:Pk):Pk:={Pk.zero with kind:=p.kind,id:=p.id,props:=p.props,filters:=if qsfj p.kind then p.filters else [],codes:=if !qsfj p.kind&&(p.kind==9 || v==5) then p.codes else []}
def okS(v:Int)(p:Pk):Bool:=
 versC v&&qfws p.kind&&decide (p=qumw v p)&&(decide (1<=p.id)&&decide (p.id<=65535))&&!(v==4&&!p.props.isEmpty)&&!(p.filters.isEmpty&&p.codes.isEmpty&&!(p.kind==11&&v==4))
def q7yu(f:Fi):Fi:=⟨f.topic,0,false,false,0⟩
def optS(v kind:Int)(f:Fi):Bool:=
 if kind=10 then decide (f=q7yu f)
 else(decide (0<=f.qos)&&decide (f.qos<=2)&&(decide (0<=f.handling)&&decide (f.handling<=2)))&&if v=4 then !f.noLocal&&!f.asPub&&f.handling==0 else !f.noLocal || !(qar3 f.topic).2.2
def q190(v kind n:Int):Bool:=if v=4 then qw69 n else mayR kind n
def qlck(v kind:Int):List Fi->Nat
 |[]=>0
 |f::l=>if qw8n f.topic=false then 10 else if optS v kind f=false then 2 else qlck v kind l
def qq92(v kind:Int):List Int->Nat
 |[]=>0
 |c::l=>if q190 v kind c=false then 2 else qq92 v kind l
def q3m2(v:Int)(p:Pk):Nat:=
 if okS v p=false then 2 else if rightC v p.kind p.props≠0 then rightC v p.kind p.props else if qlck v p.kind p.filters≠0 then qlck v p.kind p.filters else qq92 v p.kind p.codes
def qang(f:Fi):Nat:=(f.qos%4).toNat+16*(f.handling%4).toNat+bitC f.noLocal 4+bitC f.asPub 8
def qjk5(kind:Int)(f:Fi):List UInt8:=enc2 f.topic++if kind=8 then [UInt8.ofNat (qang f)] else []
def q56c(l:List Int):List UInt8:=l.map fun c=>UInt8.ofNat c.toNat
def rawS(v:Int)(p:Pk):List UInt8:=be p.id.toNat 2++(tailC v p.kind p.props++(p.filters.flatMap (qjk5 p.kind)++q56c p.codes))
def q7vq(t:List UInt8)(n:Nat):Fi:=⟨t,(n%4:Nat),n / 4%2==1,n / 8%2==1,(n / 16%4:Nat)⟩
def Cs.filt(s:Cs)(v kind:Int):Fi×Cs:=
 let t:=s.text
 if kind=10 then(⟨t.1,0,false,false,0⟩,t.2)
 else
  let n:=t.2.num 1
  (q7vq t.1 n.1,if 63<n.1\/(v=4/\3<n.1) then n.2.fail 7 else n.2)
def Cs.filts(v kind:Int):Nat->Cs->List Fi×Cs
 |0,s=>([],s)
 |n+1,s=>if s.e≠0\/s.r=[] then([],s) else((s.filt v kind).1::(Cs.filts v kind n (s.filt v kind).2).1,(Cs.filts v kind n (s.filt v kind).2).2)
def Cs.codes(s:Cs):List Int×Cs:=if s.e≠0 then([],s) else(s.r.map (fun b=>((b.toNat:Nat):Int)),⟨[],0⟩)
def q7qx(v kind:Int)(s:Cs):Pk×Cs:=
 let i:=s.num 2
 let p:=i.2.props v kind
 if qsfj kind then
  let f:=Cs.filts v kind p.2.r.length p.2
  ({Pk.zero with kind:=kind,id:=(i.1:Nat),props:=p.1,filters:=f.1},f.2)
 else({Pk.zero with kind:=kind,id:=(i.1:Nat),props:=p.1,codes:=p.2.codes.1},p.2.codes.2)
def q98d(v kind:Int)(l:List UInt8):Pk×Nat:=
 if (versC v&&qfws kind)=false then(Pk.zero,2)
 else
  let x:=q7qx v kind ⟨l,0⟩
  let s:=qveh x.2 (q3m2 v x.1)
  if s.e≠0 then(Pk.zero,s.e) else(x.1,0)
theorem q7kh(t:List UInt8){n:Nat}(h:n<=63):qang (q7vq t n)=n:=by
 have h2:∀m,m<64->qang (q7vq [] m)=m:=by decide+kernel
 have:=h2 n (by omega)
 exact this
theorem ok_s{v:Int}{p:Pk}(h:okS v p=true):(v=4\/v=5)/\(8<=p.kind/\p.kind<=11)/\p=qumw v p/\(1<=p.id/\p.id<=65535)/\(v=4->p.props=[])/\(p.filters=[]->p.codes=[]->p.kind=11/\v=4):=by
 unfold okS at h;simp only[Bool.and_eq_true,Bool.or_eq_true,beq_iff_eq,decide_eq_true_eq,versC,qfws] at h;obtain⟨⟨⟨⟨⟨hv,hk⟩,hu⟩,hi⟩,h4⟩,he⟩:=h;refine⟨hv,hk,hu,hi,fun e=>?_,fun e1 e2=>?_⟩
 ·subst e;simpa using h4
 ·rw[e1,e2] at he;simpa using he
theorem q9zy{k:Int}(hk:8<=k/\k<=11):(qsfj k=true/\(k=8\/k=10))\/(qsfj k=false/\(k=9\/k=11)):=by
 obtain rfl|rfl|rfl|rfl:k=8\/k=9\/k=10\/k=11:=by omega
 ·exact .inl ⟨rfl,.inl rfl⟩
 ·exact .inr ⟨rfl,.inl rfl⟩
 ·exact .inl ⟨rfl,.inr rfl⟩
 ·exact .inr ⟨rfl,.inr rfl⟩
theorem q0ul(kind:Int)(f:Fi):qjk5 kind f≠[]:=by
 intro e
 have:=congrArg List.length e
 rw[qjk5,List.length_append,qnp6,List.length_nil] at this;omega
theorem q749{s:Cs}{v kind:Int}(hk:kind=8\/kind=10)(h:(s.filt v kind).2.e=0):s.e=0/\s.r=qjk5 kind (s.filt v kind).1++(s.filt v kind).2.r:=by
 rcases hk with rfl|rfl
 ·unfold Cs.filt at h ⊢;simp only[show ¬((8:Int)=10) by decide,if_false] at h ⊢;obtain⟨n,hn⟩:∃n,s.text.2.num 1=n:=⟨_,rfl⟩
  rw[hn] at h ⊢;by_cases hb:63<n.1\/(v=4/\3<n.1)
  ·rw[if_pos hb] at h;exact absurd (Cs.fail_no h).2 (by decide)
  ·rw[if_neg hb] at h ⊢;have h1:=Cs.num_back (s:=s.text.2) (n:=1) (by rw[hn];exact h);rw[hn,qpzx] at h1;obtain⟨h2,h3,_⟩:=h1;obtain⟨h4,h5,_⟩:=Cs.text_back h2;refine⟨h4,?_⟩;have hx:n.1<=63:=by
    rcases Nat.lt_or_ge 63 n.1 with h|h
    ·exact absurd (.inl h) hb
    ·exact h
   show s.r=qjk5 8 (q7vq s.text.1 n.1)++n.2.r;rw[qjk5,if_pos rfl,q7kh _ hx];show s.r=enc2 s.text.1++[UInt8.ofNat n.1]++n.2.r;rw[List.append_assoc,<-h3];exact h5
 ·unfold Cs.filt at h ⊢;simp only[if_true] at h ⊢;obtain⟨h4,h5,_⟩:=Cs.text_back h;refine⟨h4,?_⟩;rw[qjk5,if_neg (by decide),List.append_nil];exact h5
theorem qo9t{v kind:Int}(hk:kind=8\/kind=10):∀(n:Nat) (s:Cs),(Cs.filts v kind n s).2.e=0->(Cs.filts v kind n s).2.r=[]->s.e=0/\s.r=(Cs.filts v kind n s).1.flatMap (qjk5 kind)
 |0,s,h,hr=>⟨h,hr⟩
 |n+1,s,h,hr=>by
  unfold Cs.filts at h hr ⊢;split at h
  ·rename_i hc;rw[if_pos hc] at hr ⊢;exact⟨h,hr⟩
  ·rename_i hc;rw[if_neg hc] at hr ⊢;obtain⟨h1,h2⟩:=qo9t hk n _ h hr;obtain⟨h3,h4⟩:=q749 hk h1;refine⟨h3,?_⟩;rw[List.flatMap_cons,<-h2];exact h4
theorem q06l(l:List UInt8):q56c (l.map fun b=>((b.toNat:Nat):Int))=l:=by
 unfold q56c;rw[List.map_map]
 conv=>rhs;rw[<-List.map_id l]
 refine List.map_congr_left fun b _=>?_;show UInt8.ofNat (((b.toNat:Nat):Int)).toNat=b;rw[Int.toNat_natCast];simp
theorem q3vn{x:Cs}{f:Nat}(h:(qveh x f).e=0):x.e=0/\x.r=[]/\f=0:=by
 unfold qveh at h;obtain⟨h1,h2⟩:=qemw h;by_cases hx:x.e=0/\x.r≠[]
 ·rw[if_pos hx] at h1;exact absurd (qemw h1).2 (by decide)
 ·rw[if_neg hx] at h1;refine⟨h1,?_,h2⟩;by_cases hr:x.r=[]
  ·exact hr
  ·exact absurd ⟨h1,hr⟩ hx
theorem q6to{v k:Int}{s:Cs}(hk:8<=k/\k<=11)(h:(q7qx v k s).2.e=0)(hr:(q7qx v k s).2.r=[]):s.e=0/\s.r=rawS v (q7qx v k s).1/\(q7qx v k s).1.kind=k:=by
 obtain⟨i,hi⟩:∃i,s.num 2=i:=⟨_,rfl⟩
 obtain⟨p,hp⟩:∃p,i.2.props v k=p:=⟨_,rfl⟩
 have fin:∀(rest:List UInt8),p.2.e=0->p.2.r=rest->s.e=0/\s.r=be i.1 2++(tailC v k p.1++rest):=fun rest he hrr=>by have h1:=Cs.props_back (s:=i.2) (v:=v) (kind:=k) (by rw[hp];exact he);rw[hp,hrr] at h1;have h2:=Cs.num_back (s:=s) (n:=2) (by rw[hi];exact h1.1);rw[hi] at h2;exact⟨h2.1,by rw[<-h1.2.1];exact h2.2.1⟩
 unfold q7qx at h hr ⊢;simp only[hi,hp] at h hr ⊢;rcases q9zy hk with ⟨ha,hkk⟩|⟨ha,hkk⟩
 ·rw[if_pos ha] at h hr ⊢;obtain⟨h1,h2⟩:=qo9t hkk _ _ h hr;obtain⟨h3,h4⟩:=fin _ h1 h2;refine⟨h3,?_,rfl⟩;show s.r=be i.1 2++(tailC v k p.1++((Cs.filts v k p.2.r.length p.2).1.flatMap (qjk5 k)++q56c []))
  rw[show q56c []=[] from rfl,List.append_nil];exact h4
 ·rw[if_neg (by rw[ha];decide)] at h hr ⊢;unfold Cs.codes at h hr ⊢;by_cases he:p.2.e=0
  ·rw[if_neg (by simpa using he)] at h hr ⊢;obtain⟨h3,h4⟩:=fin _ he rfl;refine⟨h3,?_,rfl⟩;show s.r=be i.1 2++(tailC v k p.1++([]++q56c (p.2.r.map fun b=>((b.toNat:Nat):Int))))
   rw[q06l,List.nil_append];exact h4
  ·rw[if_pos he] at h;exact absurd h he
theorem qy13{v k:Int}{l:List UInt8}(h:(q98d v k l).2=0):q3m2 v (q98d v k l).1=0/\rawS v (q98d v k l).1=l/\(q98d v k l).1.kind=k:=by
 unfold q98d at h ⊢;split at h
 ·cases h
 rename_i h1;rw[if_neg h1];simp only at h ⊢;split at h
 ·rename_i h2;exact absurd h h2
 rename_i h2;rw[if_neg h2];have h2:(qveh (q7qx v k ⟨l,0⟩).2 (q3m2 v (q7qx v k ⟨l,0⟩).1)).e=0:=by simpa using h2
 obtain⟨h3,h4,h5⟩:=q3vn h2;have hk:8<=k/\k<=11:=by rw[Bool.not_eq_false,Bool.and_eq_true] at h1;simpa [qfws] using h1.2
 obtain⟨_,h6,h7⟩:=q6to hk h3 h4;exact⟨h5,h6.symm,h7⟩
def qzno(v kind code:Int)(l:List Pr):List UInt8:=
 if v=5/\(code≠0\/l≠[]) then UInt8.ofNat code.toNat::(if l≠[] then(q5aq kind l).1 else []) else []
def qiby(p:Pk):Pk:={Pk.zero with kind:=p.kind,id:=p.id,code:=p.code,props:=p.props}
def qvya(k:Int):Bool:=decide (4<=k)&&decide (k<=7)
def okA(v:Int)(p:Pk):Bool:=
 versC v&&qvya p.kind&&decide (p=qiby p)&&!(v==4&&!(p.code==0&&p.props.isEmpty))&&(decide (1<=p.id)&&decide (p.id<=65535))&&mayR p.kind p.code
def qryp(v:Int)(p:Pk):Nat:=if okA v p=false then 2 else rightC v p.kind p.props
def rawA(v:Int)(p:Pk):List UInt8:=be p.id.toNat 2++qzno v p.kind p.code p.props
def Cs.rest(s:Cs)(v kind:Int):(Nat×List Pr)×Cs:=
 if v≠5\/s.e≠0\/s.r=[] then((0,[]),s)
 else
  let c:=s.num 1
  let p:=if c.2.r=[] then([],c.2) else c.2.props v kind
  ((c.1,p.1),if p.2.e=0/\p.2.r=[]/\qzno v kind c.1 p.1≠s.r then p.2.fail 5 else p.2)
def qngm(v kind:Int)(s:Cs):Pk×Cs:=
 let i:=s.num 2
 let r:=i.2.rest v kind
 ({Pk.zero with kind:=kind,id:=(i.1:Nat),code:=(r.1.1:Nat),props:=r.1.2},r.2)
def q9uf(v kind:Int)(l:List UInt8):Pk×Nat:=
 if (versC v&&qvya kind)=false then(Pk.zero,2)
 else
  let x:=qngm v kind ⟨l,0⟩
  let s:=qveh x.2 (qryp v x.1)
  if s.e≠0 then(Pk.zero,s.e) else(x.1,0)
theorem qaiv{k c:Int}(h:mayR k c=true):0<=c/\c<163:=by
 simp only[mayR,Bool.and_eq_true,decide_eq_true_eq] at h
 have:=q5yb (grp k) (qljz k) c.toNat (by simpa using h.2)
 omega
theorem ok_a{v:Int}{p:Pk}(h:okA v p=true):(v=4\/v=5)/\(4<=p.kind/\p.kind<=7)/\p=qiby p/\(v=4->p.code=0/\p.props=[])/\(1<=p.id/\p.id<=65535)/\mayR p.kind p.code=true:=by unfold okA at h;simp only[Bool.and_eq_true,Bool.or_eq_true,beq_iff_eq,decide_eq_true_eq,versC,qvya] at h;obtain⟨⟨⟨⟨⟨hv,hk⟩,hu⟩,h4⟩,hi⟩,hm⟩:=h;refine⟨hv,hk,hu,fun e=>?_,hi,hm⟩;subst e;simpa using h4
theorem q0lq{x:Cs}{f:Nat}(h:(qveh x f).e=0):x.e=0/\x.r=[]/\f=0:=by
 unfold qveh at h;obtain⟨h1,h2⟩:=qemw h;by_cases hx:x.e=0/\x.r≠[]
 ·rw[if_pos hx] at h1;exact absurd (qemw h1).2 (by decide)
 ·rw[if_neg hx] at h1;refine⟨h1,?_,h2⟩;by_cases hr:x.r=[]
  ·exact hr
  ·exact absurd ⟨h1,hr⟩ hx
theorem qgvz{v k:Int}{l:List UInt8}(h:(q9uf v k l).2=0):qryp v (q9uf v k l).1=0/\rawA v (q9uf v k l).1=l/\(q9uf v k l).1.kind=k:=by
 unfold q9uf at h ⊢;split at h
 ·cases h
 rename_i h1;rw[if_neg h1];simp only at h ⊢;split at h
 ·rename_i h2;exact absurd h h2
 rename_i h2;rw[if_neg h2];have h2:(qveh (qngm v k ⟨l,0⟩).2 (qryp v (qngm v k ⟨l,0⟩).1)).e=0:=by simpa using h2
 obtain⟨h3,h4,h5⟩:=q0lq h2;refine⟨h5,?_,rfl⟩;obtain⟨i,hi⟩:∃i,(Cs.mk l 0).num 2=i:=⟨_,rfl⟩
 obtain⟨r,hr⟩:∃r,i.2.rest v k=r:=⟨_,rfl⟩
 have hx:qngm v k ⟨l,0⟩=({Pk.zero with kind:=k,id:=(i.1:Nat),code:=(r.1.1:Nat),props:=r.1.2},r.2):=by subst hi hr;rfl
 rw[hx] at h3 h4 ⊢;have h3:r.2.e=0:=h3;have h4:r.2.r=[]:=h4;have hs:i.2.e=0/\qzno v k (r.1.1:Nat) r.1.2=i.2.r:=by
  unfold Cs.rest at hr;split at hr
  ·rename_i hc;subst hr;refine⟨h3,?_⟩;have h4:i.2.r=[]:=h4;rw[h4];simp[qzno]
  ·rename_i hc;have he:i.2.e=0:=by
    by_cases he:i.2.e=0
    ·exact he
    ·exact absurd (.inr (.inl he)) hc
   refine⟨he,?_⟩;simp only at hr;obtain⟨p,hp⟩:∃p,(if (i.2.num 1).2.r=[] then([],(i.2.num 1).2) else(i.2.num 1).2.props v k)=p:=⟨_,rfl⟩
   rw[hp] at hr;subst hr;simp only at h3 h4 ⊢;by_cases hw:p.2.e=0/\p.2.r=[]/\qzno v k (i.2.num 1).1 p.1≠i.2.r
   ·rw[if_pos hw] at h3;exact absurd (qemw h3).2 (by decide)
   ·rw[if_neg hw] at h3 h4;by_cases he:qzno v k (i.2.num 1).1 p.1=i.2.r
    ·exact he
    ·exact absurd ⟨h3,h4,he⟩ hw
 have hb:=Cs.num_back (s:=Cs.mk l 0) (n:=2) (by rw[hi];exact hs.1);rw[hi] at hb;have e:l=be i.1 2++i.2.r:=hb.2.1;rw[e,<-hs.2]
 rfl
def q5t0(k:Int):Bool:=decide (12<=k)&&decide (k<=15)
def q6gd(v k:Int):Bool:=k==12 || k==13 || (k==14&&v==4)
def q4r1(v:Int)(p:Pk):Pk:={Pk.zero with kind:=p.kind,code:=if q6gd v p.kind then 0 else p.code,props:=if q6gd v p.kind then [] else p.props}
def q1ra(v:Int)(p:Pk):Nat:=
 if (versC v&&q5t0 p.kind)=false then 2 else if p.kind=15/\v=4 then 8 else if (decide (p=q4r1 v p)&&(q6gd v p.kind || mayR p.kind p.code))=false then 2 else rightC v p.kind p.props
def q4py(code:Int)(l:List Pr)(kind:Int):List UInt8:=if code<0\/255<code\/qpyu kind l≠0 then [] else qzno 5 kind code l
def rawK(v:Int)(p:Pk):List UInt8:=if q6gd v p.kind then [] else q4py p.code p.props p.kind
def q9kh(v kind:Int)(s:Cs):Pk×Cs:=
 if q6gd v kind then({Pk.zero with kind:=kind},s)
 else({Pk.zero with kind:=kind,code:=((s.rest v kind).1.1:Nat),props:=(s.rest v kind).1.2},(s.rest v kind).2)
def qf4x(v kind:Int)(l:List UInt8):Pk×Nat:=
 if (versC v&&q5t0 kind)=false then(Pk.zero,2) else if kind=15/\v=4 then(Pk.zero,8)
 else
  let x:=q9kh v kind ⟨l,0⟩
  let s:=qveh x.2 (q1ra v x.1)
  if s.e≠0 then(Pk.zero,s.e) else(x.1,0)
theorem qi0l{v:Int}{p:Pk}(h:q1ra v p=0):(v=4\/v=5)/\(12<=p.kind/\p.kind<=15)/\¬(p.kind=15/\v=4)/\p=q4r1 v p/\(q6gd v p.kind=false->mayR p.kind p.code=true)/\rightC v p.kind p.props=0:=by
 unfold q1ra at h;split at h
 ·cases h
 split at h
 ·cases h
 split at h
 ·cases h
 rename_i h1 h2 h3;rw[Bool.not_eq_false,Bool.and_eq_true] at h1 h3;simp only[versC,q5t0,Bool.or_eq_true,Bool.and_eq_true,beq_iff_eq,decide_eq_true_eq] at h1 h3;exact⟨h1.1,h1.2,h2,h3.1,fun e=>by have:=h3.2;rw[e] at this;simpa using this,h⟩
theorem qm9l{v k:Int}(hk:12<=k/\k<=15)(hv:v=4\/v=5)(h15:¬(k=15/\v=4))(h:q6gd v k=false):v=5:=by simp only[q6gd,Bool.or_eq_false_iff,Bool.and_eq_false_iff,beq_eq_false_iff_ne] at h;omega
theorem qaiu{v k:Int}{s:Cs}(he:(s.rest v k).2.e=0)(hr:(s.rest v k).2.r=[]):s.e=0/\qzno v k ((s.rest v k).1.1:Nat) (s.rest v k).1.2=s.r:=by
 unfold Cs.rest at he hr ⊢;by_cases hc:v≠5\/s.e≠0\/s.r=[]
 ·rw[if_pos hc] at he hr ⊢;refine⟨he,?_⟩;have hr:s.r=[]:=hr;rw[hr];simp[qzno]
 ·rw[if_neg hc] at he hr ⊢;simp only at he hr ⊢;obtain⟨p,hp⟩:∃p,(if (s.num 1).2.r=[] then([],(s.num 1).2) else(s.num 1).2.props v k)=p:=⟨_,rfl⟩
  rw[hp] at he hr ⊢;by_cases hw:p.2.e=0/\p.2.r=[]/\qzno v k ((s.num 1).1:Nat) p.1≠s.r
  ·rw[if_pos hw] at he;exact absurd (qemw he).2 (by decide)
  ·rw[if_neg hw] at he hr;refine⟨?_,?_⟩
   ·by_cases e:s.e=0
    ·exact e
    ·exact absurd (.inr (.inl e)) hc
   ·by_cases e:qzno v k ((s.num 1).1:Nat) p.1=s.r
    ·exact e
    ·exact absurd ⟨he,hr,e⟩ hw
theorem qpsx{v k:Int}{l:List UInt8}(h:(qf4x v k l).2=0):q1ra v (qf4x v k l).1=0/\rawK v (qf4x v k l).1=l/\(qf4x v k l).1.kind=k:=by
 unfold qf4x at h ⊢;split at h
 ·cases h
 rename_i h1;rw[if_neg h1];split at h
 ·cases h
 rename_i h15;rw[if_neg h15];simp only at h ⊢;split at h
 ·rename_i h2;exact absurd h h2
 rename_i h2;rw[if_neg h2];have h2:(qveh (q9kh v k ⟨l,0⟩).2 (q1ra v (q9kh v k ⟨l,0⟩).1)).e=0:=by simpa using h2
 obtain⟨h3,h4,h5⟩:=q0lq h2;have hkk:(q9kh v k ⟨l,0⟩).1.kind=k:=by unfold q9kh;split<;>rfl
 refine⟨h5,?_,hkk⟩;unfold rawK;rw[hkk];have hvk:=qi0l h5;rw[hkk] at hvk;unfold q9kh at h3 h4 h5 hvk ⊢;cases hp:q6gd v k with
 |true=>rw[hp,if_pos rfl] at h4;rw[if_pos rfl];exact h4.symm
 |false=>rw[hp,if_neg (by decide)] at h3 h4 hvk;rw[if_neg (by decide),if_neg (by decide)];obtain⟨hv,hk,hn,_,hm,hr⟩:=hvk;have hv5:=qm9l hk hv hn hp;obtain⟨_,hs⟩:=qaiu h3 h4;subst hv5;have hvp:qpyu k ((Cs.mk l 0).rest 5 k).1.2=0:=hr;obtain⟨c0,c1⟩:=qaiv (hm rfl);have c0:(0:Int)<=(((Cs.mk l 0).rest 5 k).1.1:Nat):=c0;have c1:((((Cs.mk l 0).rest 5 k).1.1:Nat):Int)<163:=c1;show q4py (((Cs.mk l 0).rest 5 k).1.1:Nat) ((Cs.mk l 0).rest 5 k).1.2 k=l;rw[q4py,if_neg (by omega)];exact hs
def qc11(v:Int)(p:Pk):Nat:=
 if p.kind<=2 then validC v p else if p.kind=3 then q6ed v p else if p.kind<=7 then qryp v p else if p.kind<=11 then q3m2 v p else q1ra v p
def qx3b(v:Int)(p:Pk):List UInt8:=
 if p.kind<=2 then rawC v p else if p.kind=3 then rawU v p else if p.kind<=7 then rawA v p else if p.kind<=11 then rawS v p else rawK v p
def qdvz(v:Int)(h:Hd)(l:List UInt8):Pk×Nat:=
 if h.kind<=2 then q56s v h.kind l else if h.kind=3 then qgrv v h.flags l else if h.kind<=7 then q9uf v h.kind l else if h.kind<=11 then q98d v h.kind l else qf4x v h.kind l
def qyib(v:Int)(l:List UInt8):Pk×Nat×Nat:=
 let h:=qday v l
 if h.2.2≠0 then(Pk.zero,0,h.2.2)
 else if ((l.length-h.2.1:Nat):Int)<h.1.length then(Pk.zero,0,3)
 else
  let r:=qdvz v h.1 ((l.drop h.2.1).take h.1.length.toNat)
  if r.2≠0 then(Pk.zero,0,if r.2=3 then 5 else r.2) else(r.1,h.2.1+h.1.length.toNat,0)
theorem qel0{v:Int}{h:Hd}{l:List UInt8}(hc:q9d8 v h=0)(hr:(qdvz v h l).2=0):qc11 v (qdvz v h l).1=0/\qx3b v (qdvz v h l).1=l/\(qdvz v h l).1.kind=h.kind/\(qjyu v h.kind (qdvz v h l).1.dup (qdvz v h l).1.retain (qdvz v h l).1.qos).1=h.flags:=by
 obtain⟨h1,h2,h3,h4⟩:=qri3.1 hc;have fl:∀(q:Pk),h.kind≠3->(qjyu v h.kind q.dup q.retain q.qos).1=h.flags:=fun q hk=>by
  have hz:(qjyu v h.kind q.dup q.retain q.qos).2=0:=by unfold qjyu;rw[h1,h2];simp only[Bool.true_eq_false,if_false,if_neg hk];split<;>rfl
  have:=q25l (f:=h.flags) hz hk
  rw[h3] at this;exact(beq_iff_eq.1 this.symm).symm
 unfold qdvz at hr ⊢;unfold qc11 qx3b;by_cases k1:h.kind<=2
 ·rw[if_pos k1] at hr ⊢;obtain⟨⟨q,e⟩,hq⟩:∃z,q56s v h.kind l=z:=⟨_,rfl⟩
  rw[hq] at hr ⊢;obtain rfl:e=0:=hr;obtain⟨a1,a2,a3⟩:=qqbo hq;simp only;rw[a3,if_pos k1,if_pos k1];exact⟨a1,a2,rfl,fl q (by omega)⟩
 rw[if_neg k1] at hr ⊢;by_cases k2:h.kind=3
 ·rw[if_pos k2] at hr ⊢;obtain⟨a1,a2,a3⟩:=qhpw hr;obtain⟨b1,_,hq,_⟩:=qhc8 a1;rw[b1];rw[if_neg (by decide),if_pos rfl,if_neg (by decide),if_pos rfl,k2];refine⟨a1,a2,rfl,?_⟩;generalize (qgrv v h.flags l).1=q at *;unfold qjyu;rw[h1,show qbe2 v 3=true by rw[<-k2];exact h2];simp only[Bool.true_eq_false,if_false];rw[if_neg (by omega),if_pos trivial,if_pos hq];exact a3
 rw[if_neg k2] at hr ⊢;by_cases k3:h.kind<=7
 ·rw[if_pos k3] at hr ⊢;obtain⟨a1,a2,a3⟩:=qgvz hr;rw[a3];rw[if_neg k1,if_neg k2,if_pos k3,if_neg k1,if_neg k2,if_pos k3];exact⟨a1,a2,rfl,fl _ k2⟩
 rw[if_neg k3] at hr ⊢;by_cases k4:h.kind<=11
 ·rw[if_pos k4] at hr ⊢;obtain⟨a1,a2,a3⟩:=qy13 hr;rw[a3];rw[if_neg k1,if_neg k2,if_neg k3,if_pos k4,if_neg k1,if_neg k2,if_neg k3,if_pos k4];exact⟨a1,a2,rfl,fl _ k2⟩
 rw[if_neg k4] at hr ⊢;obtain⟨a1,a2,a3⟩:=qpsx hr;rw[a3];rw[if_neg k1,if_neg k2,if_neg k3,if_neg k4,if_neg k1,if_neg k2,if_neg k3,if_neg k4];exact⟨a1,a2,rfl,fl _ k2⟩
theorem qwwt{v:Int}{l:List UInt8}(h:(qyib v l).2.2=0):(qday v l).2.2=0/\¬(((l.length-(qday v l).2.1:Nat):Int)<(qday v l).1.length)/\(qdvz v (qday v l).1 ((l.drop (qday v l).2.1).take (qday v l).1.length.toNat)).2=0/\
 qyib v l=((qdvz v (qday v l).1 ((l.drop (qday v l).2.1).take (qday v l).1.length.toNat)).1,(qday v l).2.1+(qday v l).1.length.toNat,0):=by
 unfold qyib at h ⊢;simp only at h ⊢;by_cases h1:(qday v l).2.2≠0
 ·rw[if_pos h1] at h;exact absurd h h1
 rw[if_neg h1] at h ⊢;by_cases h2:((l.length-(qday v l).2.1:Nat):Int)<(qday v l).1.length
 ·rw[if_pos h2] at h;cases h
 rw[if_neg h2] at h ⊢;by_cases h3:(qdvz v (qday v l).1 ((l.drop (qday v l).2.1).take (qday v l).1.length.toNat)).2≠0
 ·rw[if_pos h3] at h;exfalso;by_cases h4:(qdvz v (qday v l).1 ((l.drop (qday v l).2.1).take (qday v l).1.length.toNat)).2=3
  ·rw[if_pos h4] at h;cases h
  ·rw[if_neg h4] at h;exact h3 h
 rw[if_neg h3];exact⟨by simpa using h1,h2,by simpa using h3,rfl⟩
end Go.Proofs.YtlhkgidoaggodaaGreatDoor
