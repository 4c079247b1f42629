/- Plain facts: what SUBSCRIBE, SUBACK, UNSUBSCRIBE and UNSUBACK may hold, their bodies, what is read of them. No condition. -/
import Derived.Test.YtbecggefmbpnoaaGreatDoorK04
namespace Go.Proofs.YtbecggefmbpnoaaGreatDoor
def qsfj(k:Int):Bool:=k==8 || k==10
def qfws(k:Int):Bool:=decide (8≤k)&&decide (k≤11)
def qumw(v:Int)(p:Pk):Pk:={Pk.zero with kind:=p.kind,id:=p.id,props:=p.props,filters:=if qsfj p.kind then p.filters else [],codes:=if !qsfj p.kind&&(p.kind==9 || v==5) then p.codes else []}
def okS(v:Int)(p:Pk):Bool:=
 versC v&&qfws p.kind&&decide (p=qumw v p)&&(decide (1≤p.id)&&decide (p.id≤65535))&&!(v==4&&!p.props.isEmpty)&&!(p.filters.isEmpty&&p.codes.isEmpty&&!(p.kind==11&&v==4))
def q7yu(f:Fi):Fi:=⟨f.topic,0,false,false,0⟩
def optS(v kind:Int)(f:Fi):Bool:=
 if kind=10 then decide (f=q7yu f)
 else(decide (0≤f.qos)&&decide (f.qos≤2)&&(decide (0≤f.handling)&&decide (f.handling≤2)))&&if v=4 then !f.noLocal&&!f.asPub&&f.handling==0 else !f.noLocal || !(qar3 f.topic).2.2
def q190(v kind n:Int):Bool:=if v=4 then qw69 n else mayR kind n
def qlck(v kind:Int):List Fi→Nat
 | []=>0
 | f::l=>if qw8n f.topic=false then 10 else if optS v kind f=false then 2 else qlck v kind l
def qq92(v kind:Int):List Int→Nat
 | []=>0
 | c::l=>if q190 v kind c=false then 2 else qq92 v kind l
def q3m2(v:Int)(p:Pk):Nat:=
 if okS v p=false then 2 else if rightC v p.kind p.props≠0 then rightC v p.kind p.props else if qlck v p.kind p.filters≠0 then qlck v p.kind p.filters else qq92 v p.kind p.codes
def qang(f:Fi):Nat:=(f.qos%4).toNat+16*(f.handling%4).toNat+bitC f.noLocal 4+bitC f.asPub 8
def qjk5(kind:Int)(f:Fi):List UInt8:=enc2 f.topic++if kind=8 then [UInt8.ofNat (qang f)] else []
def q56c(l:List Int):List UInt8:=l.map fun c=>UInt8.ofNat c.toNat
def rawS(v:Int)(p:Pk):List UInt8:=be p.id.toNat 2++(tailC v p.kind p.props++(p.filters.flatMap (qjk5 p.kind)++q56c p.codes))
def qktk(v:Int)(p:Pk):List UInt8×Nat:=if q3m2 v p≠0 then([],q3m2 v p) else(rawS v p,0)
def q7vq(t:List UInt8)(n:Nat):Fi:=⟨t,(n%4:Nat),n / 4%2==1,n / 8%2==1,(n / 16%4:Nat)⟩
def Cs.filt(s:Cs)(v kind:Int):Fi×Cs:=
 let t:=s.text
 if kind=10 then(⟨t.1,0,false,false,0⟩,t.2)
 else
  let n:=t.2.num 1
  (q7vq t.1 n.1,if 63 < n.1∨(v=4∧3 < n.1) then n.2.fail 7 else n.2)
def Cs.filts(v kind:Int):Nat→Cs→List Fi×Cs
 | 0,s=>([],s)
 | n+1,s=>if s.e≠0∨s.r=[] then([],s) else((s.filt v kind).1::(Cs.filts v kind n (s.filt v kind).2).1,(Cs.filts v kind n (s.filt v kind).2).2)
def Cs.codes(s:Cs):List Int×Cs:=if s.e≠0 then([],s) else(s.r.map (fun b=>((b.toNat:Nat):Int)),⟨[],0⟩)
def q7qx(v kind:Int)(s:Cs):Pk×Cs:=
 let i:=s.num 2
 let p:=i.2.props v kind
 if qsfj kind then
  let f:=Cs.filts v kind p.2.r.length p.2
  ({Pk.zero with kind:=kind,id:=(i.1:Nat),props:=p.1,filters:=f.1},f.2)
 else({Pk.zero with kind:=kind,id:=(i.1:Nat),props:=p.1,codes:=p.2.codes.1},p.2.codes.2)
def q98d(v kind:Int)(l:List UInt8):Pk×Nat:=
 if (versC v&&qfws kind)=false then(Pk.zero,2)
 else
  let x:=q7qx v kind ⟨l,0⟩
  let s:=qveh x.2 (q3m2 v x.1)
  if s.e≠0 then(Pk.zero,s.e) else(x.1,0)
theorem q3p9{f:Fi}(h0:0≤f.qos∧f.qos≤2)(h1:0≤f.handling∧f.handling≤2):qang f≤63∧q7vq f.topic (qang f)=f:=by
 obtain⟨t,q,a,b,h⟩:=f
 simp only at h0 h1
 have hq:q=0∨q=1∨q=2:=by omega
 have hh:h=0∨h=1∨h=2:=by omega
 rcases hq with rfl | rfl | rfl<;>rcases hh with rfl | rfl | rfl<;>cases a<;>cases b<;>simp[qang,bitC,q7vq]
theorem qp90{f:Fi}(h1:f.handling=0)(ha:f.noLocal=false)(hb:f.asPub=false):qang f≤3:=by
 unfold qang bitC
 rw[h1,ha,hb]
 simp
 omega
theorem q7kh(t:List UInt8){n:Nat}(h:n≤63):qang (q7vq t n)=n:=by
 have h2:∀m,m < 64→qang (q7vq [] m)=m:=by decide+kernel
 have:=h2 n (by omega)
 exact this
theorem qme0{t:List UInt8}(h:qw8n t=true):qecx t=true:=by
 simp only[qw8n,Bool.and_eq_true] at h
 exact h.1.2
theorem q267{v kind:Int}:∀{l:List Fi},qlck v kind l=0→∀f∈l,qw8n f.topic=true∧optS v kind f=true
 | [],_,f,hf=>by cases hf
 | g::l,h,f,hf=>by
  unfold qlck at h
  split at h
  ·cases h
  split at h
  ·cases h
  rename_i h1 h2
  rcases List.mem_cons.1 hf with rfl | hf
  ·exact⟨by simpa using h1,by simpa using h2⟩
  ·exact q267 h f hf
theorem q6r9{v kind:Int}:∀{l:List Int},qq92 v kind l=0→∀c∈l,q190 v kind c=true
 | [],_,f,hf=>by cases hf
 | g::l,h,f,hf=>by
  unfold qq92 at h
  split at h
  ·cases h
  rename_i h1
  rcases List.mem_cons.1 hf with rfl | hf
  ·simpa using h1
  ·exact q6r9 h f hf
theorem qzk9{v kind c:Int}(h:q190 v kind c=true):0≤c∧c < 163:=by
 unfold q190 at h
 split at h
 ·simp only[qw69,Bool.or_eq_true,beq_iff_eq] at h
  omega
 ·simp only[mayR,Bool.and_eq_true,decide_eq_true_eq] at h
  have:=q5yb (grp kind) (qljz kind) c.toNat (by simpa using h.2)
  omega
theorem ok_s{v:Int}{p:Pk}(h:okS v p=true):(v=4∨v=5)∧(8≤p.kind∧p.kind≤11)∧p=qumw v p∧(1≤p.id∧p.id≤65535)∧(v=4→p.props=[])∧(p.filters=[]→p.codes=[]→p.kind=11∧v=4):=by
 unfold okS at h
 simp only[Bool.and_eq_true,Bool.or_eq_true,beq_iff_eq,decide_eq_true_eq,versC,qfws] at h
 obtain⟨⟨⟨⟨⟨hv,hk⟩,hu⟩,hi⟩,h4⟩,he⟩:=h
 refine⟨hv,hk,hu,hi,fun e=>?_,fun e1 e2=>?_⟩
 ·subst e
  simpa using h4
 ·rw[e1,e2] at he
  simpa using he
theorem q87v{v:Int}{p:Pk}(h:q3m2 v p=0):okS v p=true∧rightC v p.kind p.props=0∧qlck v p.kind p.filters=0∧qq92 v p.kind p.codes=0:=by
 unfold q3m2 at h
 split at h
 ·cases h
 split at h
 ·rename_i h1 h2;exact absurd h h2
 split at h
 ·rename_i h1 h2 h3;exact absurd h h3
 rename_i h1 h2 h3
 exact⟨by simpa using h1,by simpa using h2,by simpa using h3,h⟩
theorem q9zy{k:Int}(hk:8≤k∧k≤11):(qsfj k=true∧(k=8∨k=10))∨(qsfj k=false∧(k=9∨k=11)):=by
 obtain rfl | rfl | rfl | rfl:k=8∨k=9∨k=10∨k=11:=by omega
 ·exact .inl ⟨rfl,.inl rfl⟩
 ·exact .inr ⟨rfl,.inl rfl⟩
 ·exact .inl ⟨rfl,.inr rfl⟩
 ·exact .inr ⟨rfl,.inr rfl⟩
theorem qmqi{v:Int}{p:Pk}(hu:p=qumw v p):(qsfj p.kind=true→p.codes=[])∧(qsfj p.kind=false→p.filters=[]):=by
 constructor
 ·intro h
  have:=congrArg Pk.codes hu
  rw[qumw,h] at this
  simpa using this
 ·intro h
  have:=congrArg Pk.filters hu
  rw[qumw,h] at this
  simpa using this
theorem qagk{v:Int}{f:Fi}(h:optS v 8 f=true):(0≤f.qos∧f.qos≤2)∧(0≤f.handling∧f.handling≤2)∧(v=4→f.noLocal=false∧f.asPub=false∧f.handling=0):=by
 unfold optS at h
 rw[if_neg (by decide),Bool.and_eq_true,Bool.and_eq_true,Bool.and_eq_true,Bool.and_eq_true] at h
 simp only[decide_eq_true_eq] at h
 refine⟨h.1.1,h.1.2,fun e=>?_⟩
 have h2:=h.2
 rw[if_pos e,Bool.and_eq_true,Bool.and_eq_true,Bool.not_eq_true',Bool.not_eq_true',beq_iff_eq] at h2
 exact⟨h2.1.1,h2.1.2,h2.2⟩
theorem q8jf{v kind:Int}{f:Fi}{t:List UInt8}(hk:kind=8∨kind=10)(h1:qw8n f.topic=true)(h2:optS v kind f=true):(Cs.mk (qjk5 kind f++t) 0).filt v kind=(f,⟨t,0⟩):=by
 rcases hk with rfl | rfl
 ·obtain⟨hq,hh,h4⟩:=qagk h2
  obtain⟨hb,hu⟩:=q3p9 hq hh
  have ht:(Cs.mk (qjk5 8 f++t) 0).text=(f.topic,⟨[UInt8.ofNat (qang f)]++t,0⟩):=by
   rw[qjk5,if_pos rfl,List.append_assoc]
   exact Cs.text_app (qme0 h1)
  have hn:¬(63 < qang f∨(v=4∧3 < qang f)):=by
   rintro(h | ⟨e,h⟩)
   ·omega
   ·obtain⟨a,b,c⟩:=h4 e
    have:=qp90 c a b
    omega
  simp only[Cs.filt,ht,Cs.one_app (show qang f < 256 by omega),hu]
  rw[if_neg (by decide),if_neg hn]
 ·have he:f=q7yu f:=by
   unfold optS at h2
   rw[if_pos rfl] at h2
   exact of_decide_eq_true h2
  have ht:(Cs.mk (qjk5 10 f++t) 0).text=(f.topic,⟨t,0⟩):=by
   rw[qjk5,if_neg (by decide),List.append_nil]
   exact Cs.text_app (qme0 h1)
  simp only[Cs.filt,ht,if_true]
  rw[show(⟨f.topic,0,false,false,0⟩:Fi)=q7yu f from rfl,←he]
theorem q0ul(kind:Int)(f:Fi):qjk5 kind f≠[]:=by
 intro e
 have:=congrArg List.length e
 rw[qjk5,List.length_append,qnp6,List.length_nil] at this
 omega
theorem q4zf{v kind:Int}(hk:kind=8∨kind=10):∀(l:List Fi) (n:Nat),l.length≤n→(∀f∈l,qw8n f.topic=true∧optS v kind f=true)→Cs.filts v kind n ⟨l.flatMap (qjk5 kind),0⟩=(l,⟨[],0⟩)
 | [],n,_,_=>by
  cases n with
  | zero=>rfl
  | succ n=>simp[Cs.filts]
 | f::l,0,hn,_=>by simp at hn
 | f::l,n+1,hn,h=>by
  have hf:=h f (List.mem_cons_self ..)
  have e:=q8jf (t:=l.flatMap (qjk5 kind)) hk hf.1 hf.2
  have ih:=q4zf hk l n (by simpa using hn) (fun g hg=>h g (List.mem_cons_of_mem _ hg))
  have hne:¬((Cs.mk ((f::l).flatMap (qjk5 kind)) 0).e≠0∨(Cs.mk ((f::l).flatMap (qjk5 kind)) 0).r=[]):=by
   rw[List.flatMap_cons]
   simp[q0ul]
  rw[Cs.filts,if_neg hne,List.flatMap_cons,e,ih]
theorem qlix{l:List Int}(h:∀c∈l,0≤c∧c < 163):(q56c l).map (fun b=>((b.toNat:Nat):Int))=l:=by
 unfold q56c
 rw[List.map_map]
 conv=>rhs;rw[←List.map_id l]
 refine List.map_congr_left fun c hc=>?_
 have:=h c hc
 show(((UInt8.ofNat c.toNat).toNat:Nat):Int)=c
 rw[UInt8.toNat_ofNat']
 omega
theorem qbog(kind:Int)(l:List Fi):l.length≤(l.flatMap (qjk5 kind)).length:=by
 induction l with
 | nil=>exact Nat.zero_le _
 | cons f l ih=>
  have:=List.length_pos_iff.2 (q0ul kind f)
  rw[List.flatMap_cons,List.length_append,List.length_cons]
  omega
theorem q2r8{v:Int}{p:Pk}(h:q3m2 v p=0):q98d v p.kind (rawS v p)=(p,0):=by
 obtain⟨h0,hr,hf,hc⟩:=q87v h
 obtain⟨hv,hk,hu,hi,h4,_⟩:=ok_s h0
 have h1:(versC v&&qfws p.kind)=true:=by
  rw[Bool.and_eq_true]
  exact⟨by rcases hv with rfl | rfl<;>rfl,by simp[qfws,hk]⟩
 have hn:((p.id.toNat:Nat):Int)=p.id:=by omega
 have hp:=Cs.props_app (t:=p.filters.flatMap (qjk5 p.kind)++q56c p.codes) hr (fun e=>h4 (by omega))
 obtain⟨u1,u2⟩:=qmqi hu
 have hx:q7qx v p.kind ⟨rawS v p,0⟩=(p,⟨[],0⟩):=by
  unfold q7qx
  simp only[rawS,Cs.num_app (show p.id.toNat < 256^2 by omega),hp,hn]
  rcases q9zy hk with ⟨ha,hkk⟩ | ⟨ha,hkk⟩
  ·rw[if_pos ha,u1 ha]
   have hcn:q56c []=[]:=rfl
   rw[hcn,List.append_nil,q4zf hkk _ _ (qbog p.kind p.filters) (q267 hf)]
   refine Prod.ext ?_ rfl
   conv=>rhs;rw[hu]
   simp only[qumw,ha]
   rfl
  ·rw[if_neg (by rw[ha];decide),u2 ha]
   simp only[List.flatMap_nil,List.nil_append,Cs.codes]
   rw[if_neg (by simp),qlix (fun c hcm=>qzk9 (q6r9 hc c hcm))]
   refine Prod.ext ?_ rfl
   have hcc:=congrArg Pk.codes hu
   conv=>rhs;rw[hu]
   rw[qumw] at hcc ⊢
   simp only[ha] at hcc ⊢
   rw[←hcc]
   rfl
 simp only[q98d,h1,hx,h]
 simp[qveh,Cs.fail]
theorem q749{s:Cs}{v kind:Int}(hk:kind=8∨kind=10)(h:(s.filt v kind).2.e=0):s.e=0∧s.r=qjk5 kind (s.filt v kind).1++(s.filt v kind).2.r:=by
 rcases hk with rfl | rfl
 ·unfold Cs.filt at h ⊢
  simp only[show ¬((8:Int)=10) by decide,if_false] at h ⊢
  obtain⟨n,hn⟩:∃n,s.text.2.num 1=n:=⟨_,rfl⟩
  rw[hn] at h ⊢
  by_cases hb:63 < n.1∨(v=4∧3 < n.1)
  ·rw[if_pos hb] at h
   exact absurd (Cs.fail_no h).2 (by decide)
  ·rw[if_neg hb] at h ⊢
   have h1:=Cs.num_back (s:=s.text.2) (n:=1) (by rw[hn];exact h)
   rw[hn,qpzx] at h1
   obtain⟨h2,h3,_⟩:=h1
   obtain⟨h4,h5,_⟩:=Cs.text_back h2
   refine⟨h4,?_⟩
   have hx:n.1≤63:=by
    rcases Nat.lt_or_ge 63 n.1 with h | h
    ·exact absurd (.inl h) hb
    ·exact h
   show s.r=qjk5 8 (q7vq s.text.1 n.1)++n.2.r
   rw[qjk5,if_pos rfl,q7kh _ hx]
   show s.r=enc2 s.text.1++[UInt8.ofNat n.1]++n.2.r
   rw[List.append_assoc,←h3]
   exact h5
 ·unfold Cs.filt at h ⊢
  simp only[if_true] at h ⊢
  obtain⟨h4,h5,_⟩:=Cs.text_back h
  refine⟨h4,?_⟩
  rw[qjk5,if_neg (by decide),List.append_nil]
  exact h5
theorem qo9t{v kind:Int}(hk:kind=8∨kind=10):∀(n:Nat) (s:Cs),(Cs.filts v kind n s).2.e=0→(Cs.filts v kind n s).2.r=[]→s.e=0∧s.r=(Cs.filts v kind n s).1.flatMap (qjk5 kind)
 | 0,s,h,hr=>⟨h,hr⟩
 | n+1,s,h,hr=>by
  unfold Cs.filts at h hr ⊢
  split at h
  ·rename_i hc
   rw[if_pos hc] at hr ⊢
   exact⟨h,hr⟩
  ·rename_i hc
   rw[if_neg hc] at hr ⊢
   obtain⟨h1,h2⟩:=qo9t hk n _ h hr
   obtain⟨h3,h4⟩:=q749 hk h1
   refine⟨h3,?_⟩
   rw[List.flatMap_cons,←h2]
   exact h4
theorem q06l(l:List UInt8):q56c (l.map fun b=>((b.toNat:Nat):Int))=l:=by
 unfold q56c
 rw[List.map_map]
 conv=>rhs;rw[←List.map_id l]
 refine List.map_congr_left fun b _=>?_
 show UInt8.ofNat (((b.toNat:Nat):Int)).toNat=b
 rw[Int.toNat_natCast]
 simp
theorem q3vn{x:Cs}{f:Nat}(h:(qveh x f).e=0):x.e=0∧x.r=[]∧f=0:=by
 unfold qveh at h
 obtain⟨h1,h2⟩:=qemw h
 by_cases hx:x.e=0∧x.r≠[]
 ·rw[if_pos hx] at h1
  exact absurd (qemw h1).2 (by decide)
 ·rw[if_neg hx] at h1
  refine⟨h1,?_,h2⟩
  by_cases hr:x.r=[]
  ·exact hr
  ·exact absurd ⟨h1,hr⟩ hx
theorem q6to{v k:Int}{s:Cs}(hk:8≤k∧k≤11)(h:(q7qx v k s).2.e=0)(hr:(q7qx v k s).2.r=[]):s.e=0∧s.r=rawS v (q7qx v k s).1∧(q7qx v k s).1.kind=k:=by
 obtain⟨i,hi⟩:∃i,s.num 2=i:=⟨_,rfl⟩
 obtain⟨p,hp⟩:∃p,i.2.props v k=p:=⟨_,rfl⟩
 have fin:∀(rest:List UInt8),p.2.e=0→p.2.r=rest→s.e=0∧s.r=be i.1 2++(tailC v k p.1++rest):=fun rest he hrr=>by
  have h1:=Cs.props_back (s:=i.2) (v:=v) (kind:=k) (by rw[hp];exact he)
  rw[hp,hrr] at h1
  have h2:=Cs.num_back (s:=s) (n:=2) (by rw[hi];exact h1.1)
  rw[hi] at h2
  exact⟨h2.1,by rw[←h1.2.1];exact h2.2.1⟩
 unfold q7qx at h hr ⊢
 simp only[hi,hp] at h hr ⊢
 rcases q9zy hk with ⟨ha,hkk⟩ | ⟨ha,hkk⟩
 ·rw[if_pos ha] at h hr ⊢
  obtain⟨h1,h2⟩:=qo9t hkk _ _ h hr
  obtain⟨h3,h4⟩:=fin _ h1 h2
  refine⟨h3,?_,rfl⟩
  show s.r=be i.1 2++(tailC v k p.1++((Cs.filts v k p.2.r.length p.2).1.flatMap (qjk5 k)++q56c []))
  rw[show q56c []=[] from rfl,List.append_nil]
  exact h4
 ·rw[if_neg (by rw[ha];decide)] at h hr ⊢
  unfold Cs.codes at h hr ⊢
  by_cases he:p.2.e=0
  ·rw[if_neg (by simpa using he)] at h hr ⊢
   obtain⟨h3,h4⟩:=fin _ he rfl
   refine⟨h3,?_,rfl⟩
   show s.r=be i.1 2++(tailC v k p.1++([]++q56c (p.2.r.map fun b=>((b.toNat:Nat):Int))))
   rw[q06l,List.nil_append]
   exact h4
  ·rw[if_pos he] at h
   exact absurd h he
theorem qy13{v k:Int}{l:List UInt8}(h:(q98d v k l).2=0):q3m2 v (q98d v k l).1=0∧rawS v (q98d v k l).1=l∧(q98d v k l).1.kind=k:=by
 unfold q98d at h ⊢
 split at h
 ·cases h
 rename_i h1
 rw[if_neg h1]
 simp only at h ⊢
 split at h
 ·rename_i h2;exact absurd h h2
 rename_i h2
 rw[if_neg h2]
 have h2:(qveh (q7qx v k ⟨l,0⟩).2 (q3m2 v (q7qx v k ⟨l,0⟩).1)).e=0:=by simpa using h2
 obtain⟨h3,h4,h5⟩:=q3vn h2
 have hk:8≤k∧k≤11:=by
  rw[Bool.not_eq_false,Bool.and_eq_true] at h1
  simpa [qfws] using h1.2
 obtain⟨_,h6,h7⟩:=q6to hk h3 h4
 exact⟨h5,h6.symm,h7⟩
end Go.Proofs.YtbecggefmbpnoaaGreatDoor
