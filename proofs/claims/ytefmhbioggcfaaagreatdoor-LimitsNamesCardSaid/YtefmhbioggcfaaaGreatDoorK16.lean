/- Plain facts: a text divided at indexes, in whatever order they come. No condition. -/
import Derived.Lib.Hide
namespace Go.Proofs.YtefmhbioggcfaaaGreatDoor
def inL(x:Nat):List Nat->List Nat
 |[]=>[x]
 |y::l=>if x<y then x::y::l else y::inL x l
def okL(n:Nat)(c:Int):Bool:=decide (0<=c)&&decide (c<=(n:Int))
def qo95(n:Nat)(cuts:List Int):List Nat:=cuts.foldl (fun l c=>if okL n c then inL c.toNat l else l) []
def qq6q{α:Type}(s:List α):Nat->List Nat->List (List α)
 |f,[]=>[s.drop f]
 |f,x::l=>(s.drop f).take (x-f)::qq6q s x l
def qhkp{α:Type}(s:List α)(cuts:List Int):List (List α):=qq6q s 0 (qo95 s.length cuts)
theorem qxfq(x:Nat):∀l y,y∈inL x l↔y=x\/y∈l
 |[],y=>by simp[inL]
 |z::l,y=>by
  unfold inL;split
  ·simp
  ·rw[List.mem_cons,qxfq x l y,List.mem_cons];constructor
   ·rintro(h|h|h)
    ·exact .inr (.inl h)
    ·exact .inl h
    ·exact .inr (.inr h)
   ·rintro(h|h|h)
    ·exact .inr (.inl h)
    ·exact .inl h
    ·exact .inr (.inr h)
theorem q5yw(x:Nat):∀l:List Nat,l.Pairwise (·<=·)->(inL x l).Pairwise (·<=·)
 |[],_=>by simp[inL]
 |y::l,h=>by
  unfold inL;rw[List.pairwise_cons] at h;split
  ·rw[List.pairwise_cons,List.pairwise_cons];refine⟨fun z hz=>?_,h⟩;rcases List.mem_cons.1 hz with rfl|hz
   ·omega
   ·have:=h.1 z hz;omega
  ·rw[List.pairwise_cons];refine⟨fun z hz=>?_,q5yw x l h.2⟩;rcases(qxfq x l z).1 hz with rfl|hz
   ·omega
   ·exact h.1 z hz
theorem q6a1(x:Nat):∀l:List Nat,(inL x l).Perm (x::l)
 |[]=>List.Perm.refl _
 |y::l=>by
  unfold inL;split
  ·exact List.Perm.refl _
  ·exact((q6a1 x l).cons y).trans (List.Perm.swap x y l)
def fitL(n:Nat)(cuts:List Int):List Nat:=(cuts.filter (okL n)).map Int.toNat
theorem q2m0(n:Nat):∀(cuts:List Int) (l:List Nat),l.Pairwise (·<=·)->(cuts.foldl (fun l c=>if okL n c then inL c.toNat l else l) l).Pairwise (·<=·)/\(cuts.foldl (fun l c=>if okL n c then inL c.toNat l else l) l).Perm (fitL n cuts++l)
 |[],l,h=>⟨h,List.Perm.refl _⟩
 |c::r,l,h=>by
  rw[List.foldl_cons];cases hc:okL n c with
  |true=>rw[if_pos rfl];obtain⟨h1,h2⟩:=q2m0 n r (inL c.toNat l) (q5yw _ _ h);refine⟨h1,h2.trans ?_⟩;unfold fitL;rw[List.filter_cons_of_pos hc,List.map_cons];refine((q6a1 c.toNat l).append_left _).trans ?_;exact List.perm_middle
  |false=>rw[if_neg (by decide)];obtain⟨h1,h2⟩:=q2m0 n r l h;refine⟨h1,?_⟩;unfold fitL;rw[List.filter_cons_of_neg (by rw[hc];decide)];exact h2
theorem qan7(n:Nat)(cuts:List Int):(qo95 n cuts).Pairwise (·<=·):=(q2m0 n cuts [] .nil).1
theorem qo2t(n:Nat)(cuts:List Int):(qo95 n cuts).Perm (fitL n cuts):=by
 have:=(q2m0 n cuts [] .nil).2
 rwa [List.append_nil] at this
def q9lk{α:Type}(s:List α):Nat->List Nat->List (List α)
 |_,[]=>[]
 |f,x::l=>(s.drop f).take (x-f)::q9lk s x l
def qj5n:Nat->List Nat->Nat
 |f,[]=>f
 |_,x::l=>qj5n x l
theorem qzto{α:Type}(s:List α):∀(l:List Nat) (f:Nat),qq6q s f l=q9lk s f l++[s.drop (qj5n f l)]
 |[],_=>rfl
 |x::l,f=>by rw[qq6q,q9lk,qj5n,qzto s l x];rfl
theorem qple{α:Type}(s:List α)(x:Nat):∀(l:List Nat) (f:Nat),q9lk s f (l++[x])=q9lk s f l++[(s.drop (qj5n f l)).take (x-qj5n f l)]
 |[],_=>rfl
 |y::l,f=>by rw[List.cons_append,q9lk,q9lk,qj5n,qple s x l y];rfl
theorem qisl(x:Nat):∀(l:List Nat) (f:Nat),qj5n f (l++[x])=x
 |[],_=>rfl
 |y::l,f=>by rw[List.cons_append,qj5n,qisl x l y]
theorem qdqk{x:Nat}:∀(l:List Nat) (f:Nat),f<=x->(∀y∈l,y<=x)->qj5n f l<=x
 |[],_,h,_=>h
 |y::l,_,_,h=>qdqk l y (h y (List.mem_cons_self ..)) fun z hz=>h z (List.mem_cons_of_mem _ hz)
theorem qtb5{α:Type}(s:List α):∀(l:List Nat) (f:Nat),(q9lk s f l).length=l.length
 |[],_=>rfl
 |x::l,f=>by rw[q9lk,List.length_cons,qtb5 s l x,List.length_cons]
def qs51(zs:List Int):List Int:=zs.mergeSort fun x y=>decide (x<=y)
theorem qo2c(zs:List Int):(qs51 zs).Perm zs:=List.mergeSort_perm _ _
theorem ql8m(zs:List Int):(qs51 zs).length=zs.length:=(qo2c zs).length_eq
theorem q63u(zs:List Int):(qs51 zs).Pairwise (·<=·):=by have h:=List.pairwise_mergeSort (le:=fun x y:Int=>decide (x<=y)) (fun a b c h1 h2=>by simp only[decide_eq_true_eq] at *;omega) (fun a b=>by simp only[Bool.or_eq_true,decide_eq_true_eq];omega) zs;exact h.imp fun h=>by simpa using h
theorem q3u3{n:Nat}{l:List Int}(h:l.Pairwise (·<=·)):(fitL n l).Pairwise (·<=·):=by unfold fitL;rw[List.pairwise_map];exact(h.filter _).imp fun h=>by omega
theorem qk11(n:Nat)(zs:List Int):qo95 n zs=fitL n (qs51 zs):=by have hp:(qo95 n zs).Perm (fitL n (qs51 zs)):=(qo2t n zs).trans (((qo2c zs).filter _).map _).symm;exact hp.eq_of_pairwise (fun x y _ _ h1 h2=>Nat.le_antisymm h1 h2) (qan7 n zs) (q3u3 (q63u zs))
theorem qpl1{n k:Nat}{l:List Int}(hk:k<l.length)(h:okL n (l.getD k 0)=true):fitL n (l.take (k+1))=fitL n (l.take k)++[(l.getD k 0).toNat]:=by
 have e:l.getD k 0=l[k]:=by simp[List.getD,hk]
 rw[e] at h ⊢;unfold fitL;rw[List.take_succ_eq_append_getElem hk,List.filter_append,List.filter_cons_of_pos h,List.map_append]
 rfl
theorem qrq7{n k:Nat}{l:List Int}(hk:k<l.length)(h:okL n (l.getD k 0)=false):fitL n (l.take (k+1))=fitL n (l.take k):=by
 have e:l.getD k 0=l[k]:=by simp[List.getD,hk]
 rw[e] at h;unfold fitL;rw[List.take_succ_eq_append_getElem hk,List.filter_append,List.filter_cons_of_neg (by rw[h];decide),List.filter_nil,List.append_nil]
theorem qvm5{n k:Nat}{l:List Int}(hl:l.Pairwise (·<=·))(hk:k<l.length)(h:okL n (l.getD k 0)=true):qj5n 0 (fitL n (l.take k))<=(l.getD k 0).toNat:=by have hp:=q3u3 (n:=n) (hl.sublist (List.take_sublist (k+1) l));rw[qpl1 hk h,List.pairwise_append] at hp;exact qdqk _ _ (Nat.zero_le _) fun y hy=>hp.2.2 y hy _ (List.mem_cons_self ..)
theorem q6f0{n:Nat}{l:List Int}:qj5n 0 (fitL n l)<=n:=by refine qdqk _ _ (Nat.zero_le _) fun y hy=>?_;unfold fitL at hy;obtain⟨c,h2,rfl⟩:=List.mem_map.1 hy;have h3:=(List.mem_filter.1 h2).2;simp only[okL,Bool.and_eq_true,decide_eq_true_eq] at h3;omega
theorem q7dk(n:Nat)(l:List Int):(fitL n l).length<=l.length:=by unfold fitL;rw[List.length_map];exact List.length_filter_le _ _
end Go.Proofs.YtefmhbioggcfaaaGreatDoor
