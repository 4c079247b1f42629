/- Plain facts: what the laws of layer 12 say of packets, bodies and codes. No condition. -/
import Derived.Test.YtbklidpadffpgaaK11
import Derived.Test.YtbklidpadffpgaaK10
namespace Go.Proofs.Ytbklidpadffpgaa
def numK(k c:Int):Pk:={Pk.zero with kind:=k,code:=c}
theorem q06i(v k c:Int):(numK k c=usedK v (numK k c))↔(q6gd v k=true→c=0):=by
 unfold usedK numK
 simp only
 cases h:q6gd v k with
 | true=>
  rw[if_pos rfl,if_pos rfl]
  constructor
  ·intro e _
   simpa [Pk.zero] using congrArg Pk.code e
  ·intro e
   rw[e rfl]
   rfl
 | false=>
  rw[if_neg (by decide),if_neg (by decide)]
  exact⟨fun _ h=>(nomatch h),fun _=>rfl⟩
theorem q95w{v k:Int}:qfk9 v k []=0:=by
 unfold qfk9
 split<;>rfl
theorem qypa{v k c:Int}(hv:v=4∨v=5)(hk:12≤k∧k≤15):q1ra v (numK k c)=if k=15∧v=4 then 8 else if (if q6gd v k=true then c=0 else mayR k c=true) then 0 else 2:=by
 have h1:(qulp v&&q5t0 k)=true:=by
  rw[Bool.and_eq_true]
  exact⟨by rcases hv with rfl | rfl<;>rfl,by simp[q5t0,hk]⟩
 unfold q1ra
 rw[show(numK k c).kind=k from rfl,show(numK k c).code=c from rfl,show(numK k c).props=[] from rfl,if_neg (by rw[h1];decide),q95w]
 by_cases h15:k=15∧v=4
 ·rw[if_pos h15,if_pos h15]
 rw[if_neg h15,if_neg h15]
 cases hp:q6gd v k with
 | true=>
  have hu:=q06i v k c
  rw[hp] at hu
  by_cases hc:c=0
  ·rw[decide_eq_true (hu.2 fun _=>hc)]
   simp[hc]
  ·rw[decide_eq_false (fun e=>hc (hu.1 e rfl))]
   simp[hc]
 | false=>
  rw[decide_eq_true ((q06i v k c).2 fun e=>by rw[hp] at e;cases e)]
  cases mayR k c<;>simp
theorem q4yt{k:Int}(hk:12≤k∧k≤15)(h:k≠15):q6gd 4 k=true:=by
 obtain rfl | rfl | rfl:k=12∨k=13∨k=14:=by omega
 all_goals rfl
theorem qz9c{k:Int}(hk:12≤k∧k < 14):q6gd 5 k=true:=by
 obtain rfl | rfl:k=12∨k=13:=by omega
 all_goals rfl
theorem qofo{k:Int}(hk:14≤k∧k≤15):q6gd 5 k=false:=by
 obtain rfl | rfl:k=14∨k=15:=by omega
 all_goals rfl
theorem qyyg{k c:Int}(hk:12≤k∧k≤15):q2jl 4 (numK k c)=([],if k=15 then 8 else if c=0 then 0 else 2):=by
 have hr:k≠15→rawK 4 (numK k c)=[]:=fun h=>by
  unfold rawK
  exact if_pos (q4yt hk h)
 unfold q2jl
 rw[qypa (.inl rfl) hk]
 by_cases h15:k=15
 ·simp[h15]
 ·rw[hr h15]
  have hp:=q4yt hk h15
  by_cases hc:c=0<;>simp[h15,hp,hc]
theorem qku3{k c:Int}(hk:12≤k∧k≤15):q2jl 5 (numK k c)=if k < 14 then([],if c=0 then 0 else 2) else if mayR k c=true then(if c=0 then [] else [UInt8.ofNat c.toNat],0) else([],2):=by
 unfold q2jl
 have e:q1ra 5 (numK k c)=if (if q6gd 5 k=true then c=0 else mayR k c=true) then 0 else 2:=by
  rw[qypa (.inr rfl) hk]
  exact if_neg (fun h=>absurd h.2 (by decide))
 rw[e]
 by_cases h14:k < 14
 ·have hp:=qz9c (k:=k) ⟨hk.1,h14⟩
  have hr:rawK 5 (numK k c)=[]:=if_pos hp
  rw[hr,if_pos h14]
  by_cases hc:c=0<;>simp[hc,hp]
 ·have hp:=qofo (k:=k) ⟨by omega,hk.2⟩
  rw[if_neg h14]
  simp only[hp,Bool.false_eq_true,if_false]
  by_cases hm:mayR k c=true
  ·obtain⟨c0,c1⟩:=qaiv hm
   rw[if_pos hm,if_pos hm]
   have hr:rawK 5 (numK k c)=if c=0 then [] else [UInt8.ofNat c.toNat]:=by
    unfold rawK
    rw[show(numK k c).kind=k from rfl,show(numK k c).code=c from rfl,show(numK k c).props=[] from rfl,hp,if_neg (by decide)]
    unfold q4py
    rw[if_neg (by
     rintro(h | h | h)
     ·omega
     ·omega
     ·exact h rfl)]
    unfold qzno
    by_cases hc:c=0<;>simp[hc]
   rw[hr]
   simp
  ·rw[if_neg hm,if_neg hm]
   simp
theorem qxi6{v:Int}{p:Pk}(h:q1ra v p=0):rawK v p=q4py p.code p.props p.kind∧(rawK v p=[]↔p.code=0∧p.props=[]):=by
 obtain⟨hv,hk,h15,hu,hm,hr⟩:=qi0l h
 unfold rawK
 cases hp:q6gd v p.kind with
 | true=>
  have hc:p.code=0:=by rw[hu,usedK,hp];rfl
  have hl:p.props=[]:=by rw[hu,usedK,hp];rfl
  rw[if_pos rfl,hc,hl]
  refine⟨?_,by simp⟩
  unfold q4py
  split
  ·rfl
  ·simp[qzno]
 | false=>
  have h5:=qm9l hk hv h15 hp
  obtain⟨c0,c1⟩:=qaiv (hm hp)
  have hvp:qpyu p.kind p.props=0:=by rw[qfk9,if_pos h5] at hr;exact hr
  rw[if_neg (by decide)]
  refine⟨rfl,?_⟩
  unfold q4py
  rw[if_neg (by
   rintro(h | h | h)
   ·omega
   ·omega
   ·exact h hvp)]
  unfold qzno
  by_cases hc:p.code=0<;>by_cases hl:p.props=[]<;>simp[hc,hl]
theorem qjrk:q2jl 5 (numK 14 0)=([],0):=by decide+kernel
theorem qlci:q2jl 5 (numK 14 4)=([4],0):=by decide+kernel
def qyjk(v k:Int):Bool×Nat:=if (qulp v&&q5t0 k)=false then(false,2) else if k=15∧v=4 then(false,8) else(!q6gd v k,0)
end Go.Proofs.Ytbklidpadffpgaa
