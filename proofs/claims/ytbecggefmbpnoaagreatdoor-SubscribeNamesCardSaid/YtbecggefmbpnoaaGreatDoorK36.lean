/- The contract of prop.Read, as a law's walk wants it. Condition: the bytes are no more than an int says. -/
import Derived.Test.YtbecggefmbpnoaaGreatDoorK35
import Derived.Test.YtbecggefmbpnoaaGreatDoorK08
import Derived.Test.YtbecggefmbpnoaaGreatDoorK04
import Derived.Test.YtbecggefmbpnoaaGreatDoorK06
namespace Go.Proofs.YtbecggefmbpnoaaGreatDoor
open Go.RowKit
theorem q188(kind:Int)(s:ByteArray)(L:List Pr)(k F:Nat)(hk0:-9223372036854775808≤kind)(hk1:kind≤9223372036854775807)(hm:s.size≤9223372036854775807)(hq:qflw kind s.data.toList=(L,k,F))(W:World) :
 Calls Tryz.prog 113 #[.int .i64 kind,.string s] W fun e W'=>Below W.heap.size W W'∧∃A c,e = .returned (.tuple #[.slice A L.length c,.int .i64 (k:Nat),.int .i64 (F:Nat)])∧L.length≤c∧PL W' A L∧(∀p∈L,PrOk p)∧L.length≤1000∧∀g i,A=some ⟨g,i,none⟩→W.heap.size≤g:=by
 have:=q3kx kind s W hk0 hk1 hm
 rw[hq] at this
 refine this.mono fun e W' ⟨hb,ok,hl,v,he,ho⟩=>⟨hb,?_⟩
 obtain⟨A,c,rfl,hc,hP,hg⟩:=PL.owned ho rfl
 exact⟨A,c,he,hc,hP,ok,hl,hg⟩
end Go.Proofs.YtbecggefmbpnoaaGreatDoor
namespace Go.Proofs.YtbecggefmbpnoaaGreatDoor
theorem qoa7{kind:Int}{p:Pr}(h:qr4y kind p=0):PrOk p∧p.text.length≤65535∧p.value.length≤65535:=by
 obtain⟨hm,h4,h5⟩:=qo1o h
 obtain⟨_,h1,h2,_⟩:=qttn h
 obtain⟨r1,r2⟩:=qilb hm
 obtain⟨f0,f7,f1,f2,f3,f4,_⟩:=qznl hm
 have hn:p.n < 4294967296:=by
  by_cases hs:qwgc p.id≤4
  ·have h6:=(h4 hs).2.2.2
   have hs4:qwgc p.id=1∨qwgc p.id=2∨qwgc p.id=3∨qwgc p.id=4:=by omega
   rcases hs4 with e | e | e | e
   ·have:=f1 e;omega
   ·have:=f2 e;omega
   ·have:=f3 e;omega
   ·have:=f4 e;omega
  ·have:=(h5 (by omega)).1;omega
 exact⟨⟨by omega,by omega,hn,by omega,by omega⟩,h1,h2⟩
theorem qdz1(kind:Int)(s:List UInt8):(∀p∈(qflw kind s).1,PrOk p∧p.text.length≤65535∧p.value.length≤65535)∧(qflw kind s).1.length≤1000:=by
 by_cases h:(qflw kind s).2.2=0
 ·have hv:=(qugf (show qflw kind s=((qflw kind s).1,(qflw kind s).2.1,0) by rw[←h])).1
  obtain⟨h1,h2,_⟩:=(qgl5 _ _).1 hv
  exact⟨fun p hp=>qoa7 (h2.1 p hp),h1⟩
 ·rw[qjfk h]
  exact⟨fun p hp=>(nomatch hp),Nat.zero_le _⟩
theorem q5pm(x:Cs)(v kind:Int):(∀p∈(x.props v kind).1,PrOk p∧p.text.length≤65535∧p.value.length≤65535)∧(x.props v kind).1.length≤1000:=by
 unfold Cs.props
 split
 ·exact⟨fun p hp=>(nomatch hp),Nat.zero_le _⟩
 ·exact qdz1 _ _
end Go.Proofs.YtbecggefmbpnoaaGreatDoor
