/- Plain facts: what is read of a body holds no more than its fields may. No program but for the types. No condition. -/
import Derived.Test.YtefmhbioggcfaaaGreatDoorK31
import Derived.Test.YtefmhbioggcfaaaGreatDoorK32
namespace Go.Proofs.YtefmhbioggcfaaaGreatDoor
theorem qz3k(x:Cs):x.text.1.length<=65535:=by
 unfold Cs.text;split
 ·exact Nat.zero_le _
 ·exact(qslt _).2
theorem qlbc(x:Cs):x.bin.1.length<=65535:=by
 unfold Cs.bin;split
 ·exact Nat.zero_le _
 ·exact(q3gm _).2
theorem qsam(x:Cs)(b:Bool):(x.optT b).1.length<=65535:=by
 cases b
 ·exact Nat.zero_le _
 ·exact qz3k x
theorem qea9(x:Cs)(b:Bool):(x.optB b).1.length<=65535:=by
 cases b
 ·exact Nat.zero_le _
 ·exact qlbc x
theorem qwpw(x:Cs)(b:Bool)(v kind:Int):(∀p∈(x.optP b v kind).1,PrOk p/\p.text.length<=65535/\p.value.length<=65535)/\(x.optP b v kind).1.length<=1000:=by
 cases b
 ·exact⟨fun p hp=>(nomatch hp),Nat.zero_le _⟩
 ·exact q5pm x v kind
def FitP(p:Pk):Prop:=PkOk p/\q21o p/\(-9223372036854775808<=p.wQos/\p.wQos<=9223372036854775807)/\p.codes=[]/\p.filters=[]
theorem qknl:FitP Pk.zero:=by
 refine⟨⟨by decide,by decide,fun t ht=>?_,fun x hx=>(nomatch hx),fun x hx=>(nomatch hx),fun x hx=>(nomatch hx)⟩,⟨by decide,by decide,by decide,by decide⟩,by decide,rfl,rfl⟩
 have:t=[]:=by simpa [Pk.texts,Pk.zero] using ht
 rw[this];decide
theorem q553(v:Int)(x:Cs):FitP (qnld v x).1:=by
 obtain⟨c,hc⟩:∃c,(x.name.vers v).flags v=c:=⟨_,rfl⟩
 obtain⟨d,hd⟩:∃d,c.2.num 2=d:=⟨_,rfl⟩
 obtain⟨p,hp⟩:∃p,d.2.props v 1=p:=⟨_,rfl⟩
 obtain⟨q,hq⟩:∃q,p.2.text=q:=⟨_,rfl⟩
 obtain⟨wp,hwp⟩:∃x,q.2.optP (c.1 / 4%2==1) v 16=x:=⟨_,rfl⟩
 obtain⟨wt,hwt⟩:∃x,wp.2.optT (c.1 / 4%2==1)=x:=⟨_,rfl⟩
 obtain⟨wd,hwd⟩:∃x,wt.2.optB (c.1 / 4%2==1)=x:=⟨_,rfl⟩
 obtain⟨us,hus⟩:∃x,wd.2.optT (c.1 / 128%2==1)=x:=⟨_,rfl⟩
 obtain⟨ps,hps⟩:∃x,us.2.optB (c.1 / 64%2==1)=x:=⟨_,rfl⟩
 rw[qy6q v x hc hd hp hq hwp hwt hwd hus hps];have f1:=q5pm d.2 v 1;have f2:=qz3k p.2;have f3:=qwpw q.2 (c.1 / 4%2==1) v 16;have f4:=qsam wp.2 (c.1 / 4%2==1);have f5:=qea9 wt.2 (c.1 / 4%2==1);have f6:=qsam wd.2 (c.1 / 128%2==1);have f7:=qea9 us.2 (c.1 / 64%2==1);rw[hp] at f1;rw[hq] at f2;rw[hwp] at f3;rw[hwt] at f4;rw[hwd] at f5;rw[hus] at f6;rw[hps] at f7;refine⟨⟨⟨by simp,by simp⟩,⟨by simp[Pk.zero],by simp[Pk.zero]⟩,fun t ht=>?_,fun y hy=>?_,fun y hy=>?_,fun y hy=>(nomatch hy)⟩,⟨by simp[Pk.zero],by simp[Pk.zero],by simp;omega,by simp;omega⟩,⟨by simp;omega,by simp;omega⟩,rfl,rfl⟩
 ·simp only[Pk.texts,List.mem_cons,List.not_mem_nil,or_false] at ht;rcases ht with rfl|rfl|rfl|rfl|rfl|rfl|rfl
  ·exact Nat.zero_le _
  ·exact Nat.zero_le _
  ·exact Nat.le_trans f2 (by decide)
  ·exact Nat.le_trans f6 (by decide)
  ·exact Nat.le_trans f7 (by decide)
  ·exact Nat.le_trans f4 (by decide)
  ·exact Nat.le_trans f5 (by decide)
 ·obtain⟨a,b,c⟩:=f3.1 y hy;exact⟨a,by omega,by omega⟩
 ·obtain⟨a,b,c⟩:=f1.1 y hy;exact⟨a,by omega,by omega⟩
theorem qx14(v:Int)(x:Cs):FitP (qx6n v x).1:=by
 obtain⟨a,ha⟩:∃a,x.num 1=a:=⟨_,rfl⟩
 obtain⟨b,hb⟩:∃b,(if a.1 > 1 then a.2.fail 7 else a.2).num 1=b:=⟨_,rfl⟩
 obtain⟨p,hp⟩:∃p,b.2.props v 2=p:=⟨_,rfl⟩
 have e:qx6n v x=({Pk.zero with kind:=2,session:=a.1==1,code:=b.1,props:=p.1},p.2):=by subst ha hb hp;rfl
 rw[e];have f1:=q5pm b.2 v 2;rw[hp] at f1;refine⟨⟨⟨by simp,by simp⟩,⟨by simp[Pk.zero],by simp[Pk.zero]⟩,fun t ht=>?_,fun y hy=>(nomatch hy),fun y hy=>?_,fun y hy=>(nomatch hy)⟩,⟨by simp[Pk.zero],by simp[Pk.zero],by simp;omega,by simp[Pk.zero]⟩,⟨by simp[Pk.zero],by simp[Pk.zero]⟩,rfl,rfl⟩
 ·have:t=[]:=by simpa [Pk.texts,Pk.zero] using ht
  rw[this];decide
 ·obtain⟨a,b,c⟩:=f1.1 y hy;exact⟨a,by omega,by omega⟩
end Go.Proofs.YtefmhbioggcfaaaGreatDoor
