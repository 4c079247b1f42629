/- Plain facts on the document's answer for code points: what it reckons of the bytes at a place is what begins there. No condition. -/
import Derived.Test.YtbklidpadffpgaaGreatK09
namespace Go.Proofs.YtbklidpadffpgaaGreat
def bytU(l:List UInt8)(k:Nat):Nat:=(l.getD k 0).toNat
def mr(l:List UInt8)(k:Nat):Option Nat:=if k < l.length∧128≤bytU l k∧bytU l k≤191 then some (bytU l k - 128) else none
def gor(l:List UInt8)(pl:Nat):Nat→Nat→Nat→Option Nat
 | 0,n,_=>some n
 | f+1,n,i=>match mr l (pl+i) with
  | none=>none
  | some low=>gor l pl f (64*n+low) (i+1)
def q2uq(n least:Nat):Prop:=n < least∨1114111 < n∨(55296≤n∧n≤57343)
instance (n least:Nat):Decidable (q2uq n least):=by unfold q2uq;infer_instance
def fin2(o:Option Nat)(size least:Nat):Nat×Nat:=
 match o with
 | none=>(0,0)
 | some n=>if q2uq n least then(0,0) else(n,size)
def ptr(l:List UInt8)(pl:Nat):Nat×Nat:=
 if bytU l pl < 128 then(bytU l pl,1)
 else if 192≤bytU l pl∧bytU l pl < 224 then fin2 (gor l pl 1 (bytU l pl - 192) 1) 2 128
 else if 224≤bytU l pl∧bytU l pl < 240 then fin2 (gor l pl 2 (bytU l pl - 224) 1) 3 2048
 else if 240≤bytU l pl∧bytU l pl < 248 then fin2 (gor l pl 3 (bytU l pl - 240) 1) 4 65536
 else(0,0)
theorem qhxc{l:List UInt8}{k m:Nat}(h:mr l k=some m):m < 64∧k < l.length∧bytU l k=128+m:=by
 unfold mr at h
 split at h
 ·rename_i hc
  obtain rfl:bytU l k - 128=m:=by simpa using h
  omega
 ·cases h
theorem qjgi(l:List UInt8)(k:Nat):mr l k=if (decide (k < l.length)&&bytU l k / 64==2)=true then some (bytU l k - 128) else none:=by
 unfold mr
 have e:(k < l.length∧128≤bytU l k∧bytU l k≤191)↔(decide (k < l.length)&&bytU l k / 64==2)=true:=by simp;omega
 by_cases h:k < l.length∧128≤bytU l k∧bytU l k≤191
 ·rw[if_pos h,if_pos (e.1 h)]
 ·rw[if_neg h,if_neg (fun h'=>h (e.2 h'))]
def clean(d:Nat×Nat):Nat×Nat:=if d=(65533,1) then(0,0) else d
theorem quf9(c size least:Nat)(hs:1 < size)(P:Prop) [Decidable P] (hP:P↔¬q2uq c least):clean (if P then(c,size) else(65533,1))=fin2 (some c) size least:=by
 unfold fin2 clean
 by_cases h:q2uq c least
 ·have:¬P:=fun hp=>hP.1 hp h
  simp[h,this]
 ·have hp:P:=hP.2 h
  have h1:¬(c,size)=(65533,1):=by simp;omega
  simp only[hp,if_true,h,if_false,h1]
theorem qvyk(l:List UInt8)(pl:Nat):ptr l pl=clean (dl (l.drop pl)):=by
 have hb:∀k,((l.drop pl).getD k 0).toNat=bytU l (pl+k):=fun k=>by
  unfold bytU
  rw[List.getD_eq_getElem?_getD,List.getElem?_drop,List.getD_eq_getElem?_getD]
 have hlen:∀k,(k < (l.drop pl).length)=(pl+k < l.length):=fun k=>by rw[List.length_drop];apply propext;omega
 have h0:bytU l pl < 256:=(l.getD pl 0).toNat_lt
 have h1:bytU l (pl+1) < 256:=(l.getD (pl+1) 0).toNat_lt
 have h2:bytU l (pl+2) < 256:=(l.getD (pl+2) 0).toNat_lt
 have h3:bytU l (pl+3) < 256:=(l.getD (pl+3) 0).toNat_lt
 unfold dl ptr
 simp only[hb,hlen,Nat.add_zero,gor,qjgi]
 generalize bytU l pl=x at *
 have k1:(decide (pl+1 < l.length)&&bytU l (pl+1) / 64==2)=true→128≤bytU l (pl+1)∧bytU l (pl+1)≤191:=by simp;omega
 have k2:(decide (pl+1+1 < l.length)&&bytU l (pl+1+1) / 64==2)=true→128≤bytU l (pl+2)∧bytU l (pl+2)≤191:=by simp[Nat.add_assoc];omega
 have k3:(decide (pl+1+1+1 < l.length)&&bytU l (pl+1+1+1) / 64==2)=true→128≤bytU l (pl+3)∧bytU l (pl+3)≤191:=by simp[Nat.add_assoc];omega
 simp only[Nat.add_assoc,Nat.reduceAdd] at k2 k3 ⊢
 generalize (decide (pl+1 < l.length)&&bytU l (pl+1) / 64==2)=c1 at *
 generalize (decide (pl+2 < l.length)&&bytU l (pl+2) / 64==2)=c2 at *
 generalize (decide (pl+3 < l.length)&&bytU l (pl+3) / 64==2)=c3 at *
 generalize bytU l (pl+1)=y1 at *
 generalize bytU l (pl+2)=y2 at *
 generalize bytU l (pl+3)=y3 at *
 by_cases p0:x < 128
 ·have:¬(x,1)=((65533:Nat),(1:Nat)):=by simp;omega
  simp only[p0,if_true,clean,this,if_false]
 have f1:(x / 32==6)=decide (192≤x∧x < 224):=by rw[Bool.eq_iff_iff];simp;omega
 have f2:(x / 16==14)=decide (224≤x∧x < 240):=by rw[Bool.eq_iff_iff];simp;omega
 have f3:(x / 8==30)=decide (240≤x∧x < 248):=by rw[Bool.eq_iff_iff];simp;omega
 simp only[p0,if_false,f1,f2,f3]
 by_cases p1:192≤x∧x < 224
 ·have n2:¬(224≤x∧x < 240):=by omega
  have n3:¬(240≤x∧x < 248):=by omega
  cases c1 with
  | false=>simp[p1,n2,n3,fin2,clean]
  | true=>
   have:=k1 rfl
   have ec:64*(x - 192)+(y1 - 128)=x%32*64+y1%64:=by omega
   simp only[p1,ec,decide_true,Bool.and_true,if_true,and_self]
   exact(quf9 _ 2 128 (by decide) _ (by unfold q2uq;omega)).symm
 by_cases p2:224≤x∧x < 240
 ·have n3:¬(240≤x∧x < 248):=by omega
  cases c1 with
  | false=>simp[p1,p2,n3,fin2,clean]
  | true=>
   cases c2 with
   | false=>simp[p1,p2,n3,fin2,clean]
   | true=>
    have:=k1 rfl
    have:=k2 rfl
    obtain⟨c,ec⟩:∃c,64*(64*(x - 224)+(y1 - 128))+(y2 - 128)=c:=⟨_,rfl⟩
    have ed:x%16*4096+(y1%64*64+y2%64)=c:=by omega
    simp only[p1,p2,ec,ed,decide_true,decide_false,Bool.and_true,if_true,if_false,and_self,Bool.false_eq_true]
    clear ec ed
    rw[quf9 c 3 2048 (by decide)]
    rw[Bool.and_eq_true,qpx1,decide_eq_true_eq]
    unfold q2uq
    omega
 by_cases p3:240≤x∧x < 248
 ·cases c1 with
  | false=>simp[p1,p2,p3,fin2,clean]
  | true=>
   cases c2 with
   | false=>simp[p1,p2,p3,fin2,clean]
   | true=>
    cases c3 with
    | false=>simp[p1,p2,p3,fin2,clean]
    | true=>
     have:=k1 rfl
     have:=k2 rfl
     have:=k3 rfl
     obtain⟨c,ec⟩:∃c,64*(64*(64*(x - 240)+(y1 - 128))+(y2 - 128))+(y3 - 128)=c:=⟨_,rfl⟩
     have ed:x%8*262144+(y1%64*4096+(y2%64*64+y3%64))=c:=by omega
     simp only[p1,p2,p3,ec,ed,decide_true,decide_false,Bool.and_true,if_true,if_false,and_self,Bool.false_eq_true]
     clear ec ed
     rw[quf9 c 4 65536 (by decide)]
     rw[Bool.and_eq_true,qpx1,decide_eq_true_eq]
     unfold q2uq
     omega
 simp[p1,p2,p3,clean]
theorem qbyn{l:List UInt8}{pl c:Nat}(h:hd (l.drop pl)=some c):ptr l pl=(c,(cb c).length):=by
 obtain⟨ho,r,hr⟩:=qsz3 h
 rw[qvyk,hr,qyly ho]
 unfold clean
 rw[if_neg]
 intro e
 have e1:c=65533:=congrArg Prod.fst e
 have e2:(cb c).length=1:=congrArg Prod.snd e
 subst e1
 simp[qqv9] at e2
theorem qqia{l:List UInt8}{pl:Nat}(hl:pl < l.length)(h:hd (l.drop pl)=none):(ptr l pl).1=0:=by
 rw[qvyk]
 rcases q51d (by rw[Ne,List.drop_eq_nil_iff];omega) h with e | e
 ·rw[e];rfl
 ·unfold clean
  split
  ·rfl
  ·exact e
end Go.Proofs.YtbklidpadffpgaaGreat
