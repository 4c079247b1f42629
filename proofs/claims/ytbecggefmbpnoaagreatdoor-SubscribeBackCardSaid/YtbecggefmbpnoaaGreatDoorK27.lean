/- The contracts of varint's reader. No condition. -/
import Derived.StillTailTactics
import Derived.IntWalk
import Derived.Deep.LoopGhost
import Derived.Deep.QuietTactic
import Derived.WalkSmall
import Derived.Laws.ResultCell
import Derived.Test.YtbecggefmbpnoaaGreatDoorK26
import Derived.Test.YtbecggefmbpnoaaGreatDoorK07
import Derived.Test.YtbecggefmbpnoaaGreatDoorK02
set_option maxHeartbeats 1000000
set_option maxRecDepth 100000
namespace Go.Proofs.YtbecggefmbpnoaaGreatDoor
open Go.RowKit
def qxoj(b v n st:Nat):Array Value:=#[.pointer (some ⟨b,0,none⟩),.int .i64 v,.int .i64 n,.int .i64 st]
def Rd(w:World)(b v n st:Nat):Prop:=w.heap[b]? = some (.cells (qxoj b v n st) 195 (0,0))
section
variable{w w':World}{b v n st:Nat}
theorem Rd.lt(h:Rd w b v n st):b < w.heap.size:=lt_of_block h
theorem Rd.cell(h:Rd w b v n st)(j:Nat):w.cell? ⟨b,j,none⟩=(qxoj b v n st)[j]? := cell_of_row w b j _ _ (0,0) h
theorem Rd.c0(h:Rd w b v n st):w.cell? ⟨b,0,none⟩=some (.pointer (some ⟨b,0,none⟩)):=h.cell 0
theorem Rd.c1(h:Rd w b v n st):w.cell? ⟨b,1,none⟩=some (.int .i64 v):=h.cell 1
theorem Rd.c2(h:Rd w b v n st):w.cell? ⟨b,2,none⟩=some (.int .i64 n):=h.cell 2
theorem Rd.c3(h:Rd w b v n st):w.cell? ⟨b,3,none⟩=some (.int .i64 st):=h.cell 3
theorem Rd.fr(h:Rd w b v n st)(j:Nat):w.frozen? ⟨b,j,none⟩=false:=by unfold Rd at h;simp[World.frozen?,h]
theorem Rd.draws(h:Rd w b v n st)(k:Nat):Rd (w.drewN k) b v n st:=h
theorem Rd.drew(h:Rd w b v n st):Rd w.drew b v n st:=h
theorem Rd.of_block(h:Rd w b v n st)(hb:w'.heap[b]? = w.heap[b]?):Rd w' b v n st:=hb.trans h
theorem Rd.val(h:Rd w b v n st)(u:Nat):Rd (w.setCell ⟨b,1,none⟩ (.int .i64 u)) b u n st:=qlvy h 1 _
theorem Rd.siz(h:Rd w b v n st)(u:Nat):Rd (w.setCell ⟨b,2,none⟩ (.int .i64 u)) b v u st:=qlvy h 2 _
theorem Rd.sta(h:Rd w b v n st)(u:Nat):Rd (w.setCell ⟨b,3,none⟩ (.int .i64 u)) b v n u:=qlvy h 3 _
end
theorem qp2k:∃j,Tryz.prog.info? 195=some j:=Option.isSome_iff_exists.1 (by kernel_rfl)
theorem quhv{w:World}{b v n st:Nat}(hc:Rd w b v n st) :
 Calls Tryz.prog 208 #[.pointer (some ⟨b,0,none⟩)] w fun e w'=>e = .returned (.bool true)∧w=w':=by
 obtain⟨j,hj⟩:=qp2k
 have heq:=fun W:World=>run_eql_ptr_same (P:=Tryz.prog) W ⟨b,0,none⟩ Tryz.underlying189 hj
 have h0:=hc.c0
 clear hj
 go_enter Tryz.func208,Tryz.ntmps208
 go_wp2
 go_ret
 exact⟨rfl,rfl⟩
theorem qz5z(w:World) :
 Calls Tryz.prog 182 #[] w fun e w'=>e = .returned (.pointer (some ⟨w.heap.size,0,none⟩))∧Rd w' w.heap.size 0 0 0∧Below w.heap.size w w':=by
 go_enter Tryz.func182,Tryz.ntmps182
 go_wp2
 go_ret
 exact⟨rfl,heap_alloc_new w _,(Below.refl _ _).alloc (Nat.le_refl _) _⟩
theorem qh0o(v n:Nat)(x:UInt8)(hv:v < 128^n)(hn:n < 4):bits .or .i64 (v:Int) (IntKind.i64.wrap ((x.toNat:Int)%128*2^(7*(n:Int)).toNat))=((grow v n x:Nat):Int):=by
 have e1:(7*(n:Int)).toNat=7*n:=by omega
 have e128:(128:Nat)^n=2^(7*n):=by rw[Nat.pow_mul]
 have hp:(2:Nat)^(7*n)≤2^21:=Nat.pow_le_pow_right (by decide) (by omega)
 have hx:x.toNat%128≤127:=by omega
 have hm:x.toNat%128*2^(7*n)≤127*2^21:=Nat.mul_le_mul hx hp
 have e2:(x.toNat:Int)%128*2^(7*n)=((x.toNat%128*2^(7*n):Nat):Int):=by simp
 unfold grow
 rw[e128] at hv ⊢
 rw[e1,e2,IntWalk.i64_in _ (by omega)]
 rw[(bits_nat .i64 28 (by decide) (fun m h0 h1=>IntWalk.i64_in _ (by omega)) v (x.toNat%128*2^(7*n)) (by omega) (by omega)).2]
 congr 1
 rw[Nat.or_comm,Nat.mul_comm,←Nat.two_pow_add_eq_or_of_lt hv (x.toNat%128)]
 omega
theorem qh0d{w:World}{b v n:Nat}(x:UInt8)(hc:Rd w b v n 0)(hv:v < 128^n)(hn:n < 4)(hx:nxt x (n+1)=0) :
 Calls Tryz.prog 183 #[.pointer (some ⟨b,0,none⟩),.int .u8 x.toNat] w fun e w'=>e = .returned (.tuple #[.bool false,.int .i64 0])∧Rd w' b (grow v n x) (n+1) 0∧w.grownBy w' (some b):=by
 have h1:=hc.c1
 have h2:=hc.c2
 have h3:=hc.c3
 have f1:=hc.fr 1
 have f2:=hc.fr 2
 have f3:=hc.fr 3
 have ha:=qbg0 x
 have e1:IntKind.i64.wrap ((x.toNat:Int)%128)=(x.toNat:Int)%128:=IntWalk.i64_in _ (by omega)
 have e2:IntKind.i64.wrap (7*(n:Int))=7*(n:Int):=IntWalk.i64_in _ (by omega)
 have e3:(0:Int)≤7*(n:Int):=by omega
 have e4:=qh0o v n x hv hn
 have NX:=Lib.hid (show ∀W,Calls Tryz.prog 209 #[.int .u8 x.toNat,.int .i64 ((n:Int)+1)] W fun e w'=>e = .returned (.int .i64 0)∧W=w' from fun W=>by
  have h:=qnz1 x (n+1) W
  rw[hx] at h
  exact h)
 clear hx
 generalize grow v n x=u at e4
 go_enter Tryz.func183,Tryz.ntmps183
 go_wp2_with (go_at_call 208;refine(quhv hc).mono ?_;rintro e' w' ⟨rfl,rfl⟩)
 go_still_tail 16,(by kernel_rfl)
 change wpList _ _ _ _ _ w.drew
 have hd:Rd w.drew b v n 0:=hc.drew
 have hg:w.grownBy w.drew (some b):=⟨rfl,rfl,rfl,Nat.le_refl _,fun _ _ _=>rfl⟩
 generalize w.drew=W at hd hg
 clear h1 h2 h3 f1 f2 f3
 have h1:=hd.c1
 have h2:=hd.c2
 have h3:=hd.c3
 have f1:=hd.fr 1
 have f2:=hd.fr 2
 have f3:=hd.fr 3
 go_wp2_with (go_at_call 209;refine(NX.out _).mono ?_;rintro e' w' ⟨rfl,rfl⟩)
 go_ret2
 exact⟨rfl,((hd.val u).siz (n+1)).sta 0,qo6d hg (qo6d (qo6d (q99v _ _ _ _) (q99v _ _ _ _)) (q99v _ _ _ _))⟩
theorem qhre{w:World}{b v n:Nat}(x:UInt8)(hc:Rd w b v n 0)(hv:v < 128^n)(hn:n < 4)(hx:nxt x (n+1)=1) :
 Calls Tryz.prog 183 #[.pointer (some ⟨b,0,none⟩),.int .u8 x.toNat] w fun e w'=>e = .returned (.tuple #[.bool true,.int .i64 0])∧Rd w' b (grow v n x) (n+1) 1∧w.grownBy w' (some b):=by
 have h1:=hc.c1
 have h2:=hc.c2
 have h3:=hc.c3
 have f1:=hc.fr 1
 have f2:=hc.fr 2
 have f3:=hc.fr 3
 have ha:=qbg0 x
 have e1:IntKind.i64.wrap ((x.toNat:Int)%128)=(x.toNat:Int)%128:=IntWalk.i64_in _ (by omega)
 have e2:IntKind.i64.wrap (7*(n:Int))=7*(n:Int):=IntWalk.i64_in _ (by omega)
 have e3:(0:Int)≤7*(n:Int):=by omega
 have e4:=qh0o v n x hv hn
 have NX:=Lib.hid (show ∀W,Calls Tryz.prog 209 #[.int .u8 x.toNat,.int .i64 ((n:Int)+1)] W fun e w'=>e = .returned (.int .i64 1)∧W=w' from fun W=>by
  have h:=qnz1 x (n+1) W
  rw[hx] at h
  exact h)
 clear hx
 generalize grow v n x=u at e4
 go_enter Tryz.func183,Tryz.ntmps183
 go_wp2_with (go_at_call 208;refine(quhv hc).mono ?_;rintro e' w' ⟨rfl,rfl⟩)
 go_still_tail 16,(by kernel_rfl)
 change wpList _ _ _ _ _ w.drew
 have hd:Rd w.drew b v n 0:=hc.drew
 have hg:w.grownBy w.drew (some b):=⟨rfl,rfl,rfl,Nat.le_refl _,fun _ _ _=>rfl⟩
 generalize w.drew=W at hd hg
 clear h1 h2 h3 f1 f2 f3
 have h1:=hd.c1
 have h2:=hd.c2
 have h3:=hd.c3
 have f1:=hd.fr 1
 have f2:=hd.fr 2
 have f3:=hd.fr 3
 go_wp2_with (go_at_call 209;refine(NX.out _).mono ?_;rintro e' w' ⟨rfl,rfl⟩)
 go_ret2
 exact⟨rfl,((hd.val u).siz (n+1)).sta 1,qo6d hg (qo6d (qo6d (q99v _ _ _ _) (q99v _ _ _ _)) (q99v _ _ _ _))⟩
theorem qdxq{w:World}{b v n:Nat}(x:UInt8)(hc:Rd w b v n 0)(hv:v < 128^n)(hn:n < 4)(hx:nxt x (n+1)=2) :
 Calls Tryz.prog 183 #[.pointer (some ⟨b,0,none⟩),.int .u8 x.toNat] w fun e w'=>e = .returned (.tuple #[.bool false,.int .i64 5])∧Rd w' b (grow v n x) (n+1) 2∧w.grownBy w' (some b):=by
 have h1:=hc.c1
 have h2:=hc.c2
 have h3:=hc.c3
 have f1:=hc.fr 1
 have f2:=hc.fr 2
 have f3:=hc.fr 3
 have ha:=qbg0 x
 have e1:IntKind.i64.wrap ((x.toNat:Int)%128)=(x.toNat:Int)%128:=IntWalk.i64_in _ (by omega)
 have e2:IntKind.i64.wrap (7*(n:Int))=7*(n:Int):=IntWalk.i64_in _ (by omega)
 have e3:(0:Int)≤7*(n:Int):=by omega
 have e4:=qh0o v n x hv hn
 have NX:=Lib.hid (show ∀W,Calls Tryz.prog 209 #[.int .u8 x.toNat,.int .i64 ((n:Int)+1)] W fun e w'=>e = .returned (.int .i64 2)∧W=w' from fun W=>by
  have h:=qnz1 x (n+1) W
  rw[hx] at h
  exact h)
 clear hx
 generalize grow v n x=u at e4
 go_enter Tryz.func183,Tryz.ntmps183
 go_wp2_with (go_at_call 208;refine(quhv hc).mono ?_;rintro e' w' ⟨rfl,rfl⟩)
 go_still_tail 16,(by kernel_rfl)
 change wpList _ _ _ _ _ w.drew
 have hd:Rd w.drew b v n 0:=hc.drew
 have hg:w.grownBy w.drew (some b):=⟨rfl,rfl,rfl,Nat.le_refl _,fun _ _ _=>rfl⟩
 generalize w.drew=W at hd hg
 clear h1 h2 h3 f1 f2 f3
 have h1:=hd.c1
 have h2:=hd.c2
 have h3:=hd.c3
 have f1:=hd.fr 1
 have f2:=hd.fr 2
 have f3:=hd.fr 3
 go_wp2_with (go_at_call 209;refine(NX.out _).mono ?_;rintro e' w' ⟨rfl,rfl⟩)
 go_ret2
 exact⟨rfl,((hd.val u).siz (n+1)).sta 2,qo6d hg (qo6d (qo6d (q99v _ _ _ _) (q99v _ _ _ _)) (q99v _ _ _ _))⟩
theorem qe0g(s:ByteArray)(k:Nat)(h:k < s.size):s.data.toList.drop k=s[k]::s.data.toList.drop (k+1):=by
 rw[List.drop_eq_getElem_cons (by simpa using h)];rfl
theorem qhwc(s:ByteArray):s.data.toList.drop s.size=[]:=List.drop_of_length_le (by simp)
def q51h(l:List UInt8):Ending := .returned (.tuple #[.int .i64 (rdV l),.int .i64 (rdN l),.int .i64 (rdE l)])
theorem qxud{l:List UInt8}{v n st:Nat}{a b c:Int}(h:run 0 0 l=(v,n,st))(ha:((if st=1 then v else 0:Nat):Int)=a)(hb:((if st=1 then n else 0:Nat):Int)=b)
 (hc:((if st=0 then 3 else if st=1 then 0 else 5:Nat):Int)=c):Ending.returned (.tuple #[.int .i64 a,.int .i64 b,.int .i64 c])=q51h l:=by
 obtain⟨h1,h2,h3⟩:=qa1w h
 rw[←ha,←hb,←hc,←h1,←h2,←h3];rfl
def qxfh(l:List UInt8)(w:World)(e:Ending)(w':World):Prop:=e=q51h l∧Below w.heap.size w w'
def q905(w:World)(l:List UInt8)(k:Nat)(wr:World):Prop:=∃v,k < 4∧v < 128^k∧Rd wr w.heap.size v k 0∧Below w.heap.size w wr∧run 0 0 l=run v k (l.drop k)
theorem q58y{w wr w1:World}(hb:Below w.heap.size w wr)(hg:wr.grownBy w1 (some w.heap.size)):Below w.heap.size w w1:=
 hb.grown hg hb.size (fun k hk=>by cases hk;exact Nat.le_refl _)
theorem q6w6(s:ByteArray)(w:World)(_hm:s.size≤9223372036854775807) :
 Calls Tryz.prog 155 #[.string s] w (qxfh s.data.toList w):=by
 go_enter Tryz.func155,Tryz.ntmps155
 go_wp2_with fail
 refine(qz5z _).mono ?_
 rintro e w1 ⟨rfl,hr,hb⟩
 have H:=Lib.hid (show q905 w s.data.toList 0 w1 from⟨0,by decide,by decide,hr,hb,rfl⟩)
 clear hr hb
 go_wp2_with fail
 go_loopw [12] (fun i wr=>∃k:Nat,k≤s.size∧i = .int .i64 k∧q905 w s.data.toList k wr) (fun i _=>s.size - (intOf i).toNat)
 case atStart=>exact⟨0,Nat.zero_le _,rfl,H.out⟩
 case round=>
  obtain⟨k,hk,rfl,v,hk4,hv,hr,hb,hrun⟩:=hrel
  clear H
  by_cases hlt:k < s.size
  ·have hd:=qe0g s k hlt
   have RUN:=Lib.hid hrun
   have D:=Lib.hid hd
   clear hrun hd
   rcases qlf0 s[k] (k+1) with hx | hx | hx
   ·have NX:=Lib.hid hx
    clear hx
    go_wp2_with fail
    refine(qh0d s[k] hr hv hk4 NX.out).mono ?_
    rintro e w2 ⟨rfl,hr2,hg⟩
    have hb2:=q58y hb hg
    go_wp2_with fail
    go_roundw
    case rel=>
     have h4:=(qv8z.1 NX.out).2
     refine⟨k+1,by omega,by go_num,_,by omega,qpfr _ hv,hr2,hb2,?_⟩
     rw[RUN.out,D.out,qomx _ NX.out]
    case measure=>simp[intOf];omega
   ·have NX:=Lib.hid hx
    clear hx
    go_wp2_with fail
    refine(qhre s[k] hr hv hk4 NX.out).mono ?_
    rintro e w2 ⟨rfl,hr2,hg⟩
    have hb2:=q58y hb hg
    have RR:=Lib.hid (qxud (l:=s.data.toList) (v:=grow v k s[k]) (n:=k+1) (st:=1) (by rw[RUN.out,D.out,q408 _ (by rw[NX.out];decide),NX.out]) rfl rfl rfl)
    have h1:=hr2.c1
    have h2:=hr2.c2
    go_wp2_with fail
    go_quiet (fail)
    go_wp2
    go_ret3
    exact⟨RR.out,qnpu hb2 _⟩
   ·have NX:=Lib.hid hx
    clear hx
    go_wp2_with fail
    refine(qdxq s[k] hr hv hk4 NX.out).mono ?_
    rintro e w2 ⟨rfl,hr2,hg⟩
    have hb2:=q58y hb hg
    have RR:=Lib.hid (qxud (l:=s.data.toList) (v:=grow v k s[k]) (n:=k+1) (st:=2) (by rw[RUN.out,D.out,q408 _ (by rw[NX.out];decide),NX.out]) rfl rfl rfl)
    go_wp2_with fail
    go_ret3
    exact⟨RR.out,hb2⟩
  ·obtain rfl:k=s.size:=by omega
   have RR:=Lib.hid (qxud (l:=s.data.toList) (v:=v) (n:=s.size) (st:=0) (by rw[hrun,qhwc];rfl) rfl rfl rfl)
   clear hrun
   go_wp2
   go_ret3
   exact⟨RR.out,hb⟩
def qymj(l:List Pr):Nat:=(l.map fun p=>p.text.length+p.value.length).sum
theorem qoqr(l:List Pr)(p:Pr):qymj (l++[p])=qymj l+p.text.length+p.value.length:=by simp[qymj];omega
def q2y5(l:List Pr):Bool:=decide (l.length≤1010)&&decide (qymj l≤140000)
theorem qv17(A:Option Addr)(c:Nat)(w:World) :
 Calls Tryz.prog 91 #[.slice A 0 c] w fun e w'=>e = .returned (.int .i64 0)∧∃m,w'=w.drewN m:=by
 go_enter Tryz.func91,Tryz.ntmps91
 go_wp2
 refine wp_loop_rounds 1 ?_
 rw[rounds_succ]
 go_wp2
 go_ret
 exact⟨rfl,0,rfl⟩
theorem q8s3(g i c:Nat)(l:List Pr)(w:World)(ha:PL w (some ⟨g,i,none⟩) l)(hl:l.length≤1010)(hm:∀p∈l,p.text.length≤140737488351232∧p.value.length≤140737488351232) :
 Calls Tryz.prog 91 #[.slice (some ⟨g,i,none⟩) l.length c] w fun e w'=>e = .returned (.int .i64 ((qymj l:Nat):Int))∧∃m,w'=w.drewN m:=by
 have HA:=Lib.hid ha
 have HM:=Lib.hid hm
 obtain⟨n,hn⟩:∃n,l.length=n:=⟨_,rfl⟩
 have HN:=Lib.hid hn
 rw[hn] at hl ⊢
 clear ha hm hn
 have hl':(n:Int)≤1010:=by omega
 obtain⟨V,hV⟩:∃V,qymj l=V:=⟨_,rfl⟩
 rw[hV]
 have HV:=Lib.hid hV
 clear hV
 go_enter Tryz.func91,Tryz.ntmps91
 go_wp2
 go_loopg [4,3] n (fun gk s4 s3 wr=>∃k t m:Nat,k≤n∧gk=n - k∧s4 = .int .i64 (k:Int)∧s3 = .int .i64 (t:Int)∧t=qymj (l.take k)∧t≤k*281474976710656∧wr=w.drewN m)
 case atStart=>exact⟨0,0,0,by omega,by omega,rfl,rfl,rfl,by omega,rfl⟩
 case round=>
  obtain⟨k,t,m,hk,hgk,rfl,rfl,ht,ht2,rfl⟩:=hrel
  by_cases hlt:k < n
  ·have hkl:k < l.length:=by rw[HN.out];exact hlt
   obtain⟨p,hp⟩:∃p,l[k]? = some p:=⟨_,List.getElem?_eq_getElem hkl⟩
   obtain⟨g',i',e',_,a0,a1,a2,a3⟩:=HA.out.at hp
   cases e'
   have htk:l.take (k+1)=l.take k++[p]:=by rw[List.take_add_one,hp];rfl
   have hpm:=HM.out p (List.mem_of_getElem? hp)
   have ht3:=qoqr (l.take k) p
   rw[←htk,←ht] at ht3
   obtain⟨x,hx⟩:∃x:Int,((bs p.text).size:Int)=x:=⟨_,rfl⟩
   obtain⟨y,hy⟩:∃x:Int,((bs p.value).size:Int)=x:=⟨_,rfl⟩
   have z1:=qkrc p.text
   have z2:=qkrc p.value
   obtain⟨u,hu⟩:∃u,qymj (l.take (k+1))=u:=⟨_,rfl⟩
   rw[hu] at ht3
   have w1:IntKind.i64.wrap ((t:Int)+x)=(t:Int)+x:=by simp only[IntKind.wrap_i64];omega
   have w2:IntKind.i64.wrap ((t:Int)+x+y)=(u:Int):=by simp only[IntKind.wrap_i64];omega
   have hu2:u≤(k+1)*281474976710656:=by omega
   generalize bs p.text=x2 at *
   generalize bs p.value=x3 at *
   have g1:(k:Int) < (n:Int):=by omega
   have HU:=Lib.hid hu
   have HU2:=Lib.hid hu2
   clear a0 a1 hp hkl htk hpm ht3 z1 z2 hu hu2 ht ht2
   go_wp2
   go_quiet (fail)
   go_wp2
   go_roundg (n - (k+1))
   case measure=>omega
   case rel=>exact⟨k+1,u,_,by omega,rfl,by go_num,rfl,HU.out.symm,HU2.out,rfl⟩
  ·obtain rfl:k=n:=by omega
   have ht1:l.take k=l:=List.take_of_length_le (by rw[HN.out];omega)
   rw[ht1,HV.out] at ht
   subst ht
   clear ht2
   go_wp2
   go_ret
   exact⟨rfl,m,rfl⟩
theorem q3f7(A:Option Addr)(n c:Nat)(l:List Pr)(w:World)(ha:PL w A l)(hn:l.length=n)(hm:∀p∈l,p.text.length≤140737488351232∧p.value.length≤140737488351232) :
 Calls Tryz.prog 50 #[.slice A n c] w fun e w'=>e = .returned (.bool (q2y5 l))∧∃m,w'=w.drewN m:=by
 unfold q2y5
 rw[hn]
 by_cases h1:n≤1010
 ·rw[decide_eq_true h1,Bool.true_and]
  have WT:Calls Tryz.prog 91 #[.slice A n c] w fun e w'=>e = .returned (.int .i64 ((qymj l:Nat):Int))∧∃m,w'=w.drewN m:=by
   by_cases h0:l=[]
   ·subst h0
    obtain rfl:0=n:=hn
    exact qv17 A c w
   ·obtain⟨g,i,rfl,_⟩:=ha.addr h0
    subst hn
    exact q8s3 g i c l w ha h1 hm
  have g1:(n:Int)≤1010:=by omega
  have WT:=Lib.hid WT
  obtain⟨B,hB⟩:∃B,decide (qymj l≤140000)=B:=⟨_,rfl⟩
  rw[hB]
  have HB:=Lib.hid (show decide (((qymj l:Nat):Int)≤140000)=B by rw[←hB,decide_eq_decide];omega)
  generalize ((qymj l:Nat):Int)=t at *
  clear ha hm h1 hn hB
  go_enter Tryz.func50,Tryz.ntmps50
  go_wp2_with fail
  refine(WT.out).mono ?_
  rintro e w1 ⟨rfl,m,rfl⟩
  go_wp2_with fail
  go_ret
  exact⟨congrArg (fun b=>Ending.returned (Value.bool b)) HB.out,m,rfl⟩
 ·rw[decide_eq_false h1,Bool.false_and]
  have g1:¬(n:Int)≤1010:=by omega
  clear ha hm h1 hn
  go_enter Tryz.func50,Tryz.ntmps50
  go_wp2_with fail
  go_ret
  exact⟨rfl,0,rfl⟩
theorem q5nr:(Tryz.prog.info? 29).map (·.size)=some 25:=by kernel_rfl
def pkZ:Array Value:=#[.int .i64 0,.bool false,.bool false,.int .i64 0,.int .i64 0,.string ⟨#[]⟩,.string ⟨#[]⟩,.bool false,.int .i64 0,.string ⟨#[]⟩,.bool false,.string ⟨#[]⟩,.bool false,.string ⟨#[]⟩,.bool false,.string ⟨#[]⟩,.string ⟨#[]⟩,.int .i64 0,.bool false,.slice none 0 0,.bool false,.int .i64 0,.slice none 0 0,.slice none 0 0,.slice none 0 0]
theorem qrai(W:World):(zeroValue 29).run Tryz.prog W = .ok (.agg pkZ) W:=by kernel_rfl
theorem qbwp:pkZ.size=25:=rfl
def adZ:Ad:=⟨none,0,none,0,none,0,none,0⟩
theorem qgcz:pkC Pk.zero adZ=pkZ:=rfl
structure UsS(w:World)(p:Pk)(a:Ad)(x:Pk)(b:Ad)(W:World):Prop where
 low:Below w.heap.size w W
 box:W.heap[w.heap.size]? = some (.cells (pkC p a) 29 (0,0))
 res:W.heap[w.heap.size+1]? = some (.cells pkZ 29 (0,0))
 new:W.heap[w.heap.size+1+1]? = some (.cells (pkC x b) 29 (0,0))
section
variable{w W W':World}{p x:Pk}{a b:Ad}
theorem UsS.cell(h:UsS w p a x b W)(j:Nat):W.cell? ⟨w.heap.size,j,none⟩=(pkC p a)[j]? := cell_of_row _ _ j _ _ _ h.box
theorem UsS.ncell(h:UsS w p a x b W)(j:Nat):W.cell? ⟨w.heap.size+1+1,j,none⟩=(pkC x b)[j]? := cell_of_row _ _ j _ _ _ h.new
theorem UsS.fr(h:UsS w p a x b W)(j:Nat):W.frozen? ⟨w.heap.size+1+1,j,none⟩=false:=frozen_of_row _ _ _ _ _ h.new
theorem UsS.put(h:UsS w p a x b W)(j:Nat)(u:Value){x':Pk}{b':Ad}(he:(pkC x b).setIfInBounds j u=pkC x' b'):UsS w p a x' b' (W.setCell ⟨w.heap.size+1+1,j,none⟩ u):=
 ⟨h.low.setCell (by show _≤w.heap.size+1+1;omega) u,(heap_setCell_other W ⟨w.heap.size+1+1,j,none⟩ _ u (by show w.heap.size≠w.heap.size+1+1;omega)).trans h.box,(heap_setCell_other W ⟨w.heap.size+1+1,j,none⟩ _ u (by show w.heap.size+1≠w.heap.size+1+1;omega)).trans h.res,
  by have:=qlvy h.new j u;rw[he] at this;exact this⟩
theorem UsS.call(h:UsS w p a x b W)(hb:Below W.heap.size W W'):UsS w p a x b W':=
 ⟨qxh2 h.low hb,(hb.block _ (lt_of_block h.box)).trans h.box,(hb.block _ (lt_of_block h.res)).trans h.res,(hb.block _ (lt_of_block h.new)).trans h.new⟩
theorem UsS.drew(h:UsS w p a x b W):UsS w p a x b W.drew:=⟨h.low.drew,h.box,h.res,h.new⟩
end
end Go.Proofs.YtbecggefmbpnoaaGreatDoor
