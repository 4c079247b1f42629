/- A packet that has no lists. No condition. -/
import Derived.StillTailTactics
import Derived.IntWalk
import Derived.Deep.LoopGhost
import Derived.Deep.QuietTactic
import Derived.WalkSmall
import Derived.Test.YthhdhagenmcbeaaGreatK17
import Derived.Test.YthhdhagenmcbeaaGreatK05
import Derived.Test.YthhdhagenmcbeaaGreatK06
import Derived.Test.YthhdhagenmcbeaaGreatK08
set_option maxHeartbeats 2000000
set_option maxRecDepth 100000
namespace Go.Proofs.YthhdhagenmcbeaaGreat
open Go.RowKit
theorem qa3p(W:World):PkAt W Pk.zero adZ:=⟨fun e=>absurd rfl e,fun e=>absurd rfl e,fun e=>absurd rfl e,fun e=>absurd rfl e⟩
theorem qx9v(p:Pk)(W:World)(h:p.wProps=[]∧p.codes=[]∧p.filters=[]∧p.props=[]):PkAt W p adZ:=
 ⟨by rw[h.1];exact fun e=>absurd rfl e,by rw[h.2.1];exact fun e=>absurd rfl e,by rw[h.2.2.1];exact fun e=>absurd rfl e,by rw[h.2.2.2];exact fun e=>absurd rfl e⟩
theorem qj9k(p:Pk)(a:Ad)(w:World):Calls Tryz.prog 9 #[.agg (pkC p a)] w fun e w'=>e = .returned (.tuple #[.agg (pkC (qo1u p).1 adZ),.bool (qo1u p).2])∧Below w.heap.size w w':=by
 obtain⟨D,hD⟩:∃D,pkC (qo1u p).1 adZ=D:=⟨_,rfl⟩
 rw[hD]
 have hD1:D.size=25:=by rw[←hD];exact qwmp _ _
 have hD2:D.all (·.oneCell')=true:=by rw[←hD];exact qmz0 _ _
 have HD1:=Lib.hid hD1
 have HD2:=Lib.hid hD2
 have HZ:=Lib.hid qbwp
 have hzv:=qrai
 have hne:¬pkZ=#[]:=by intro h;have:=qbwp;rw[h] at this;cases this
 have GB:=heap_alloc2_old w (.cells (pkC p a) 35) (.cells pkZ 35)
 have GR:=heap_alloc2_new w (.cells (pkC p a) 35) (.cells pkZ 35)
 have LO:=q8xz (qxh2 (qybm (w:=w) (.cells (pkC p a) 35)) (qybm (.cells pkZ 35))) (show w.heap.size≤w.heap.size+1 by omega) D
 have k0:((w.alloc (.cells (pkC p a) 35)).alloc (.cells pkZ 35)).cell? ⟨w.heap.size,0,none⟩=some (.int .i64 p.kind):=cell_of_row _ _ 0 _ _ _ GB
 have k4:((w.alloc (.cells (pkC p a) 35)).alloc (.cells pkZ 35)).cell? ⟨w.heap.size,4,none⟩=some (.int .i64 p.id):=cell_of_row _ _ 4 _ _ _ GB
 have k21:((w.alloc (.cells (pkC p a) 35)).alloc (.cells pkZ 35)).cell? ⟨w.heap.size,21,none⟩=some (.int .i64 p.code):=cell_of_row _ _ 21 _ _ _ GB
 have GR:=Lib.hid GR
 have LO:=Lib.hid LO
 clear hD1 hD2 GB
 unfold qo1u at hD ⊢
 by_cases h5:p.kind=5
 ·rw[h5] at k0 hD ⊢
  by_cases hc:p.code < 128
  ·rw[if_pos ⟨rfl,hc⟩] at hD ⊢
   have g:decide ((128:Int)≤p.code)=false:=decide_eq_false (by omega)
   have HD:=Lib.hid hD
   clear hD hc h5
   generalize p.code=c at *
   go_enter Tryz.func9,Tryz.ntmps9
   go_wp2_with (first
    | (refine wpList_buildTo rfl 35 _ rfl (some _) rfl D (by rw[←HD.out];kernel_rfl) ?_)
    | (refine wpList_store_row rfl _ _ _ rfl (w.heap.size+1) D rfl rfl 35 _ GR.out (by rw[HD1.out];exact q5nr) (by rw[HZ.out,HD1.out]) HD2.out ?_))
   exact q8iy (cs:=D) rfl rfl rfl rfl Tryz.underlying35 rfl (by rw[HD1.out];exact q5nr) (setRow_heap _ _ _ _ _ _ GR.out) ⟨rfl,LO.out⟩
  ·rw[if_neg (fun h=>hc h.2),if_neg (by decide)] at hD ⊢
   have g:decide ((128:Int)≤p.code)=true:=decide_eq_true (by omega)
   have HD:=Lib.hid hD
   clear hD hc h5
   generalize p.code=c at *
   go_enter Tryz.func9,Tryz.ntmps9
   go_wp2_with (first
    | (refine wpList_buildTo rfl 35 _ rfl (some _) rfl D (by rw[←HD.out];kernel_rfl) ?_)
    | (refine wpList_store_row rfl _ _ _ rfl (w.heap.size+1) D rfl rfl 35 _ GR.out (by rw[HD1.out];exact q5nr) (by rw[HZ.out,HD1.out]) HD2.out ?_))
   exact q8iy (cs:=D) rfl rfl rfl rfl Tryz.underlying35 rfl (by rw[HD1.out];exact q5nr) (setRow_heap _ _ _ _ _ _ GR.out) ⟨rfl,LO.out⟩
 ·rw[if_neg (fun h=>h5 h.1)] at hD ⊢
  by_cases h6:p.kind=6
  ·rw[if_pos h6] at hD ⊢
   rw[h6] at k0
   have HD:=Lib.hid hD
   clear hD h5 h6
   go_enter Tryz.func9,Tryz.ntmps9
   go_wp2_with (first
    | (refine wpList_buildTo rfl 35 _ rfl (some _) rfl D (by rw[←HD.out];kernel_rfl) ?_)
    | (refine wpList_store_row rfl _ _ _ rfl (w.heap.size+1) D rfl rfl 35 _ GR.out (by rw[HD1.out];exact q5nr) (by rw[HZ.out,HD1.out]) HD2.out ?_))
   exact q8iy (cs:=D) rfl rfl rfl rfl Tryz.underlying35 rfl (by rw[HD1.out];exact q5nr) (setRow_heap _ _ _ _ _ _ GR.out) ⟨rfl,LO.out⟩
  ·rw[if_neg h6] at hD ⊢
   have e5:(p.kind==5)=false:=by simpa using h5
   have e6:(p.kind==6)=false:=by simpa using h6
   have HD:=Lib.hid hD
   clear hD h5 h6
   generalize p.kind=k at *
   go_enter Tryz.func9,Tryz.ntmps9
   go_wp2_with (first
    | (refine wpList_buildTo rfl 35 _ rfl (some _) rfl D (by rw[←HD.out];kernel_rfl) ?_)
    | (refine wpList_store_row rfl _ _ _ rfl (w.heap.size+1) D rfl rfl 35 _ GR.out (by rw[HD1.out];exact q5nr) (by rw[HZ.out,HD1.out]) HD2.out ?_))
   exact q8iy (cs:=D) rfl rfl rfl rfl Tryz.underlying35 rfl (by rw[HD1.out];exact q5nr) (setRow_heap _ _ _ _ _ _ GR.out) ⟨rfl,LO.out⟩
theorem qnz1(b:UInt8)(n:Nat)(w:World) :
 Calls Tryz.prog 152 #[.int .u8 b.toNat,.int .i64 n] w fun e w'=>e = .returned (.int .i64 (nxt b n))∧w=w':=by
 have hb:=b.toNat_lt
 have ha:=qm1s b
 by_cases h1:128≤b.toNat
 ·rw[if_pos h1] at ha
  by_cases h2:n=4
  ·subst h2
   have e:nxt b 4=2:=qt6b.2 (.inl ⟨h1,rfl⟩)
   rw[e];clear e
   go_enter Tryz.func152,Tryz.ntmps152
   go_wp2
   go_ret
   exact⟨rfl,rfl⟩
  ·have e:nxt b n=0:=qv8z.2 ⟨h1,h2⟩
   rw[e];clear e
   have h3:((n:Int)==4)=false:=by simp;omega
   go_enter Tryz.func152,Tryz.ntmps152
   go_wp2
   go_ret
   exact⟨rfl,rfl⟩
 ·rw[if_neg h1] at ha
  by_cases h2:b.toNat=0
  ·by_cases h3:1 < n
   ·have e:nxt b n=2:=qt6b.2 (.inr ⟨h2,h3⟩)
    rw[e];clear e
    rw[h2] at ha
    rw[h2]
    have h4:decide ((1:Int) < (n:Int))=true:=by simp;omega
    go_enter Tryz.func152,Tryz.ntmps152
    go_wp2
    go_ret
    exact⟨rfl,rfl⟩
   ·have e:nxt b n=1:=qicf.2 ⟨by omega,.inr (by omega)⟩
    rw[e];clear e
    rw[h2] at ha
    rw[h2]
    have h4:decide ((1:Int) < (n:Int))=false:=by simp;omega
    go_enter Tryz.func152,Tryz.ntmps152
    go_wp2
    go_ret
    exact⟨rfl,rfl⟩
  ·have e:nxt b n=1:=qicf.2 ⟨by omega,.inl (by omega)⟩
   rw[e];clear e
   have h4:((b.toNat:Int)==0)=false:=by simp;omega
   go_enter Tryz.func152,Tryz.ntmps152
   go_wp2
   go_ret
   exact⟨rfl,rfl⟩
def qxoj(b v n st:Nat):Array Value:=#[.pointer (some ⟨b,0,none⟩),.int .i64 v,.int .i64 n,.int .i64 st]
def Rd(w:World)(b v n st:Nat):Prop:=w.heap[b]? = some (.cells (qxoj b v n st) 172 (0,0))
section
variable{w w':World}{b v n st:Nat}
theorem Rd.lt(h:Rd w b v n st):b < w.heap.size:=lt_of_block h
theorem Rd.cell(h:Rd w b v n st)(j:Nat):w.cell? ⟨b,j,none⟩=(qxoj b v n st)[j]? := cell_of_row w b j _ _ (0,0) h
theorem Rd.c0(h:Rd w b v n st):w.cell? ⟨b,0,none⟩=some (.pointer (some ⟨b,0,none⟩)):=h.cell 0
theorem Rd.c1(h:Rd w b v n st):w.cell? ⟨b,1,none⟩=some (.int .i64 v):=h.cell 1
theorem Rd.c2(h:Rd w b v n st):w.cell? ⟨b,2,none⟩=some (.int .i64 n):=h.cell 2
theorem Rd.c3(h:Rd w b v n st):w.cell? ⟨b,3,none⟩=some (.int .i64 st):=h.cell 3
theorem Rd.fr(h:Rd w b v n st)(j:Nat):w.frozen? ⟨b,j,none⟩=false:=by unfold Rd at h;simp[World.frozen?,h]
theorem Rd.draws(h:Rd w b v n st)(k:Nat):Rd (w.drewN k) b v n st:=h
theorem Rd.drew(h:Rd w b v n st):Rd w.drew b v n st:=h
theorem Rd.of_block(h:Rd w b v n st)(hb:w'.heap[b]? = w.heap[b]?):Rd w' b v n st:=hb.trans h
theorem Rd.val(h:Rd w b v n st)(u:Nat):Rd (w.setCell ⟨b,1,none⟩ (.int .i64 u)) b u n st:=qlvy h 1 _
theorem Rd.siz(h:Rd w b v n st)(u:Nat):Rd (w.setCell ⟨b,2,none⟩ (.int .i64 u)) b v u st:=qlvy h 2 _
theorem Rd.sta(h:Rd w b v n st)(u:Nat):Rd (w.setCell ⟨b,3,none⟩ (.int .i64 u)) b v n u:=qlvy h 3 _
end
theorem qp2k:∃j,Tryz.prog.info? 172=some j:=Option.isSome_iff_exists.1 (by kernel_rfl)
theorem quhv{w:World}{b v n st:Nat}(hc:Rd w b v n st) :
 Calls Tryz.prog 151 #[.pointer (some ⟨b,0,none⟩)] w fun e w'=>e = .returned (.bool true)∧w=w':=by
 obtain⟨j,hj⟩:=qp2k
 have heq:=fun W:World=>run_eql_ptr_same (P:=Tryz.prog) W ⟨b,0,none⟩ Tryz.underlying166 hj
 have h0:=hc.c0
 clear hj
 go_enter Tryz.func151,Tryz.ntmps151
 go_wp2
 go_ret
 exact⟨rfl,rfl⟩
theorem qz5z(w:World) :
 Calls Tryz.prog 136 #[] w fun e w'=>e = .returned (.pointer (some ⟨w.heap.size,0,none⟩))∧Rd w' w.heap.size 0 0 0∧Below w.heap.size w w':=by
 go_enter Tryz.func136,Tryz.ntmps136
 go_wp2
 go_ret
 exact⟨rfl,heap_alloc_new w _,(Below.refl _ _).alloc (Nat.le_refl _) _⟩
theorem qh0o(v n:Nat)(x:UInt8)(hv:v < 128^n)(hn:n < 4):bits .or .i64 (v:Int) (IntKind.i64.wrap ((x.toNat:Int)%128*2^(7*(n:Int)).toNat))=((grow v n x:Nat):Int):=by
 have e1:(7*(n:Int)).toNat=7*n:=by omega
 have e128:(128:Nat)^n=2^(7*n):=by rw[Nat.pow_mul]
 have hp:(2:Nat)^(7*n)≤2^21:=Nat.pow_le_pow_right (by decide) (by omega)
 have hx:x.toNat%128≤127:=by omega
 have hm:x.toNat%128*2^(7*n)≤127*2^21:=Nat.mul_le_mul hx hp
 have e2:(x.toNat:Int)%128*2^(7*n)=((x.toNat%128*2^(7*n):Nat):Int):=by simp
 unfold grow
 rw[e128] at hv ⊢
 rw[e1,e2,IntWalk.i64_in _ (by omega)]
 rw[(bits_nat .i64 28 (by decide) (fun m h0 h1=>IntWalk.i64_in _ (by omega)) v (x.toNat%128*2^(7*n)) (by omega) (by omega)).2]
 congr 1
 rw[Nat.or_comm,Nat.mul_comm,←Nat.two_pow_add_eq_or_of_lt hv (x.toNat%128)]
 omega
theorem qh0d{w:World}{b v n:Nat}(x:UInt8)(hc:Rd w b v n 0)(hv:v < 128^n)(hn:n < 4)(hx:nxt x (n+1)=0) :
 Calls Tryz.prog 137 #[.pointer (some ⟨b,0,none⟩),.int .u8 x.toNat] w fun e w'=>e = .returned (.tuple #[.bool false,.int .i64 0])∧Rd w' b (grow v n x) (n+1) 0∧w.grownBy w' (some b):=by
 have h1:=hc.c1
 have h2:=hc.c2
 have h3:=hc.c3
 have f1:=hc.fr 1
 have f2:=hc.fr 2
 have f3:=hc.fr 3
 have ha:=qbg0 x
 have e1:IntKind.i64.wrap ((x.toNat:Int)%128)=(x.toNat:Int)%128:=IntWalk.i64_in _ (by omega)
 have e2:IntKind.i64.wrap (7*(n:Int))=7*(n:Int):=IntWalk.i64_in _ (by omega)
 have e3:(0:Int)≤7*(n:Int):=by omega
 have e4:=qh0o v n x hv hn
 have NX:=Lib.hid (show ∀W,Calls Tryz.prog 152 #[.int .u8 x.toNat,.int .i64 ((n:Int)+1)] W fun e w'=>e = .returned (.int .i64 0)∧W=w' from fun W=>by
  have h:=qnz1 x (n+1) W
  rw[hx] at h
  exact h)
 clear hx
 generalize grow v n x=u at e4
 go_enter Tryz.func137,Tryz.ntmps137
 go_wp2_with (go_at_call 151;refine(quhv hc).mono ?_;rintro e' w' ⟨rfl,rfl⟩)
 go_still_tail 16,(by kernel_rfl)
 change wpList _ _ _ _ _ w.drew
 have hd:Rd w.drew b v n 0:=hc.drew
 have hg:w.grownBy w.drew (some b):=⟨rfl,rfl,rfl,Nat.le_refl _,fun _ _ _=>rfl⟩
 generalize w.drew=W at hd hg
 clear h1 h2 h3 f1 f2 f3
 have h1:=hd.c1
 have h2:=hd.c2
 have h3:=hd.c3
 have f1:=hd.fr 1
 have f2:=hd.fr 2
 have f3:=hd.fr 3
 go_wp2_with (go_at_call 152;refine(NX.out _).mono ?_;rintro e' w' ⟨rfl,rfl⟩)
 go_ret2
 exact⟨rfl,((hd.val u).siz (n+1)).sta 0,qo6d hg (qo6d (qo6d (q99v _ _ _ _) (q99v _ _ _ _)) (q99v _ _ _ _))⟩
theorem qhre{w:World}{b v n:Nat}(x:UInt8)(hc:Rd w b v n 0)(hv:v < 128^n)(hn:n < 4)(hx:nxt x (n+1)=1) :
 Calls Tryz.prog 137 #[.pointer (some ⟨b,0,none⟩),.int .u8 x.toNat] w fun e w'=>e = .returned (.tuple #[.bool true,.int .i64 0])∧Rd w' b (grow v n x) (n+1) 1∧w.grownBy w' (some b):=by
 have h1:=hc.c1
 have h2:=hc.c2
 have h3:=hc.c3
 have f1:=hc.fr 1
 have f2:=hc.fr 2
 have f3:=hc.fr 3
 have ha:=qbg0 x
 have e1:IntKind.i64.wrap ((x.toNat:Int)%128)=(x.toNat:Int)%128:=IntWalk.i64_in _ (by omega)
 have e2:IntKind.i64.wrap (7*(n:Int))=7*(n:Int):=IntWalk.i64_in _ (by omega)
 have e3:(0:Int)≤7*(n:Int):=by omega
 have e4:=qh0o v n x hv hn
 have NX:=Lib.hid (show ∀W,Calls Tryz.prog 152 #[.int .u8 x.toNat,.int .i64 ((n:Int)+1)] W fun e w'=>e = .returned (.int .i64 1)∧W=w' from fun W=>by
  have h:=qnz1 x (n+1) W
  rw[hx] at h
  exact h)
 clear hx
 generalize grow v n x=u at e4
 go_enter Tryz.func137,Tryz.ntmps137
 go_wp2_with (go_at_call 151;refine(quhv hc).mono ?_;rintro e' w' ⟨rfl,rfl⟩)
 go_still_tail 16,(by kernel_rfl)
 change wpList _ _ _ _ _ w.drew
 have hd:Rd w.drew b v n 0:=hc.drew
 have hg:w.grownBy w.drew (some b):=⟨rfl,rfl,rfl,Nat.le_refl _,fun _ _ _=>rfl⟩
 generalize w.drew=W at hd hg
 clear h1 h2 h3 f1 f2 f3
 have h1:=hd.c1
 have h2:=hd.c2
 have h3:=hd.c3
 have f1:=hd.fr 1
 have f2:=hd.fr 2
 have f3:=hd.fr 3
 go_wp2_with (go_at_call 152;refine(NX.out _).mono ?_;rintro e' w' ⟨rfl,rfl⟩)
 go_ret2
 exact⟨rfl,((hd.val u).siz (n+1)).sta 1,qo6d hg (qo6d (qo6d (q99v _ _ _ _) (q99v _ _ _ _)) (q99v _ _ _ _))⟩
theorem qdxq{w:World}{b v n:Nat}(x:UInt8)(hc:Rd w b v n 0)(hv:v < 128^n)(hn:n < 4)(hx:nxt x (n+1)=2) :
 Calls Tryz.prog 137 #[.pointer (some ⟨b,0,none⟩),.int .u8 x.toNat] w fun e w'=>e = .returned (.tuple #[.bool false,.int .i64 5])∧Rd w' b (grow v n x) (n+1) 2∧w.grownBy w' (some b):=by
 have h1:=hc.c1
 have h2:=hc.c2
 have h3:=hc.c3
 have f1:=hc.fr 1
 have f2:=hc.fr 2
 have f3:=hc.fr 3
 have ha:=qbg0 x
 have e1:IntKind.i64.wrap ((x.toNat:Int)%128)=(x.toNat:Int)%128:=IntWalk.i64_in _ (by omega)
 have e2:IntKind.i64.wrap (7*(n:Int))=7*(n:Int):=IntWalk.i64_in _ (by omega)
 have e3:(0:Int)≤7*(n:Int):=by omega
 have e4:=qh0o v n x hv hn
 have NX:=Lib.hid (show ∀W,Calls Tryz.prog 152 #[.int .u8 x.toNat,.int .i64 ((n:Int)+1)] W fun e w'=>e = .returned (.int .i64 2)∧W=w' from fun W=>by
  have h:=qnz1 x (n+1) W
  rw[hx] at h
  exact h)
 clear hx
 generalize grow v n x=u at e4
 go_enter Tryz.func137,Tryz.ntmps137
 go_wp2_with (go_at_call 151;refine(quhv hc).mono ?_;rintro e' w' ⟨rfl,rfl⟩)
 go_still_tail 16,(by kernel_rfl)
 change wpList _ _ _ _ _ w.drew
 have hd:Rd w.drew b v n 0:=hc.drew
 have hg:w.grownBy w.drew (some b):=⟨rfl,rfl,rfl,Nat.le_refl _,fun _ _ _=>rfl⟩
 generalize w.drew=W at hd hg
 clear h1 h2 h3 f1 f2 f3
 have h1:=hd.c1
 have h2:=hd.c2
 have h3:=hd.c3
 have f1:=hd.fr 1
 have f2:=hd.fr 2
 have f3:=hd.fr 3
 go_wp2_with (go_at_call 152;refine(NX.out _).mono ?_;rintro e' w' ⟨rfl,rfl⟩)
 go_ret2
 exact⟨rfl,((hd.val u).siz (n+1)).sta 2,qo6d hg (qo6d (qo6d (q99v _ _ _ _) (q99v _ _ _ _)) (q99v _ _ _ _))⟩
theorem qe0g(s:ByteArray)(k:Nat)(h:k < s.size):s.data.toList.drop k=s[k]::s.data.toList.drop (k+1):=by
 rw[List.drop_eq_getElem_cons (by simpa using h)];rfl
theorem qhwc(s:ByteArray):s.data.toList.drop s.size=[]:=List.drop_of_length_le (by simp)
def q51h(l:List UInt8):Ending := .returned (.tuple #[.int .i64 (rdV l),.int .i64 (rdN l),.int .i64 (rdE l)])
theorem qxud{l:List UInt8}{v n st:Nat}{a b c:Int}(h:run 0 0 l=(v,n,st))(ha:((if st=1 then v else 0:Nat):Int)=a)(hb:((if st=1 then n else 0:Nat):Int)=b)
 (hc:((if st=0 then 3 else if st=1 then 0 else 5:Nat):Int)=c):Ending.returned (.tuple #[.int .i64 a,.int .i64 b,.int .i64 c])=q51h l:=by
 obtain⟨h1,h2,h3⟩:=qa1w h
 rw[←ha,←hb,←hc,←h1,←h2,←h3];rfl
def qxfh(l:List UInt8)(w:World)(e:Ending)(w':World):Prop:=e=q51h l∧Below w.heap.size w w'
def q905(w:World)(l:List UInt8)(k:Nat)(wr:World):Prop:=∃v,k < 4∧v < 128^k∧Rd wr w.heap.size v k 0∧Below w.heap.size w wr∧run 0 0 l=run v k (l.drop k)
theorem q58y{w wr w1:World}(hb:Below w.heap.size w wr)(hg:wr.grownBy w1 (some w.heap.size)):Below w.heap.size w w1:=
 hb.grown hg hb.size (fun k hk=>by cases hk;exact Nat.le_refl _)
theorem q6w6(s:ByteArray)(w:World)(_hm:s.size≤9223372036854775807) :
 Calls Tryz.prog 112 #[.string s] w (qxfh s.data.toList w):=by
 go_enter Tryz.func112,Tryz.ntmps112
 go_wp2_with fail
 refine(qz5z _).mono ?_
 rintro e w1 ⟨rfl,hr,hb⟩
 have H:=Lib.hid (show q905 w s.data.toList 0 w1 from⟨0,by decide,by decide,hr,hb,rfl⟩)
 clear hr hb
 go_wp2_with fail
 go_loopw [12] (fun i wr=>∃k:Nat,k≤s.size∧i = .int .i64 k∧q905 w s.data.toList k wr) (fun i _=>s.size - (intOf i).toNat)
 case atStart=>exact⟨0,Nat.zero_le _,rfl,H.out⟩
 case round=>
  obtain⟨k,hk,rfl,v,hk4,hv,hr,hb,hrun⟩:=hrel
  clear H
  by_cases hlt:k < s.size
  ·have hd:=qe0g s k hlt
   have RUN:=Lib.hid hrun
   have D:=Lib.hid hd
   clear hrun hd
   rcases qlf0 s[k] (k+1) with hx | hx | hx
   ·have NX:=Lib.hid hx
    clear hx
    go_wp2_with fail
    refine(qh0d s[k] hr hv hk4 NX.out).mono ?_
    rintro e w2 ⟨rfl,hr2,hg⟩
    have hb2:=q58y hb hg
    go_wp2_with fail
    go_roundw
    case rel=>
     have h4:=(qv8z.1 NX.out).2
     refine⟨k+1,by omega,by go_num,_,by omega,qpfr _ hv,hr2,hb2,?_⟩
     rw[RUN.out,D.out,qomx _ NX.out]
    case measure=>simp[intOf];omega
   ·have NX:=Lib.hid hx
    clear hx
    go_wp2_with fail
    refine(qhre s[k] hr hv hk4 NX.out).mono ?_
    rintro e w2 ⟨rfl,hr2,hg⟩
    have hb2:=q58y hb hg
    have RR:=Lib.hid (qxud (l:=s.data.toList) (v:=grow v k s[k]) (n:=k+1) (st:=1) (by rw[RUN.out,D.out,q408 _ (by rw[NX.out];decide),NX.out]) rfl rfl rfl)
    have h1:=hr2.c1
    have h2:=hr2.c2
    go_wp2_with fail
    go_quiet (fail)
    go_wp2
    go_ret3
    exact⟨RR.out,qnpu hb2 _⟩
   ·have NX:=Lib.hid hx
    clear hx
    go_wp2_with fail
    refine(qdxq s[k] hr hv hk4 NX.out).mono ?_
    rintro e w2 ⟨rfl,hr2,hg⟩
    have hb2:=q58y hb hg
    have RR:=Lib.hid (qxud (l:=s.data.toList) (v:=grow v k s[k]) (n:=k+1) (st:=2) (by rw[RUN.out,D.out,q408 _ (by rw[NX.out];decide),NX.out]) rfl rfl rfl)
    go_wp2_with fail
    go_ret3
    exact⟨RR.out,hb2⟩
  ·obtain rfl:k=s.size:=by omega
   have RR:=Lib.hid (qxud (l:=s.data.toList) (v:=v) (n:=s.size) (st:=0) (by rw[hrun,qhwc];rfl) rfl rfl rfl)
   clear hrun
   go_wp2
   go_ret3
   exact⟨RR.out,hb⟩
def qymj(l:List Pr):Nat:=(l.map fun p=>p.text.length+p.value.length).sum
theorem qoqr(l:List Pr)(p:Pr):qymj (l++[p])=qymj l+p.text.length+p.value.length:=by simp[qymj];omega
def q2y5(l:List Pr):Bool:=decide (l.length≤1010)&&decide (qymj l≤140000)
theorem qv17(A:Option Addr)(c:Nat)(w:World) :
 Calls Tryz.prog 57 #[.slice A 0 c] w fun e w'=>e = .returned (.int .i64 0)∧∃m,w'=w.drewN m:=by
 go_enter Tryz.func57,Tryz.ntmps57
 go_wp2
 refine wp_loop_rounds 1 ?_
 rw[rounds_succ]
 go_wp2
 go_ret
 exact⟨rfl,0,rfl⟩
theorem q8s3(g i c:Nat)(l:List Pr)(w:World)(ha:PL w (some ⟨g,i,none⟩) l)(hl:l.length≤1010)(hm:∀p∈l,p.text.length≤140737488351232∧p.value.length≤140737488351232) :
 Calls Tryz.prog 57 #[.slice (some ⟨g,i,none⟩) l.length c] w fun e w'=>e = .returned (.int .i64 ((qymj l:Nat):Int))∧∃m,w'=w.drewN m:=by
 have HA:=Lib.hid ha
 have HM:=Lib.hid hm
 obtain⟨n,hn⟩:∃n,l.length=n:=⟨_,rfl⟩
 have HN:=Lib.hid hn
 rw[hn] at hl ⊢
 clear ha hm hn
 have hl':(n:Int)≤1010:=by omega
 obtain⟨V,hV⟩:∃V,qymj l=V:=⟨_,rfl⟩
 rw[hV]
 have HV:=Lib.hid hV
 clear hV
 go_enter Tryz.func57,Tryz.ntmps57
 go_wp2
 go_loopg [4,3] n (fun gk s4 s3 wr=>∃k t m:Nat,k≤n∧gk=n - k∧s4 = .int .i64 (k:Int)∧s3 = .int .i64 (t:Int)∧t=qymj (l.take k)∧t≤k*281474976710656∧wr=w.drewN m)
 case atStart=>exact⟨0,0,0,by omega,by omega,rfl,rfl,rfl,by omega,rfl⟩
 case round=>
  obtain⟨k,t,m,hk,hgk,rfl,rfl,ht,ht2,rfl⟩:=hrel
  by_cases hlt:k < n
  ·have hkl:k < l.length:=by rw[HN.out];exact hlt
   obtain⟨p,hp⟩:∃p,l[k]? = some p:=⟨_,List.getElem?_eq_getElem hkl⟩
   obtain⟨g',i',e',_,a0,a1,a2,a3⟩:=HA.out.at hp
   cases e'
   have htk:l.take (k+1)=l.take k++[p]:=by rw[List.take_add_one,hp];rfl
   have hpm:=HM.out p (List.mem_of_getElem? hp)
   have ht3:=qoqr (l.take k) p
   rw[←htk,←ht] at ht3
   obtain⟨x,hx⟩:∃x:Int,((bs p.text).size:Int)=x:=⟨_,rfl⟩
   obtain⟨y,hy⟩:∃x:Int,((bs p.value).size:Int)=x:=⟨_,rfl⟩
   have z1:=qkrc p.text
   have z2:=qkrc p.value
   obtain⟨u,hu⟩:∃u,qymj (l.take (k+1))=u:=⟨_,rfl⟩
   rw[hu] at ht3
   have w1:IntKind.i64.wrap ((t:Int)+x)=(t:Int)+x:=by simp only[IntKind.wrap_i64];omega
   have w2:IntKind.i64.wrap ((t:Int)+x+y)=(u:Int):=by simp only[IntKind.wrap_i64];omega
   have hu2:u≤(k+1)*281474976710656:=by omega
   generalize bs p.text=x2 at *
   generalize bs p.value=x3 at *
   have g1:(k:Int) < (n:Int):=by omega
   have HU:=Lib.hid hu
   have HU2:=Lib.hid hu2
   clear a0 a1 hp hkl htk hpm ht3 z1 z2 hu hu2 ht ht2
   go_wp2
   go_quiet (fail)
   go_wp2
   go_roundg (n - (k+1))
   case measure=>omega
   case rel=>exact⟨k+1,u,_,by omega,rfl,by go_num,rfl,HU.out.symm,HU2.out,rfl⟩
  ·obtain rfl:k=n:=by omega
   have ht1:l.take k=l:=List.take_of_length_le (by rw[HN.out];omega)
   rw[ht1,HV.out] at ht
   subst ht
   clear ht2
   go_wp2
   go_ret
   exact⟨rfl,m,rfl⟩
theorem q3f7(A:Option Addr)(n c:Nat)(l:List Pr)(w:World)(ha:PL w A l)(hn:l.length=n)(hm:∀p∈l,p.text.length≤140737488351232∧p.value.length≤140737488351232) :
 Calls Tryz.prog 31 #[.slice A n c] w fun e w'=>e = .returned (.bool (q2y5 l))∧∃m,w'=w.drewN m:=by
 unfold q2y5
 rw[hn]
 by_cases h1:n≤1010
 ·rw[decide_eq_true h1,Bool.true_and]
  have WT:Calls Tryz.prog 57 #[.slice A n c] w fun e w'=>e = .returned (.int .i64 ((qymj l:Nat):Int))∧∃m,w'=w.drewN m:=by
   by_cases h0:l=[]
   ·subst h0
    obtain rfl:0=n:=hn
    exact qv17 A c w
   ·obtain⟨g,i,rfl,_⟩:=ha.addr h0
    subst hn
    exact q8s3 g i c l w ha h1 hm
  have g1:(n:Int)≤1010:=by omega
  have WT:=Lib.hid WT
  obtain⟨B,hB⟩:∃B,decide (qymj l≤140000)=B:=⟨_,rfl⟩
  rw[hB]
  have HB:=Lib.hid (show decide (((qymj l:Nat):Int)≤140000)=B by rw[←hB,decide_eq_decide];omega)
  generalize ((qymj l:Nat):Int)=t at *
  clear ha hm h1 hn hB
  go_enter Tryz.func31,Tryz.ntmps31
  go_wp2_with fail
  refine(WT.out).mono ?_
  rintro e w1 ⟨rfl,m,rfl⟩
  go_wp2_with fail
  go_ret
  exact⟨congrArg (fun b=>Ending.returned (Value.bool b)) HB.out,m,rfl⟩
 ·rw[decide_eq_false h1,Bool.false_and]
  have g1:¬(n:Int)≤1010:=by omega
  clear ha hm h1 hn
  go_enter Tryz.func31,Tryz.ntmps31
  go_wp2_with fail
  go_ret
  exact⟨rfl,0,rfl⟩
theorem q8eh(A B:Option Addr)(na nb c d:Nat)(l m:List Pr)(w:World)(hA:PL w A l)(hB:PL w B m)(hla:l.length=na)(hlb:m.length=nb)(hN:na≤70000)(hM:nb≤70000) :
 Calls Tryz.prog 97 #[.slice A na c,.slice B nb d] w fun e w'=>e = .returned (.bool (decide (l=m)))∧∃k,w'=w.drewN k:=by
 by_cases hn:na=nb
 ·subst hn
  obtain⟨D,hD⟩:∃D,decide (l=m)=D:=⟨_,rfl⟩
  rw[hD]
  have HD:=Lib.hid hD
  have HA:=Lib.hid hA
  have HB:=Lib.hid hB
  have HLA:=Lib.hid hla
  have HLB:=Lib.hid hlb
  have q0:(na:Int)≤70000:=by omega
  clear hA hB hla hlb hN hM hD
  go_enter Tryz.func97,Tryz.ntmps97
  go_wp2_with fail
  go_loopg [5] na (fun gk i wr=>∃k x:Nat,k≤na∧gk=na - k∧i = .int .i64 (k:Int)∧wr=w.drewN x∧∀j p q,j < k→l[j]? = some p→m[j]? = some q→p=q)
  case atStart=>exact⟨0,0,Nat.zero_le _,rfl,rfl,rfl,fun j p q h=>by omega⟩
  case round=>
   obtain⟨k,x,hk,rfl,rfl,rfl,hS⟩:=hrel
   have HS:=Lib.hid hS
   by_cases hlt:k < na
   ·have hkl:k < l.length:=by rw[HLA.out];exact hlt
    have hkm:k < m.length:=by rw[HLB.out];exact hlt
    obtain⟨p,hp⟩:∃p,l[k]? = some p:=⟨_,List.getElem?_eq_getElem hkl⟩
    obtain⟨q,hq⟩:∃q,m[k]? = some q:=⟨_,List.getElem?_eq_getElem hkm⟩
    obtain⟨ga,ia,rfl,_,a0,a1,a2,a3⟩:=HA.out.at hp
    obtain⟨gb,ib,rfl,_,b0,b1,b2,b3⟩:=HB.out.at hq
    have HP:=Lib.hid hp
    have HQ:=Lib.hid hq
    have HL:=Lib.hid hlt
    have g1:(k:Int) < (na:Int):=by omega
    have hno:p≠q→D=false:=fun h=>by
     rw[←HD.out]
     exact decide_eq_false fun e=>h (by subst e;exact Option.some.inj (HP.out.symm.trans HQ.out))
    have HNO:=Lib.hid hno
    clear hS hkl hkm hp hq hlt hk hno
    rcases qzlf p q with h | h | ⟨h1,h2⟩ | ⟨h1,h2,h3⟩ | ⟨h1,h2,h3,h4⟩
    ·subst h
     generalize p.id=x0 at a0 b0
     generalize ((p.n:Nat):Int)=x1 at a1 b1
     generalize bs p.text=x2 at a2 b2
     generalize bs p.value=x3 at a3 b3
     go_wp2_with fail
     go_quiet (fail)
     go_wp2_with fail
     go_roundg (na - (k+1))
     case measure=>have:=HL.out;omega
     case rel=>
      refine⟨k+1,_,by have:=HL.out;omega,rfl,by go_num,rfl,fun j u v hj hu hv=>?_⟩
      by_cases hjk:j=k
      ·subst hjk
       exact Option.some.inj ((hu.symm.trans HP.out).trans (HQ.out.symm.trans hv))
      ·exact HS.out j u v (by omega) hu hv
    ·have hD:=HNO.out (fun e=>by rw[e] at h;simp at h)
     subst hD
     generalize p.id=x0 at *
     generalize ((p.n:Nat):Int)=x1 at *
     generalize bs p.text=x2 at *
     generalize bs p.value=x3 at *
     generalize q.id=y0 at *
     generalize ((q.n:Nat):Int)=y1 at *
     generalize bs q.text=y2 at *
     generalize bs q.value=y3 at *
     go_wp2_with fail
     go_quiet (fail)
     go_wp2_with fail
     go_ret
     exact⟨rfl,_,qgiq _ _ _⟩
    ·have hD:=HNO.out (fun e=>by rw[e] at h2;simp at h2)
     subst hD
     rw[h1] at a0
     clear h1
     generalize p.id=x0 at *
     generalize ((p.n:Nat):Int)=x1 at *
     generalize bs p.text=x2 at *
     generalize bs p.value=x3 at *
     generalize q.id=y0 at *
     generalize ((q.n:Nat):Int)=y1 at *
     generalize bs q.text=y2 at *
     generalize bs q.value=y3 at *
     go_wp2_with fail
     go_quiet (fail)
     go_wp2_with fail
     go_ret
     exact⟨rfl,_,qgiq _ _ _⟩
    ·have hD:=HNO.out (fun e=>by rw[e] at h3;simp at h3)
     subst hD
     rw[h1] at a0
     rw[h2] at a1
     clear h1 h2
     generalize p.id=x0 at *
     generalize ((p.n:Nat):Int)=x1 at *
     generalize bs p.text=x2 at *
     generalize bs p.value=x3 at *
     generalize q.id=y0 at *
     generalize ((q.n:Nat):Int)=y1 at *
     generalize bs q.text=y2 at *
     generalize bs q.value=y3 at *
     go_wp2_with fail
     go_quiet (fail)
     go_wp2_with fail
     go_ret
     exact⟨rfl,_,qgiq _ _ _⟩
    ·have hD:=HNO.out (fun e=>by rw[e] at h4;simp at h4)
     subst hD
     rw[h1] at a0
     rw[h2] at a1
     rw[h3] at a2
     clear h1 h2 h3
     generalize p.id=x0 at *
     generalize ((p.n:Nat):Int)=x1 at *
     generalize bs p.text=x2 at *
     generalize bs p.value=x3 at *
     generalize q.id=y0 at *
     generalize ((q.n:Nat):Int)=y1 at *
     generalize bs q.text=y2 at *
     generalize bs q.value=y3 at *
     go_wp2_with fail
     go_quiet (fail)
     go_wp2_with fail
     go_ret
     exact⟨rfl,_,qgiq _ _ _⟩
   ·obtain rfl:k=na:=by omega
    have hD:D=true:=by rw[←HD.out];exact decide_eq_true (qs8g HLA.out HLB.out hS)
    subst hD
    clear hS hlt hk
    go_wp2_with fail
    go_ret
    exact⟨rfl,_,rfl⟩
 ·have hD:decide (l=m)=false:=decide_eq_false fun e=>hn (by rw[←hla,←hlb,e])
  have q0:((na:Int) != (nb:Int))=true:=by rw[bne_iff_ne];omega
  rw[hD]
  clear hA hB hla hlb hN hM hD hn
  go_enter Tryz.func97,Tryz.ntmps97
  go_wp2_with fail
  go_ret
  exact⟨rfl,0,rfl⟩
end Go.Proofs.YthhdhagenmcbeaaGreat
