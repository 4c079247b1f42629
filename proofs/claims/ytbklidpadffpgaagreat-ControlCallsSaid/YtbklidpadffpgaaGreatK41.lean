/- The contract of octet.Get. No condition but the length of a string. -/
import Derived.Lib.IndexBytes
import Derived.LaidEqlPtr
import Derived.BigQuiet
import Derived.Deep.QuietTactic
import Derived.Test.YtbklidpadffpgaaGreatK12
import Derived.Test.YtbklidpadffpgaaGreatK25
set_option maxHeartbeats 400000
namespace Go.Proofs.YtbklidpadffpgaaGreat
open Go.RowKit
theorem qmf9(a:Nat)(b:UInt8)(ha:a < 72057594037927936) :
 bits BinOp.or IntKind.u64 (IntKind.u64.wrap ((a:Int)*256)) (IntKind.u64.wrap (b.toNat:Int))=((a*256+b.toNat:Nat):Int):=by
 have hb:=b.toNat_lt
 have e1:IntKind.u64.wrap ((a:Int)*256)=((a*256:Nat):Int):=by simp only[IntKind.wrap_u64];omega
 have e2:IntKind.u64.wrap (b.toNat:Int)=((b.toNat:Nat):Int):=by simp only[IntKind.wrap_u64];omega
 rw[e1,e2,bits_or_u64_nat _ _ (by omega) (by omega)]
 congr 1
 rw[Nat.mul_comm a 256]
 exact(Nat.two_pow_add_eq_or_of_lt (i:=8) (by omega) a).symm
theorem q2r7(s:ByteArray)(k:Nat)(hk:k < 8):num (s.data.toList.take k) < 72057594037927936:=by
 have h:=qn9h (s.data.toList.take k)
 have hl:(s.data.toList.take k).length≤7:=by simp;omega
 have:=Nat.pow_le_pow_right (show 0 < 256 by decide) hl
 omega
theorem qsf1(s:ByteArray)(w:World)(hs:s.size≤8) :
 Calls Tryz.prog 76 #[.string s] w fun e w'=>e = .returned (.int .u64 (num s.data.toList))∧w=w':=by
 go_enter Tryz.func76,Tryz.ntmps76
 go_wp2
 go_loop [4,14] (fun v i=>∃k:Nat,k≤s.size∧i = .int .i64 k∧v = .int .u64 (num (s.data.toList.take k))) (fun _ i=>s.size - (intOf i).toNat)
 case atStart=>exact⟨0,Nat.zero_le _,rfl,rfl⟩
 case round=>
  obtain⟨k,hk,rfl,rfl⟩:=hrel
  by_cases hlt:k < s.size
  ·go_wp2
   go_round
   case rel=>exact⟨k+1,by omega,by go_num,by rw[qmf9 _ _ (q2r7 s k (by omega)),qphn s k hlt,q4zn]⟩
   case measure=>simp[intOf];omega
  ·obtain rfl:k=s.size:=by omega
   have e:s.data.toList.take s.size=s.data.toList:=List.take_of_length_le (by simp)
   go_wp2
   go_ret
   exact⟨rfl,rfl⟩
theorem qce0(s:ByteArray)(w:World)(hs:8 < s.size)(hm:s.size≤9223372036854775807) :
 Calls Tryz.prog 76 #[.string s] w fun e w'=>e = .returned (.int .u64 (num (s.data.toList.drop (s.size - 8))))∧w=w':=by
 go_enter Tryz.func76,Tryz.ntmps76
 go_wp2
 have e8:s.size - (s.size - 8)=8:=by omega
 have ht:(s.extract (s.size - 8) s.size).size=8:=by simp;omega
 have hd:(s.extract (s.size - 8) s.size).data.toList=s.data.toList.drop (s.size - 8):=Lib.extract_to_end s _
 rw[e8,show((8:Nat):Int)=8 from rfl]
 generalize s.extract (s.size - 8) s.size=t at ht hd
 have HD:=Lib.hid hd
 clear hd e8
 have Hk:∀k,k < 8→k < t.size:=fun k h=>by omega
 have HT:=Lib.hid ht
 clear ht
 go_loop [4,14] (fun v i=>∃k:Nat,k≤8∧i = .int .i64 k∧v = .int .u64 (num (t.data.toList.take k))) (fun _ i=>8 - (intOf i).toNat)
 case atStart=>exact⟨0,Nat.zero_le _,rfl,rfl⟩
 case round=>
  obtain⟨k,hk,rfl,rfl⟩:=hrel
  by_cases hlt:k < 8
  ·have hkt:=Hk k hlt
   clear Hk
   go_wp2
   go_round
   case rel=>exact⟨k+1,by omega,by go_num,by rw[qmf9 _ _ (q2r7 t k (by omega)),qphn t k hkt,q4zn]⟩
   case measure=>simp[intOf];omega
  ·obtain rfl:k=8:=by omega
   have e:t.data.toList.take 8=t.data.toList:=List.take_of_length_le (by have:=HT.out;simpa using Nat.le_of_eq this)
   clear Hk
   go_wp2
   go_ret
   exact⟨by rw[HD.out];rfl,rfl⟩
theorem q102(s:ByteArray)(w:World)(hm:s.size≤9223372036854775807) :
 Calls Tryz.prog 76 #[.string s] w fun e w'=>e = .returned (.int .u64 (num (s.data.toList.drop (s.size - 8))))∧w=w':=by
 by_cases h:s.size≤8
 ·have e:s.size - 8=0:=by omega
  rw[e];exact qsf1 s w h
 ·exact qce0 s w (by omega) hm
def qqr9(b:Nat)(s:ByteArray)(i:Nat)(e:Int):Array Value:=#[.pointer (some ⟨b,0,none⟩),.string s,.int .i64 i,.int .i64 e]
def Cur(w:World)(b:Nat)(s:ByteArray)(i:Nat)(e:Int):Prop:=w.heap[b]? = some (.cells (qqr9 b s i e) 110 (0,0))
section
variable{w w':World}{b:Nat}{s:ByteArray}{i:Nat}{e:Int}
theorem Cur.lt(h:Cur w b s i e):b < w.heap.size:=lt_of_block h
theorem Cur.cell(h:Cur w b s i e)(j:Nat):w.cell? ⟨b,j,none⟩=(qqr9 b s i e)[j]? := cell_of_row w b j _ _ (0,0) h
theorem Cur.c0(h:Cur w b s i e):w.cell? ⟨b,0,none⟩=some (.pointer (some ⟨b,0,none⟩)):=h.cell 0
theorem Cur.c1(h:Cur w b s i e):w.cell? ⟨b,1,none⟩=some (.string s):=h.cell 1
theorem Cur.c2(h:Cur w b s i e):w.cell? ⟨b,2,none⟩=some (.int .i64 i):=h.cell 2
theorem Cur.c3(h:Cur w b s i e):w.cell? ⟨b,3,none⟩=some (.int .i64 e):=h.cell 3
theorem Cur.fr(h:Cur w b s i e)(j:Nat):w.frozen? ⟨b,j,none⟩=false:=by unfold Cur at h;simp[World.frozen?,h]
theorem Cur.draws(h:Cur w b s i e)(n:Nat):Cur (w.drewN n) b s i e:=h
theorem Cur.of_block(h:Cur w b s i e)(hb:w'.heap[b]? = w.heap[b]?):Cur w' b s i e:=hb.trans h
theorem Cur.to(h:Cur w b s i e)(k:Nat):Cur (w.setCell ⟨b,2,none⟩ (.int .i64 k)) b s k e:=qlvy h 2 _
theorem Cur.fail(h:Cur w b s i e)(f:Int):Cur (w.setCell ⟨b,3,none⟩ (.int .i64 f)) b s i f:=qlvy h 3 _
end
theorem qi1b:∃j,Tryz.prog.info? 110=some j:=Option.isSome_iff_exists.1 (by kernel_rfl)
theorem ql0o{w:World}{b:Nat}{s:ByteArray}{i:Nat}{e:Int}(hc:Cur w b s i e) :
 Calls Tryz.prog 80 #[.pointer (some ⟨b,0,none⟩)] w fun e w'=>e = .returned (.bool true)∧w=w':=by
 obtain⟨j,hj⟩:=qi1b
 have heq:=fun W:World=>run_eql_ptr_same (P:=Tryz.prog) W ⟨b,0,none⟩ Tryz.underlying75 hj
 have h0:=hc.c0
 clear hj
 go_enter Tryz.func80,Tryz.ntmps80
 go_wp2
 go_ret
 exact⟨rfl,rfl⟩
theorem q2gu(s:ByteArray)(w:World) :
 Calls Tryz.prog 44 #[.string s] w fun e w'=>e = .returned (.pointer (some ⟨w.heap.size,0,none⟩))∧Cur w' w.heap.size s 0 0∧Below w.heap.size w w'∧w'.heap.size=w.heap.size+1:=by
 go_enter Tryz.func44,Tryz.ntmps44
 go_wp2
 go_ret
 exact⟨rfl,heap_alloc_new w _,(Below.refl _ _).alloc (Nat.le_refl _) _,by simp⟩
theorem q29p{w:World}{b:Nat}{s:ByteArray}{i:Nat}{e:Int}(hc:Cur w b s i e) :
 Calls Tryz.prog 50 #[.pointer (some ⟨b,0,none⟩)] w fun e' w'=>e' = .returned (.int .i64 e)∧w=w':=by
 have h3:=hc.c3
 go_enter Tryz.func50,Tryz.ntmps50
 go_wp2_with (go_at_call 80;refine(ql0o hc).mono ?_;rintro e' w' ⟨rfl,rfl⟩)
 go_ret
 exact⟨rfl,rfl⟩
theorem qdvc{w:World}{b:Nat}{s:ByteArray}{i:Nat}{e:Int}(hc:Cur w b s i e)(hi:i≤s.size)(_:s.size≤9223372036854775807) :
 Calls Tryz.prog 48 #[.pointer (some ⟨b,0,none⟩)] w fun e' w'=>e' = .returned (.string (s.extract i s.size))∧∃n,w'=w.drewN n:=by
 have h1:=hc.c1
 have h2:=hc.c2
 go_enter Tryz.func48,Tryz.ntmps48
 go_wp2_with (go_at_call 80;refine(ql0o hc).mono ?_;rintro e' w' ⟨rfl,rfl⟩)
 go_quiet (fail)
 go_wp2
 go_ret
 exact⟨rfl,_,rfl⟩
theorem qxdm{w:World}{b:Nat}{s:ByteArray}{i:Nat}(f:Int)(hc:Cur w b s i 0) :
 Calls Tryz.prog 49 #[.pointer (some ⟨b,0,none⟩),.int .i64 f] w fun e' w'=>e' = .returned (.tuple #[])∧Cur w' b s i f∧w.grownBy w' (some b):=by
 have h3:=hc.c3
 have f3:=hc.fr 3
 go_enter Tryz.func49,Tryz.ntmps49
 go_wp2_with (go_at_call 80;refine(ql0o hc).mono ?_;rintro e' w' ⟨rfl,rfl⟩)
 go_end0
 exact⟨rfl,hc.fail f,q99v _ _ _ _⟩
theorem fail_no{w:World}{b:Nat}{s:ByteArray}{i:Nat}{e:Int}(f:Int)(hc:Cur w b s i e)(he:(e==0)=false) :
 Calls Tryz.prog 49 #[.pointer (some ⟨b,0,none⟩),.int .i64 f] w fun e' w'=>e' = .returned (.tuple #[])∧w=w':=by
 have h3:=hc.c3
 go_enter Tryz.func49,Tryz.ntmps49
 go_wp2_with (go_at_call 80;refine(ql0o hc).mono ?_;rintro e' w' ⟨rfl,rfl⟩)
 go_end0
 exact⟨rfl,rfl⟩
theorem qog8{w:World}{b:Nat}{s:ByteArray}{i:Nat}{e:Int}(hc:Cur w b s i e)(hi:i≤s.size)(hm:s.size≤9223372036854775807) :
 Calls Tryz.prog 45 #[.pointer (some ⟨b,0,none⟩)] w fun e' w'=>e' = .returned (.int .i64 ((s.size - i:Nat):Int))∧∃n,w'=w.drewN n:=by
 go_enter Tryz.func45,Tryz.ntmps45
 go_wp2_with (go_at_call 48;refine(qdvc hc hi hm).mono ?_;rintro e' w' ⟨rfl,n,rfl⟩)
 go_ret
 exact⟨by congr 2,_,rfl⟩
theorem q95z{w:World}{b:Nat}{s:ByteArray}{i:Nat}{e:Int}(n:Int)(hc:Cur w b s i e)(he:(e==0)=false) :
 Calls Tryz.prog 77 #[.pointer (some ⟨b,0,none⟩),.int .i64 n] w fun e' w'=>e' = .returned (.string ⟨#[]⟩)∧w=w':=by
 have he':(e != 0)=true:=by simp_all
 go_enter Tryz.func77,Tryz.ntmps77
 go_wp2_with (go_at_call 50;refine(q29p hc).mono ?_;rintro e' w' ⟨rfl,rfl⟩)
 go_ret
 exact⟨rfl,rfl⟩
theorem ql8f{w:World}{b:Nat}{s:ByteArray}{i:Nat}(n:Int)(hc:Cur w b s i 0)(hi:i≤s.size)(hm:s.size≤9223372036854775807)(hn:((s.size - i:Nat):Int) < n) :
 Calls Tryz.prog 77 #[.pointer (some ⟨b,0,none⟩),.int .i64 n] w fun e' w'=>e' = .returned (.string ⟨#[]⟩)∧Cur w' b s i 3∧w.grownBy w' (some b):=by
 have h0:¬n < 0:=by omega
 go_enter Tryz.func77,Tryz.ntmps77
 go_wp2_with (first
  | (go_at_call 50;refine(q29p hc).mono ?_;rintro e' w' ⟨rfl,rfl⟩)
  | (go_at_call 45;refine(qog8 hc hi hm).mono ?_;rintro e' w' ⟨rfl,nq,rfl⟩)
  | (go_at_call 49;refine(qxdm _ (hc.draws nq)).mono ?_;rintro e' w' ⟨rfl,hc',hg⟩))
 go_ret
 exact⟨rfl,hc',qgju hg⟩
theorem qpai{w:World}{b:Nat}{s:ByteArray}{i:Nat}(n:Nat)(hc:Cur w b s i 0)(hi:i+n≤s.size)(hm:s.size≤9223372036854775807) :
 Calls Tryz.prog 77 #[.pointer (some ⟨b,0,none⟩),.int .i64 n] w fun e' w'=>e' = .returned (.string (s.extract i (i+n)))∧Cur w' b s (i+n) 0∧w.grownBy w' (some b):=by
 have hn:¬((s.size - i:Nat):Int) < (n:Int):=by omega
 have h1:=hc.c1
 have h2:=hc.c2
 have f2:=hc.fr 2
 go_enter Tryz.func77,Tryz.ntmps77
 go_wp2_with (first
  | (go_at_call 50;refine(q29p hc).mono ?_;rintro e' w' ⟨rfl,rfl⟩)
  | (go_at_call 45;refine(qog8 hc (by omega) hm).mono ?_;rintro e' w' ⟨rfl,nq,rfl⟩))
 go_quiet (fail)
 go_wp2
 go_ret
 exact⟨rfl,(hc.draws _).to (i+n),qgju (q99v _ _ _ _)⟩
def qf3l(s:ByteArray):Nat:=num (s.data.toList.drop (s.size - 8))
theorem qnm5(s:ByteArray)(w:World)(hm:s.size≤9223372036854775807) :
 Calls Tryz.prog 76 #[.string s] w fun e w'=>e = .returned (.int .u64 (qf3l s))∧w=w':=q102 s w hm
theorem q2vo:qf3l ⟨#[]⟩=0:=by decide
theorem qvi6{w:World}{b:Nat}{s:ByteArray}{i:Nat}(n:Nat)(hc:Cur w b s i 0)(hi:i+n≤s.size)(hm:s.size≤9223372036854775807) :
 Calls Tryz.prog 46 #[.pointer (some ⟨b,0,none⟩),.int .i64 n] w fun e' w'=>e' = .returned (.int .u64 (qf3l (s.extract i (i+n))))∧Cur w' b s (i+n) 0∧w.grownBy w' (some b):=by
 go_enter Tryz.func46,Tryz.ntmps46
 go_wp2_with (first
  | (go_at_call 77;refine(qpai n hc hi hm).mono ?_;rintro e' w' ⟨rfl,hc',hg⟩)
  | (go_at_call 76;refine(qnm5 _ _ (by simp;omega)).mono ?_;rintro e' w' ⟨rfl,rfl⟩))
 go_ret
 exact⟨rfl,hc',hg⟩
theorem qgl9{w:World}{b:Nat}{s:ByteArray}{i:Nat}{e:Int}(n:Int)(hc:Cur w b s i e)(he:(e==0)=false) :
 Calls Tryz.prog 46 #[.pointer (some ⟨b,0,none⟩),.int .i64 n] w fun e' w'=>e' = .returned (.int .u64 0)∧w=w':=by
 go_enter Tryz.func46,Tryz.ntmps46
 go_wp2_with (first
  | (go_at_call 77;refine(q95z n hc he).mono ?_;rintro e' w' ⟨rfl,rfl⟩)
  | (go_at_call 76;refine(qnm5 _ _ (by decide)).mono ?_;rw[q2vo];rintro e' w' ⟨rfl,rfl⟩))
 go_ret
 exact⟨rfl,rfl⟩
theorem q6bm{w:World}{b:Nat}{s:ByteArray}{i:Nat}(n:Int)(hc:Cur w b s i 0)(hi:i≤s.size)(hm:s.size≤9223372036854775807)(hn:((s.size - i:Nat):Int) < n) :
 Calls Tryz.prog 46 #[.pointer (some ⟨b,0,none⟩),.int .i64 n] w fun e' w'=>e' = .returned (.int .u64 0)∧Cur w' b s i 3∧w.grownBy w' (some b):=by
 go_enter Tryz.func46,Tryz.ntmps46
 go_wp2_with (first
  | (go_at_call 77;refine(ql8f n hc hi hm hn).mono ?_;rintro e' w' ⟨rfl,hc',hg⟩)
  | (go_at_call 76;refine(qnm5 _ _ (by decide)).mono ?_;rw[q2vo];rintro e' w' ⟨rfl,rfl⟩))
 go_ret
 exact⟨rfl,hc',hg⟩
theorem qs8e{w:World}{b:Nat}{s:ByteArray}{i:Nat}{e:Int}(hc:Cur w b s i e) :
 Calls Tryz.prog 168 #[.pointer (some ⟨b,0,none⟩)] w fun e' w'=>e' = .returned (.int .i64 i)∧w=w':=by
 have h2:=hc.c2
 go_enter Tryz.func168,Tryz.ntmps168
 go_wp2_with (go_at_call 80;refine(ql0o hc).mono ?_;rintro e' w' ⟨rfl,rfl⟩)
 go_ret
 exact⟨rfl,rfl⟩
def St(w W:World)(B:Nat)(s:ByteArray)(i:Nat)(e:Int):Prop:=Below w.heap.size w W∧w.heap.size≤B∧Cur W B s i e
section
variable{w W W':World}{B D:Nat}{s t:ByteArray}{i i' j j':Nat}{e e2 f f2:Int}{g:FuncId}{args:Array Value}{v v':Value}
theorem St.draws(h:St w W B s i e)(n:Nat):St w (W.drewN n) B s i e:=⟨qnpu h.1 n,h.2.1,h.2.2.draws n⟩
theorem St.step(h:St w W B s i e)(hc:Cur W' B s i' e2)(hg:W.grownBy W' (some B)):St w W' B s i' e2:=
 ⟨h.1.grown hg h.1.size (fun k hk=>by cases hk;exact h.2.1),h.2.1,hc⟩
theorem St.other(h:St w W B s i e)(hD:w.heap.size≤D)(hne:B≠D)(hg:W.grownBy W' (some D)):St w W' B s i e:=
 ⟨h.1.grown hg h.1.size (fun k hk=>by cases hk;exact hD),h.2.1,h.2.2.of_block (hg.block B h.2.2.lt (fun e=>hne (by injection e)))⟩
theorem St.below(h:St w W B s i e)(hb:Below W.heap.size W W'):St w W' B s i e:=
 ⟨h.1.trans (hb.mono h.1.size),h.2.1,h.2.2.of_block (hb.block B h.2.2.lt)⟩
theorem qc5i(h:Below w.heap.size w W)(s:ByteArray):Calls Tryz.prog 44 #[.string s] W fun e W'=>∃B,e = .returned (.pointer (some ⟨B,0,none⟩))∧St w W' B s 0 0:=
 (q2gu s W).mono fun _ _ ⟨he,hc,hb,_⟩=>⟨_,he,h.trans (hb.mono h.size),h.size,hc⟩
theorem q6bk(h:St w W B s i e)(hv:v=v')(hcall:Calls Tryz.prog g args W fun e' W'=>e' = .returned v∧Cur W' B s i' e2∧W.grownBy W' (some B)) :
 Calls Tryz.prog g args W fun e' W'=>e' = .returned v'∧St w W' B s i' e2:=hcall.mono fun _ _ ⟨he,hc,hg⟩=>⟨hv▸he,h.step hc hg⟩
theorem qdc6(h:St w W B s i e)(hv:v=v')(hcall:Calls Tryz.prog g args W fun e' W'=>e' = .returned v∧W=W') :
 Calls Tryz.prog g args W fun e' W'=>e' = .returned v'∧St w W' B s i e:=hcall.mono fun _ _ ⟨he,hw⟩=>⟨hv▸he,hw▸h⟩
end
theorem qxvz(s:ByteArray)(st p:Nat)(h:p < s.size)(hs:st≤p):(s.data.toList.take (p+1)).drop st=(s.data.toList.take p).drop st++[s[p]]:=by
 rw[qphn s p h,List.drop_append_of_le_length (by simp;omega)]
theorem qxf9(s:ByteArray)(st p:Nat)(hp:p < st+8):num ((s.data.toList.take p).drop st) < 72057594037927936:=by
 have h:=qn9h ((s.data.toList.take p).drop st)
 have hl:((s.data.toList.take p).drop st).length≤7:=by simp;omega
 have:=Nat.pow_le_pow_right (show 0 < 256 by decide) hl
 omega
theorem qtwb(s:ByteArray)(w:World)(hs:s.size≤8) :
 Calls Tryz.prog 102 #[.string s] w fun e w'=>e = .returned (.int .u64 (qf3l s))∧w=w':=by
 have e0:qf3l s=num ((s.data.toList.take s.size).drop 0):=by
  unfold qf3l
  rw[show s.size - 8=0 by omega,List.take_of_length_le (by simp)]
 rw[e0]
 clear e0
 go_enter Tryz.func102,Tryz.ntmps102
 go_wp2
 go_loop [3,4] (fun v i=>∃k:Nat,k≤s.size∧i = .int .i64 k∧v = .int .u64 (num ((s.data.toList.take k).drop 0))) (fun _ i=>s.size - (intOf i).toNat)
 case atStart=>exact⟨0,Nat.zero_le _,rfl,rfl⟩
 case round=>
  obtain⟨k,hk,rfl,rfl⟩:=hrel
  by_cases hlt:k < s.size
  ·have E:=Lib.hid (qxvz s 0 k hlt (Nat.zero_le _))
   have L:=Lib.hid (qxf9 s 0 k (by omega))
   generalize (s.data.toList.take k).drop 0=l at E L
   go_wp2
   go_round
   case rel=>exact⟨k+1,by omega,by go_num,by rw[qmf9 _ _ L.out,E.out,q4zn]⟩
   case measure=>simp[intOf];omega
  ·obtain rfl:k=s.size:=by omega
   go_wp2
   go_ret
   exact⟨rfl,rfl⟩
theorem q10g(s:ByteArray)(st:Nat)(w:World)(hs:st+8=s.size)(h0:0 < st)(hm:s.size≤9223372036854775807) :
 Calls Tryz.prog 102 #[.string s] w fun e w'=>e = .returned (.int .u64 (qf3l s))∧w=w':=by
 have e0:qf3l s=num ((s.data.toList.take s.size).drop st):=by
  unfold qf3l
  rw[show s.size - 8=st by omega,List.take_of_length_le (by simp)]
 rw[e0]
 clear e0
 have h1:st+8≤s.size:=by omega
 have h2:s.size≤st+8:=by omega
 clear hs
 go_enter Tryz.func102,Tryz.ntmps102
 go_wp2
 go_loop [3,4] (fun v i=>∃k:Nat,st≤k∧k≤s.size∧i = .int .i64 k∧v = .int .u64 (num ((s.data.toList.take k).drop st))) (fun _ i=>s.size - (intOf i).toNat)
 case atStart=>
  refine⟨st,Nat.le_refl _,by omega,by congr 1;omega,?_⟩
  rw[List.drop_of_length_le (by simp;omega)]
  rfl
 case round=>
  obtain⟨k,hk0,hk,rfl,rfl⟩:=hrel
  by_cases hlt:k < s.size
  ·have E:=Lib.hid (qxvz s st k hlt hk0)
   have L:=Lib.hid (qxf9 s st k (by omega))
   generalize (s.data.toList.take k).drop st=l at E L
   go_wp2
   go_round
   case rel=>exact⟨k+1,by omega,by omega,by go_num,by rw[qmf9 _ _ L.out,E.out,q4zn]⟩
   case measure=>simp[intOf];omega
  ·obtain rfl:k=s.size:=by omega
   go_wp2
   go_ret
   exact⟨rfl,rfl⟩
theorem q2jg(s:ByteArray)(w:World)(hm:s.size≤9223372036854775807) :
 Calls Tryz.prog 102 #[.string s] w fun e w'=>e = .returned (.int .u64 (qf3l s))∧w=w':=by
 by_cases h:s.size≤8
 ·exact qtwb s w h
 ·exact q10g s (s.size - 8) w (by omega) (by omega) hm
def qcxt(s:ByteArray)(i:Nat)(e:Int):Array Value:=#[.string s,.int .i64 i,.int .i64 e]
def Ref(w:World)(b:Nat)(s:ByteArray)(i:Nat)(e:Int):Prop:=w.heap[b]? = some (.cells (qcxt s i e) 100 (0,0))
section
variable{w w':World}{b:Nat}{s:ByteArray}{i:Nat}{e:Int}
theorem Ref.lt(h:Ref w b s i e):b < w.heap.size:=lt_of_block h
theorem Ref.cell(h:Ref w b s i e)(j:Nat):w.cell? ⟨b,j,none⟩=(qcxt s i e)[j]? := cell_of_row w b j _ _ (0,0) h
theorem Ref.c0(h:Ref w b s i e):w.cell? ⟨b,0,none⟩=some (.string s):=h.cell 0
theorem Ref.c1(h:Ref w b s i e):w.cell? ⟨b,1,none⟩=some (.int .i64 i):=h.cell 1
theorem Ref.c2(h:Ref w b s i e):w.cell? ⟨b,2,none⟩=some (.int .i64 e):=h.cell 2
theorem Ref.fr(h:Ref w b s i e)(j:Nat):w.frozen? ⟨b,j,none⟩=false:=by unfold Ref at h;simp[World.frozen?,h]
theorem Ref.draws(h:Ref w b s i e)(n:Nat):Ref (w.drewN n) b s i e:=h
theorem Ref.of_block(h:Ref w b s i e)(hb:w'.heap[b]? = w.heap[b]?):Ref w' b s i e:=hb.trans h
theorem Ref.to(h:Ref w b s i e)(k:Nat):Ref (w.setCell ⟨b,1,none⟩ (.int .i64 k)) b s k e:=qlvy h 1 _
theorem Ref.fail(h:Ref w b s i e)(f:Int):Ref (w.setCell ⟨b,2,none⟩ (.int .i64 f)) b s i f:=qlvy h 2 _
end
theorem qvbz(s:ByteArray)(w:World) :
 Calls Tryz.prog 35 #[.string s] w fun e w'=>e = .returned (.pointer (some ⟨w.heap.size,0,none⟩))∧Ref w' w.heap.size s 0 0∧Below w.heap.size w w':=by
 go_enter Tryz.func35,Tryz.ntmps35
 go_wp2
 go_ret
 exact⟨rfl,heap_alloc_new w _,(Below.refl _ _).alloc (Nat.le_refl _) _⟩
theorem qv27{w:World}{b:Nat}{s:ByteArray}{i:Nat}{e:Int}(hc:Ref w b s i e)(hi:i≤s.size) :
 Calls Tryz.prog 60 #[.pointer (some ⟨b,0,none⟩)] w fun e' w'=>e' = .returned (.string (s.extract i s.size))∧∃n,w'=w.drewN n:=by
 have h1:=hc.c0
 have h2:=hc.c1
 go_enter Tryz.func60,Tryz.ntmps60
 go_wp2
 go_quiet (fail)
 go_wp2
 go_ret
 exact⟨rfl,_,rfl⟩
theorem qr1r{w:World}{b:Nat}{s:ByteArray}{i:Nat}{e:Int}(hc:Ref w b s i e)(hi:i≤s.size)(hm:s.size≤9223372036854775807) :
 Calls Tryz.prog 59 #[.pointer (some ⟨b,0,none⟩)] w fun e' w'=>e' = .returned (.int .i64 ((s.size - i:Nat):Int))∧∃n,w'=w.drewN n:=by
 have h1:=hc.c0
 have h2:=hc.c1
 have E:=Lib.hid (show(s.size:Int) - i=((s.size - i:Nat):Int) by omega)
 go_enter Tryz.func59,Tryz.ntmps59
 go_wp2
 go_quiet (fail)
 go_wp2
 go_ret
 exact⟨by rw[←E.out];rfl,_,rfl⟩
theorem qmbz{w:World}{b:Nat}{s:ByteArray}{i:Nat}(f:Int)(hc:Ref w b s i 0) :
 Calls Tryz.prog 63 #[.pointer (some ⟨b,0,none⟩),.int .i64 f] w fun e' w'=>e' = .returned (.tuple #[])∧Ref w' b s i f∧w.grownBy w' (some b):=by
 have h3:=hc.c2
 have f3:=hc.fr 2
 go_enter Tryz.func63,Tryz.ntmps63
 go_wp2
 go_end0
 exact⟨rfl,hc.fail f,q99v _ _ _ _⟩
theorem qcy9{w:World}{b:Nat}{s:ByteArray}{i:Nat}{e:Int}(f:Int)(hc:Ref w b s i e)(he:(e==0)=false) :
 Calls Tryz.prog 63 #[.pointer (some ⟨b,0,none⟩),.int .i64 f] w fun e' w'=>e' = .returned (.tuple #[])∧w=w':=by
 have h3:=hc.c2
 go_enter Tryz.func63,Tryz.ntmps63
 go_wp2
 go_end0
 exact⟨rfl,rfl⟩
theorem q2t9{w:World}{b:Nat}{s:ByteArray}{i:Nat}(n:Nat)(hc:Ref w b s i 0)(hi:i+n≤s.size)(hm:s.size≤9223372036854775807) :
 Calls Tryz.prog 127 #[.pointer (some ⟨b,0,none⟩),.int .i64 n] w fun e' w'=>e' = .returned (.string (s.extract i (i+n)))∧∃k,w'=w.drewN k:=by
 have h0:decide ((n:Int) < 0)=false:=by simp
 have h4:decide ((s.size:Int) - i < n)=false:=by simp;omega
 have h1:=hc.c0
 have h2:=hc.c1
 have h3:=hc.c2
 go_enter Tryz.func127,Tryz.ntmps127
 go_wp2
 go_quiet (fail)
 go_wp2
 go_quiet (fail)
 go_wp2
 go_ret
 exact⟨rfl,_,World.drewN_drewN _ _ _⟩
theorem qikz{w:World}{b:Nat}{s:ByteArray}{i:Nat}{e:Int}(n:Int)(hc:Ref w b s i e)(he:(e==0)=false) :
 Calls Tryz.prog 127 #[.pointer (some ⟨b,0,none⟩),.int .i64 n] w fun e' w'=>e' = .returned (.string ⟨#[]⟩)∧∃k,w'=w.drewN k:=by
 have he':(e != 0)=true:=by simp_all
 have h3:=hc.c2
 go_enter Tryz.func127,Tryz.ntmps127
 go_wp2
 go_quiet (fail)
 go_wp2
 go_ret
 exact⟨rfl,_,rfl⟩
theorem qdx0{w:World}{b:Nat}{s:ByteArray}{i:Nat}(n:Nat)(hc:Ref w b s i 0)(hi:i+n≤s.size)(hm:s.size≤9223372036854775807) :
 Calls Tryz.prog 103 #[.pointer (some ⟨b,0,none⟩),.int .i64 n] w fun e' w'=>e' = .returned (.string (s.extract i (i+n)))∧Ref w' b s (i+n) 0∧w.grownBy w' (some b):=by
 have h0:decide ((n:Int) < 0)=false:=by simp
 have h4:decide ((s.size:Int) - i < n)=false:=by simp;omega
 have h1:=hc.c0
 have h2:=hc.c1
 have h3:=hc.c2
 have f2:=hc.fr 1
 have hz:((s.extract i (i+n)).size:Int)=n:=by simp;omega
 go_enter Tryz.func103,Tryz.ntmps103
 go_wp2
 go_quiet (fail)
 go_wp2_with (go_at_call 127;refine(q2t9 n (hc.draws _) hi hm).mono ?_;rintro e' w' ⟨rfl,k,rfl⟩)
 go_ret
 exact⟨rfl,(hc.draws _).to (i+n),qgju (q99v _ _ _ _)⟩
theorem qyu5{w:World}{b:Nat}{s:ByteArray}{i:Nat}{e:Int}(n:Int)(hc:Ref w b s i e)(he:(e==0)=false)(hi:i≤s.size)(hm:s.size≤9223372036854775807) :
 Calls Tryz.prog 103 #[.pointer (some ⟨b,0,none⟩),.int .i64 n] w fun e' w'=>e' = .returned (.string ⟨#[]⟩)∧Ref w' b s i e∧w.grownBy w' (some b):=by
 have h2:=hc.c1
 have h3:=hc.c2
 have f2:=hc.fr 1
 go_enter Tryz.func103,Tryz.ntmps103
 go_wp2
 go_quiet (fail)
 go_wp2_with (go_at_call 127;refine(qikz n (hc.draws _) he).mono ?_;rintro e' w' ⟨rfl,k,rfl⟩)
 go_ret
 exact⟨rfl,(hc.draws _).to i,qgju (q99v _ _ _ _)⟩
theorem qytc7{w:World}{b:Nat}{s:ByteArray}{i:Nat}(n:Int)(hc:Ref w b s i 0)(hn:n < 0)(hi:i≤s.size)(hm:s.size≤9223372036854775807) :
 Calls Tryz.prog 103 #[.pointer (some ⟨b,0,none⟩),.int .i64 n] w fun e' w'=>e' = .returned (.string ⟨#[]⟩)∧Ref w' b s i 3∧w.grownBy w' (some b):=by
 have h0:decide (n < 0)=true:=by simp;omega
 have h2:=hc.c1
 have h3:=hc.c2
 have f2:=hc.fr 1
 have f3:=hc.fr 2
 go_enter Tryz.func103,Tryz.ntmps103
 go_wp2
 go_quiet (fail)
 go_wp2_with (go_at_call 127;refine(qikz n ((hc.draws _).fail 3) (by decide)).mono ?_;rintro e' w' ⟨rfl,k,rfl⟩)
 go_ret
 exact⟨rfl,(((hc.draws _).fail 3).draws _).to i,qgju (qo6d (q99v _ _ _ _) (qgju (q99v _ _ _ _)))⟩
theorem qcli{w:World}{b:Nat}{s:ByteArray}{i:Nat}(n:Int)(hc:Ref w b s i 0)(hi:i≤s.size)(hm:s.size≤9223372036854775807)(hn:((s.size - i:Nat):Int) < n) :
 Calls Tryz.prog 103 #[.pointer (some ⟨b,0,none⟩),.int .i64 n] w fun e' w'=>e' = .returned (.string ⟨#[]⟩)∧Ref w' b s i 3∧w.grownBy w' (some b):=by
 have h0:decide (n < 0)=false:=by simp;omega
 have h4:decide ((s.size:Int) - i < n)=true:=by simp;omega
 have h1:=hc.c0
 have h2:=hc.c1
 have h3:=hc.c2
 have f2:=hc.fr 1
 have f3:=hc.fr 2
 go_enter Tryz.func103,Tryz.ntmps103
 go_wp2
 go_quiet (fail)
 go_wp2_with (go_at_call 127;refine(qikz n ((hc.draws _).fail 3) (by decide)).mono ?_;rintro e' w' ⟨rfl,k,rfl⟩)
 go_ret
 exact⟨rfl,(((hc.draws _).fail 3).draws _).to i,qgju (qo6d (q99v _ _ _ _) (qgju (q99v _ _ _ _)))⟩
def fits(s:ByteArray)(i:Nat)(e z:Int):Bool:=e==0&&(decide (0≤z)&&decide (z≤((s.size - i:Nat):Int)))
def tk(s:ByteArray)(i:Nat)(e z:Int):ByteArray:=bif fits s i e z then s.extract i (i+z.toNat) else⟨#[]⟩
def ti(s:ByteArray)(i:Nat)(e z:Int):Nat:=bif fits s i e z then i+z.toNat else i
def te(s:ByteArray)(i:Nat)(e z:Int):Int:=bif (e==0&&!fits s i e z) then 3 else e
def fe(e f:Int):Int:=bif e==0 then f else e
theorem qqbf(s:ByteArray)(i:Nat)(e z:Int)(hi:i≤s.size) :
 ((e==0)=false∧tk s i e z=⟨#[]⟩∧ti s i e z=i∧te s i e z=e)∨
 (e=0∧z < 0∧tk s i e z=⟨#[]⟩∧ti s i e z=i∧te s i e z=3)∨
 (e=0∧((s.size - i:Nat):Int) < z∧tk s i e z=⟨#[]⟩∧ti s i e z=i∧te s i e z=3)∨
 (∃m:Nat,e=0∧z=m∧i+m≤s.size∧tk s i e z=s.extract i (i+m)∧ti s i e z=i+m∧te s i e z=0):=by
 by_cases he:e=0
 ·subst he
  by_cases h0:z < 0
  ·have hf:fits s i 0 z=false:=by simp[fits];omega
   exact .inr (.inl ⟨rfl,h0,by simp[tk,hf],by simp[ti,hf],by simp[te,hf]⟩)
  by_cases h1:((s.size - i:Nat):Int) < z
  ·have hf:fits s i 0 z=false:=by simp[fits];omega
   exact .inr (.inr (.inl ⟨rfl,h1,by simp[tk,hf],by simp[ti,hf],by simp[te,hf]⟩))
  ·obtain⟨m,rfl⟩:=Int.eq_ofNat_of_zero_le (show 0≤z by omega)
   have hf:fits s i 0 (m:Int)=true:=by simp[fits];omega
   exact .inr (.inr (.inr ⟨m,rfl,rfl,by omega,by simp[tk,hf],by simp[ti,hf],by simp[te,hf]⟩))
 ·have hb:(e==0)=false:=by simpa using he
  have hf:fits s i e z=false:=by simp[fits,hb]
  exact .inl ⟨hb,by simp[tk,hf],by simp[ti,hf],by simp[te,hf,hb]⟩
theorem qqc6(s:ByteArray)(i:Nat)(e z:Int)(hi:i≤s.size):ti s i e z≤s.size:=by
 rcases qqbf s i e z hi with ⟨_,_,h,_⟩ | ⟨_,_,_,h,_⟩ | ⟨_,_,_,h,_⟩ | ⟨m,_,_,hm,_,h,_⟩<;>omega
theorem qmxh{w:World}{b:Nat}{s:ByteArray}{i:Nat}{e:Int}(z:Int)(hc:Ref w b s i e)(hi:i≤s.size)(hm:s.size≤9223372036854775807) :
 Calls Tryz.prog 103 #[.pointer (some ⟨b,0,none⟩),.int .i64 z] w fun e' w'=>e' = .returned (.string (tk s i e z))∧Ref w' b s (ti s i e z) (te s i e z)∧w.grownBy w' (some b):=by
 rcases qqbf s i e z hi with ⟨h,h1,h2,h3⟩ | ⟨rfl,h,h1,h2,h3⟩ | ⟨rfl,h,h1,h2,h3⟩ | ⟨m,rfl,rfl,h,h1,h2,h3⟩<;>rw[h1,h2,h3]
 ·exact qyu5 z hc h hi hm
 ·exact qytc7 z hc h hi hm
 ·exact qcli z hc hi hm h
 ·exact qdx0 m hc h hm
theorem quje{w:World}{b:Nat}{s:ByteArray}{i:Nat}{e:Int}(z:Int)(hc:Ref w b s i e)(hi:i≤s.size)(hm:s.size≤9223372036854775807) :
 Calls Tryz.prog 61 #[.pointer (some ⟨b,0,none⟩),.int .i64 z] w fun e' w'=>e' = .returned (.int .u64 (qf3l (tk s i e z)))∧Ref w' b s (ti s i e z) (te s i e z)∧w.grownBy w' (some b):=by
 have hz:(tk s i e z).size≤9223372036854775807:=by
  rcases qqbf s i e z hi with ⟨_,h,_⟩ | ⟨_,_,h,_⟩ | ⟨_,_,h,_⟩ | ⟨m,_,_,_,h,_⟩<;>rw[h]
  ·decide
  ·decide
  ·decide
  ·simp;omega
 go_enter Tryz.func61,Tryz.ntmps61
 go_wp2_with (first
  | (go_at_call 103;refine(qmxh z hc hi hm).mono ?_;rintro e' w' ⟨rfl,hc',hg⟩)
  | (go_at_call 102;refine(q2jg _ _ hz).mono ?_;rintro e' w' ⟨rfl,rfl⟩))
 go_ret
 exact⟨rfl,hc',hg⟩
theorem qi5e{w:World}{b:Nat}{s:ByteArray}{i:Nat}{e:Int}(f:Int)(hc:Ref w b s i e) :
 Calls Tryz.prog 63 #[.pointer (some ⟨b,0,none⟩),.int .i64 f] w fun e' w'=>e' = .returned (.tuple #[])∧Ref w' b s i (fe e f)∧w.grownBy w' (some b):=by
 by_cases he:e=0
 ·subst he
  exact qmbz f hc
 ·have hb:(e==0)=false:=by simpa using he
  have h1:fe e f=e:=by simp[fe,hb]
  rw[h1]
  exact(qcy9 f hc hb).mono fun _ _ ⟨a,c⟩=>⟨a,c▸hc,c▸World.grownBy.refl w _⟩
end Go.Proofs.YtbklidpadffpgaaGreat
