/- The contract of octet.Get. No condition but the length of a string. -/
import Derived.Lib.IndexBytes
import Derived.Test.YtefmhbioggcfaaaGreatDoorK04
set_option maxHeartbeats 400000
namespace Go.Proofs.YtefmhbioggcfaaaGreatDoor
open Proofs.Tryz
open Go.RowKit
theorem qmf9(a:Nat)(b:UInt8)(ha:a<72057594037927936) :
 bits BinOp.or IntKind.u64 (IntKind.u64.wrap ((a:Int)*256)) (IntKind.u64.wrap (b.toNat:Int))=((a*256+b.toNat:Nat):Int):=by
 have hb:=b.toNat_lt;have e1:IntKind.u64.wrap ((a:Int)*256)=((a*256:Nat):Int):=by simp only[IntKind.wrap_u64];omega
 have e2:IntKind.u64.wrap (b.toNat:Int)=((b.toNat:Nat):Int):=by simp only[IntKind.wrap_u64];omega
 rw[e1,e2,bits_or_u64_nat _ _ (by omega) (by omega)]
 congr 1
 rw[Nat.mul_comm a 256];exact(Nat.two_pow_add_eq_or_of_lt (i:=8) (by omega) a).symm
theorem q2r7(s:ByteArray)(k:Nat)(hk:k<8):num (s.data.toList.take k)<72057594037927936:=by
 have h:=qn9h (s.data.toList.take k);have hl:(s.data.toList.take k).length<=7:=by simp;omega
 have:=Nat.pow_le_pow_right (show 0<256 by decide) hl
 omega
theorem qsf1(s:ByteArray)(w:World)(hs:s.size<=8) :
 Calls prog 52 #[.string s] w fun e w'=>e=.returned (.int .u64 (num s.data.toList))/\w=w':=by
 go_in;go_wp2
 go_loop [4,14] (fun v i=>∃k:Nat,k<=s.size/\i=.int .i64 k/\v=.int .u64 (num (s.data.toList.take k))) (fun _ i=>s.size-(intOf i).toNat)
 case atStart=>exact⟨0,Nat.zero_le _,rfl,rfl⟩
 case round=>
  obtain⟨k,hk,rfl,rfl⟩:=hrel;by_cases hlt:k<s.size
  ·go_wp2
   go_round
   case rel=>exact⟨k+1,by omega,by go_num,by rw[qmf9 _ _ (q2r7 s k (by omega)),qphn s k hlt,q4zn]⟩
   case measure=>simp[intOf];omega
  ·obtain rfl:k=s.size:=by omega
   have e:s.data.toList.take s.size=s.data.toList:=List.take_of_length_le (by simp);go_wp2;go_ret;exact⟨rfl,rfl⟩
theorem qce0(s:ByteArray)(w:World)(hs:8<s.size)(hm:s.size<=9223372036854775807) :
 Calls prog 52 #[.string s] w fun e w'=>e=.returned (.int .u64 (num (s.data.toList.drop (s.size-8))))/\w=w':=by
 go_in;go_wp2;have e8:s.size-(s.size-8)=8:=by omega
 have ht:(s.extract (s.size-8) s.size).size=8:=by simp;omega
 have hd:(s.extract (s.size-8) s.size).data.toList=s.data.toList.drop (s.size-8):=Lib.extract_to_end s _;rw[e8,show((8:Nat):Int)=8 from rfl];generalize s.extract (s.size-8) s.size=t at ht hd;have HD:=Lib.hid hd;clear hd e8;have Hk:∀k,k<8->k<t.size:=fun k h=>by omega
 have HT:=Lib.hid ht;clear ht
 go_loop [4,14] (fun v i=>∃k:Nat,k<=8/\i=.int .i64 k/\v=.int .u64 (num (t.data.toList.take k))) (fun _ i=>8-(intOf i).toNat)
 case atStart=>exact⟨0,Nat.zero_le _,rfl,rfl⟩
 case round=>
  obtain⟨k,hk,rfl,rfl⟩:=hrel;by_cases hlt:k<8
  ·have hkt:=Hk k hlt;clear Hk;go_wp2
   go_round
   case rel=>exact⟨k+1,by omega,by go_num,by rw[qmf9 _ _ (q2r7 t k (by omega)),qphn t k hkt,q4zn]⟩
   case measure=>simp[intOf];omega
  ·obtain rfl:k=8:=by omega
   have e:t.data.toList.take 8=t.data.toList:=List.take_of_length_le (by have:=HT.out;simpa using Nat.le_of_eq this);clear Hk;go_wp2;go_ret;exact⟨by rw[HD.out];rfl,rfl⟩
theorem q102(s:ByteArray)(w:World)(hm:s.size<=9223372036854775807) :
 Calls prog 52 #[.string s] w fun e w'=>e=.returned (.int .u64 (num (s.data.toList.drop (s.size-8))))/\w=w':=by
 by_cases h:s.size<=8
 ·have e:s.size-8=0:=by omega
  rw[e];exact qsf1 s w h
 ·exact qce0 s w (by omega) hm
def qqr9(b:Nat)(s:ByteArray)(i:Nat)(e:Int):Array Value:=#[.pointer (some ⟨b,0,none⟩),.string s,.int .i64 i,.int .i64 e]
def Cur(w:World)(b:Nat)(s:ByteArray)(i:Nat)(e:Int):Prop:=w.heap[b]?=some (.cells (qqr9 b s i e) 109 (0,0))
section
variable{w w':World}{b:Nat}{s:ByteArray}{i:Nat}{e:Int}
theorem Cur.lt(h:Cur w b s i e):b<w.heap.size:=lt_of_block h
theorem Cur.cell(h:Cur w b s i e)(j:Nat):w.cell? ⟨b,j,none⟩=(qqr9 b s i e)[j]? := cell_of_row w b j _ _ (0,0) h
theorem Cur.c0(h:Cur w b s i e):w.cell? ⟨b,0,none⟩=some (.pointer (some ⟨b,0,none⟩)):=h.cell 0
theorem Cur.c1(h:Cur w b s i e):w.cell? ⟨b,1,none⟩=some (.string s):=h.cell 1
theorem Cur.c2(h:Cur w b s i e):w.cell? ⟨b,2,none⟩=some (.int .i64 i):=h.cell 2
theorem Cur.c3(h:Cur w b s i e):w.cell? ⟨b,3,none⟩=some (.int .i64 e):=h.cell 3
theorem Cur.fr(h:Cur w b s i e)(j:Nat):w.frozen? ⟨b,j,none⟩=false:=by unfold Cur at h;simp[World.frozen?,h]
theorem Cur.draws(h:Cur w b s i e)(n:Nat):Cur (w.drewN n) b s i e:=h
theorem Cur.of_block(h:Cur w b s i e)(hb:w'.heap[b]?=w.heap[b]?):Cur w' b s i e:=hb.trans h
theorem Cur.to(h:Cur w b s i e)(k:Nat):Cur (w.setCell ⟨b,2,none⟩ (.int .i64 k)) b s k e:=qlvy h 2 _
theorem Cur.fail(h:Cur w b s i e)(f:Int):Cur (w.setCell ⟨b,3,none⟩ (.int .i64 f)) b s i f:=qlvy h 3 _
end
theorem qi1b:∃j,prog.info? 109=some j:=Option.isSome_iff_exists.1 (by kernel_rfl)
theorem ql0o{w:World}{b:Nat}{s:ByteArray}{i:Nat}{e:Int}(hc:Cur w b s i e) :
 Calls prog 54 #[.pointer (some ⟨b,0,none⟩)] w fun e w'=>e=.returned (.bool true)/\w=w':=by
 obtain⟨j,hj⟩:=qi1b;have heq:=fun W:World=>run_eql_ptr_same (P:=prog) W ⟨b,0,none⟩ underlying84 hj;have h0:=hc.c0;clear hj;go_in;go_wp2;go_ret;exact⟨rfl,rfl⟩
theorem q2gu(s:ByteArray)(w:World) :
 Calls prog 40 #[.string s] w fun e w'=>e=.returned (.pointer (some ⟨w.heap.size,0,none⟩))/\Cur w' w.heap.size s 0 0/\Below w.heap.size w w'/\w'.heap.size=w.heap.size+1:=by
 go_in;go_wp2;go_ret;exact⟨rfl,heap_alloc_new w _,(Below.refl _ _).alloc (Nat.le_refl _) _,by simp⟩
theorem q29p{w:World}{b:Nat}{s:ByteArray}{i:Nat}{e:Int}(hc:Cur w b s i e) :
 Calls prog 42 #[.pointer (some ⟨b,0,none⟩)] w fun e' w'=>e'=.returned (.int .i64 e)/\w=w':=by
 have h3:=hc.c3;go_in;go_wp2_with (go_at_call 54;refine(ql0o hc).mono ?_;rintro e' w' ⟨rfl,rfl⟩);go_ret;exact⟨rfl,rfl⟩
theorem qdvc{w:World}{b:Nat}{s:ByteArray}{i:Nat}{e:Int}(hc:Cur w b s i e)(hi:i<=s.size)(_:s.size<=9223372036854775807) :
 Calls prog 45 #[.pointer (some ⟨b,0,none⟩)] w fun e' w'=>e'=.returned (.string (s.extract i s.size))/\∃n,w'=w.drewN n:=by
 have h1:=hc.c1;have h2:=hc.c2;go_in;go_wp2_with (go_at_call 54;refine(ql0o hc).mono ?_;rintro e' w' ⟨rfl,rfl⟩);go_quiet (fail);go_wp2;go_ret;exact⟨rfl,_,rfl⟩
theorem qxdm{w:World}{b:Nat}{s:ByteArray}{i:Nat}(f:Int)(hc:Cur w b s i 0) :
 Calls prog 85 #[.pointer (some ⟨b,0,none⟩),.int .i64 f] w fun e' w'=>e'=.returned (.tuple #[])/\Cur w' b s i f/\w.grownBy w' (some b):=by
 have h3:=hc.c3;have f3:=hc.fr 3;go_in;go_wp2_with (go_at_call 54;refine(ql0o hc).mono ?_;rintro e' w' ⟨rfl,rfl⟩)
 go_end0
 exact⟨rfl,hc.fail f,q99v _ _ _ _⟩
theorem fail_no{w:World}{b:Nat}{s:ByteArray}{i:Nat}{e:Int}(f:Int)(hc:Cur w b s i e)(he:(e==0)=false) :
 Calls prog 85 #[.pointer (some ⟨b,0,none⟩),.int .i64 f] w fun e' w'=>e'=.returned (.tuple #[])/\w=w':=by
 have h3:=hc.c3;go_in;go_wp2_with (go_at_call 54;refine(ql0o hc).mono ?_;rintro e' w' ⟨rfl,rfl⟩)
 go_end0
 exact⟨rfl,rfl⟩
theorem qog8{w:World}{b:Nat}{s:ByteArray}{i:Nat}{e:Int}(hc:Cur w b s i e)(hi:i<=s.size)(hm:s.size<=9223372036854775807) :
 Calls prog 84 #[.pointer (some ⟨b,0,none⟩)] w fun e' w'=>e'=.returned (.int .i64 ((s.size-i:Nat):Int))/\∃n,w'=w.drewN n:=by
 go_in;go_wp2_with (go_at_call 45;refine(qdvc hc hi hm).mono ?_;rintro e' w' ⟨rfl,n,rfl⟩);go_ret;exact⟨by congr 2,_,rfl⟩
theorem q95z{w:World}{b:Nat}{s:ByteArray}{i:Nat}{e:Int}(n:Int)(hc:Cur w b s i e)(he:(e==0)=false) :
 Calls prog 53 #[.pointer (some ⟨b,0,none⟩),.int .i64 n] w fun e' w'=>e'=.returned (.string ⟨#[]⟩)/\w=w':=by
 have he':(e != 0)=true:=by simp_all
 go_in;go_wp2_with (go_at_call 42;refine(q29p hc).mono ?_;rintro e' w' ⟨rfl,rfl⟩);go_ret;exact⟨rfl,rfl⟩
theorem ql8f{w:World}{b:Nat}{s:ByteArray}{i:Nat}(n:Int)(hc:Cur w b s i 0)(hi:i<=s.size)(hm:s.size<=9223372036854775807)(hn:((s.size-i:Nat):Int)<n) :
 Calls prog 53 #[.pointer (some ⟨b,0,none⟩),.int .i64 n] w fun e' w'=>e'=.returned (.string ⟨#[]⟩)/\Cur w' b s i 3/\w.grownBy w' (some b):=by
 have h0:¬n<0:=by omega
 go_in;go_wp2_with (first
  |(go_at_call 42;refine(q29p hc).mono ?_;rintro e' w' ⟨rfl,rfl⟩)
  |(go_at_call 84;refine(qog8 hc hi hm).mono ?_;rintro e' w' ⟨rfl,nq,rfl⟩)
  |(go_at_call 85;refine(qxdm _ (hc.draws nq)).mono ?_;rintro e' w' ⟨rfl,hc',hg⟩))
 go_ret;exact⟨rfl,hc',qgju hg⟩
theorem qpai{w:World}{b:Nat}{s:ByteArray}{i:Nat}(n:Nat)(hc:Cur w b s i 0)(hi:i+n<=s.size)(hm:s.size<=9223372036854775807) :
 Calls prog 53 #[.pointer (some ⟨b,0,none⟩),.int .i64 n] w fun e' w'=>e'=.returned (.string (s.extract i (i+n)))/\Cur w' b s (i+n) 0/\w.grownBy w' (some b):=by
 have hn:¬((s.size-i:Nat):Int)<(n:Int):=by omega
 have h1:=hc.c1;have h2:=hc.c2;have f2:=hc.fr 2;go_in;go_wp2_with (first
  |(go_at_call 42;refine(q29p hc).mono ?_;rintro e' w' ⟨rfl,rfl⟩)
  |(go_at_call 84;refine(qog8 hc (by omega) hm).mono ?_;rintro e' w' ⟨rfl,nq,rfl⟩))
 go_quiet (fail);go_wp2;go_ret;exact⟨rfl,(hc.draws _).to (i+n),qgju (q99v _ _ _ _)⟩
def qf3l(s:ByteArray):Nat:=num (s.data.toList.drop (s.size-8))
theorem qnm5(s:ByteArray)(w:World)(hm:s.size<=9223372036854775807) :
 Calls prog 52 #[.string s] w fun e w'=>e=.returned (.int .u64 (qf3l s))/\w=w':=q102 s w hm
theorem q2vo:qf3l ⟨#[]⟩=0:=by decide
theorem qvi6{w:World}{b:Nat}{s:ByteArray}{i:Nat}(n:Nat)(hc:Cur w b s i 0)(hi:i+n<=s.size)(hm:s.size<=9223372036854775807) :
 Calls prog 41 #[.pointer (some ⟨b,0,none⟩),.int .i64 n] w fun e' w'=>e'=.returned (.int .u64 (qf3l (s.extract i (i+n))))/\Cur w' b s (i+n) 0/\w.grownBy w' (some b):=by
 go_in;go_wp2_with (first
  |(go_at_call 53;refine(qpai n hc hi hm).mono ?_;rintro e' w' ⟨rfl,hc',hg⟩)
  |(go_at_call 52;refine(qnm5 _ _ (by simp;omega)).mono ?_;rintro e' w' ⟨rfl,rfl⟩))
 go_ret;exact⟨rfl,hc',hg⟩
theorem qgl9{w:World}{b:Nat}{s:ByteArray}{i:Nat}{e:Int}(n:Int)(hc:Cur w b s i e)(he:(e==0)=false) :
 Calls prog 41 #[.pointer (some ⟨b,0,none⟩),.int .i64 n] w fun e' w'=>e'=.returned (.int .u64 0)/\w=w':=by
 go_in;go_wp2_with (first
  |(go_at_call 53;refine(q95z n hc he).mono ?_;rintro e' w' ⟨rfl,rfl⟩)
  |(go_at_call 52;refine(qnm5 _ _ (by decide)).mono ?_;rw[q2vo];rintro e' w' ⟨rfl,rfl⟩))
 go_ret;exact⟨rfl,rfl⟩
theorem q6bm{w:World}{b:Nat}{s:ByteArray}{i:Nat}(n:Int)(hc:Cur w b s i 0)(hi:i<=s.size)(hm:s.size<=9223372036854775807)(hn:((s.size-i:Nat):Int)<n) :
 Calls prog 41 #[.pointer (some ⟨b,0,none⟩),.int .i64 n] w fun e' w'=>e'=.returned (.int .u64 0)/\Cur w' b s i 3/\w.grownBy w' (some b):=by
 go_in;go_wp2_with (first
  |(go_at_call 53;refine(ql8f n hc hi hm hn).mono ?_;rintro e' w' ⟨rfl,hc',hg⟩)
  |(go_at_call 52;refine(qnm5 _ _ (by decide)).mono ?_;rw[q2vo];rintro e' w' ⟨rfl,rfl⟩))
 go_ret;exact⟨rfl,hc',hg⟩
theorem qs8e{w:World}{b:Nat}{s:ByteArray}{i:Nat}{e:Int}(hc:Cur w b s i e) :
 Calls prog 241 #[.pointer (some ⟨b,0,none⟩)] w fun e' w'=>e'=.returned (.int .i64 i)/\w=w':=by
 have h2:=hc.c2;go_in;go_wp2_with (go_at_call 54;refine(ql0o hc).mono ?_;rintro e' w' ⟨rfl,rfl⟩);go_ret;exact⟨rfl,rfl⟩
def St(w W:World)(B:Nat)(s:ByteArray)(i:Nat)(e:Int):Prop:=Below w.heap.size w W/\w.heap.size<=B/\Cur W B s i e
section
variable{w W W':World}{B D:Nat}{s t:ByteArray}{i i' j j':Nat}{e e2 f f2:Int}{g:FuncId}{args:Array Value}{v v':Value}
theorem St.draws(h:St w W B s i e)(n:Nat):St w (W.drewN n) B s i e:=⟨qnpu h.1 n,h.2.1,h.2.2.draws n⟩
theorem St.step(h:St w W B s i e)(hc:Cur W' B s i' e2)(hg:W.grownBy W' (some B)):St w W' B s i' e2:=
 ⟨h.1.grown hg h.1.size (fun k hk=>by cases hk;exact h.2.1),h.2.1,hc⟩
theorem St.other(h:St w W B s i e)(hD:w.heap.size<=D)(hne:B≠D)(hg:W.grownBy W' (some D)):St w W' B s i e:=
 ⟨h.1.grown hg h.1.size (fun k hk=>by cases hk;exact hD),h.2.1,h.2.2.of_block (hg.block B h.2.2.lt (fun e=>hne (by injection e)))⟩
theorem St.below(h:St w W B s i e)(hb:Below W.heap.size W W'):St w W' B s i e:=
 ⟨h.1.trans (hb.mono h.1.size),h.2.1,h.2.2.of_block (hb.block B h.2.2.lt)⟩
theorem qc5i(h:Below w.heap.size w W)(s:ByteArray):Calls prog 40 #[.string s] W fun e W'=>∃B,e=.returned (.pointer (some ⟨B,0,none⟩))/\St w W' B s 0 0:=
 (q2gu s W).mono fun _ _ ⟨he,hc,hb,_⟩=>⟨_,he,h.trans (hb.mono h.size),h.size,hc⟩
theorem q6bk(h:St w W B s i e)(hv:v=v')(hcall:Calls prog g args W fun e' W'=>e'=.returned v/\Cur W' B s i' e2/\W.grownBy W' (some B)) :
 Calls prog g args W fun e' W'=>e'=.returned v'/\St w W' B s i' e2:=hcall.mono fun _ _ ⟨he,hc,hg⟩=>⟨hv▸he,h.step hc hg⟩
theorem qdc6(h:St w W B s i e)(hv:v=v')(hcall:Calls prog g args W fun e' W'=>e'=.returned v/\W=W') :
 Calls prog g args W fun e' W'=>e'=.returned v'/\St w W' B s i e:=hcall.mono fun _ _ ⟨he,hw⟩=>⟨hv▸he,hw▸h⟩
end
theorem q64u{w:World}{b:Nat}{s:ByteArray}{i:Nat}(n:Nat)(hc:Cur w b s i 0)(hi:i+n<=s.size)(hm:s.size<=9223372036854775807) :
 Calls prog 254 #[.pointer (some ⟨b,0,none⟩),.int .i64 n] w fun e' w'=>e'=.returned (.string (s.extract i (i+n)))/\∃k,w'=w.drewN k:=by
 have hn:¬((s.size-i:Nat):Int)<(n:Int):=by omega
 have h1:=hc.c1;have h2:=hc.c2;go_in;go_wp2_with (first
  |(go_at_call 42;refine(q29p hc).mono ?_;rintro e' w' ⟨rfl,rfl⟩)
  |(go_at_call 84;refine(qog8 hc (by omega) hm).mono ?_;rintro e' w' ⟨rfl,nq,rfl⟩))
 go_quiet (fail);go_wp2;go_ret;exact⟨rfl,_,World.drewN_drewN _ _ _⟩
theorem qtyr{w:World}{b:Nat}{s:ByteArray}{i:Nat}{e:Int}(n:Int)(hc:Cur w b s i e)(he:(e==0)=false) :
 Calls prog 254 #[.pointer (some ⟨b,0,none⟩),.int .i64 n] w fun e' w'=>e'=.returned (.string ⟨#[]⟩)/\∃k,w'=w.drewN k:=by
 have he':(e != 0)=true:=by simp_all
 go_in;go_wp2_with (go_at_call 42;refine(q29p hc).mono ?_;rintro e' w' ⟨rfl,rfl⟩);go_ret;exact⟨rfl,0,rfl⟩
end Go.Proofs.YtefmhbioggcfaaaGreatDoor
