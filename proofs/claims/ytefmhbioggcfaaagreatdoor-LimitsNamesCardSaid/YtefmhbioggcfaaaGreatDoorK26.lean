/- The contracts of prop.data and prop.value: a value's bytes. Condition: the property passed its check. -/
import Derived.Test.YtefmhbioggcfaaaGreatDoorK24
import Derived.Test.YtefmhbioggcfaaaGreatDoorK25
set_option maxRecDepth 100000
namespace Go.Proofs.YtefmhbioggcfaaaGreatDoor
open Lib(hid)
open Proofs.Tryz
open Go.RowKit
theorem qtpi(l:List UInt8)(w:World)(h:l.length<=65535) :
 Calls prog 215 #[.string (bs l)] w fun e w'=>e=.returned (.string (bs (enc2 l)))/\Below w.heap.size w w':=by
 have B:=hid (show ∀W,Calls prog 153 #[.string (bs l)] W fun e w'=>e=.returned (.tuple #[.string (bs (enc2 l)),.int .i64 0])/\Below W.heap.size W w' from fun W=>qbrl (bs l) W (by rw[q5zk];exact h));clear h;go_in;go_wp2_with fail;refine(B.out _).mono ?_;rintro e w1 ⟨rfl,hb⟩;go_wp2;go_ret;exact⟨rfl,hb⟩
section
variable(p:Pr)(w:World)
theorem qmhv(hn:p.n<=268435455):Calls prog 172 #[.int .i64 4,qbhk p] w fun e w'=>e=.returned (.string (bs (vb p.n (sz p.n))))/\Below w.heap.size w w':=by
 have hB:=hid (CkS.made w 0 0 0 p);have B:=hid (fun W=>quvo p.n W hn);have hw:IntKind.i64.wrap (p.n:Int)=(p.n:Int):=by simp only[IntKind.wrap_i64];omega
 have h0:Below w.heap.size w (w.alloc (.cells #[.int .i64 p.id,.int .u32 p.n,.string (bs p.text),.string (bs p.value)] 82)):=(Below.refl _ _).alloc (Nat.le_refl _) _;have H0:=hid h0;clear hn h0;unfold qbhk;go_in;go_wp2_with fail;refine(B.out _).mono ?_;rintro e w1 ⟨rfl,hb⟩;have H1:=hid (H0.out.trans (hb.mono H0.out.size));clear hb;go_wp2;go_ret;exact⟨rfl,H1.out⟩
theorem qugk(s:Nat)(hs:s=5\/s=6)(h:p.text.length<=65535):Calls prog 172 #[.int .i64 s,qbhk p] w fun e w'=>e=.returned (.string (bs (enc2 p.text)))/\Below w.heap.size w w':=by
 have B:=hid (fun W=>qtpi p.text W h);have h0:Below w.heap.size w (w.alloc (.cells #[.int .i64 p.id,.int .u32 p.n,.string (bs p.text),.string (bs p.value)] 82)):=(Below.refl _ _).alloc (Nat.le_refl _) _;have H0:=hid h0;clear h h0;unfold qbhk;rcases hs with rfl|rfl
 ·go_in;go_wp2_with fail;refine(B.out _).mono ?_;rintro e w1 ⟨rfl,hb⟩;have H1:=hid (H0.out.trans (hb.mono H0.out.size));clear hb;go_wp2;go_ret;exact⟨rfl,H1.out⟩
 ·go_in;go_wp2_with fail;refine(B.out _).mono ?_;rintro e w1 ⟨rfl,hb⟩;have H1:=hid (H0.out.trans (hb.mono H0.out.size));clear hb;go_wp2;go_ret;exact⟨rfl,H1.out⟩
theorem qgsn(h:p.text.length<=65535)(h2:p.value.length<=65535):Calls prog 172 #[.int .i64 7,qbhk p] w fun e w'=>e=.returned (.string (bs (enc2 p.text++enc2 p.value)))/\Below w.heap.size w w':=by
 have B:=hid (fun W=>qtpi p.text W h);have B2:=hid (fun W=>qtpi p.value W h2);have h0:Below w.heap.size w (w.alloc (.cells #[.int .i64 p.id,.int .u32 p.n,.string (bs p.text),.string (bs p.value)] 82)):=(Below.refl _ _).alloc (Nat.le_refl _) _;have hS:PrS w w.heap.size p (w.alloc (.cells #[.int .i64 p.id,.int .u32 p.n,.string (bs p.text),.string (bs p.value)] 82)).drew:=PrS.mk h0.drew (qrxu.made w p);have ea:=qyv7 (enc2 p.text) (enc2 p.value);have EA:=hid ea;have hnl:¬9223372036854775807<(bs (enc2 p.text)).size+(bs (enc2 p.value)).size:=by rw[q5zk,q5zk,qnp6,qnp6];omega
 clear h h0 h2 ea;unfold qbhk;go_in;go_wp2_with fail
 go_region_held3 (fun w'=>w'.cell? ⟨w.heap.size,0,none⟩=some (.int .i64 p.id)/\w'.cell? ⟨w.heap.size,1,none⟩=some (.int .u32 p.n)/\w'.cell? ⟨w.heap.size,2,none⟩=some (.string (bs p.text))/\w'.cell? ⟨w.heap.size,3,none⟩=some (.string (bs p.value))/\(Below w.heap.size w w'/\qrxu w' w.heap.size p)) (exact hS)
  (first
   |(go_at_call 215;with_reducible refine(B.out _).mono ?_;rintro e w1 ⟨rfl,hb⟩;have hS:=hS.call hb;clear hb)
   |(go_at_call 215;with_reducible refine(B2.out _).mono ?_;rintro e w1 ⟨rfl,hb⟩;have hS:=hS.call hb;clear hb))
 all_goals have hB:=hid hS.2.2.2.2.1;clear hS;go_wp2;go_ret;exact⟨by rw[<-EA.out];rfl,hB.out⟩
theorem quhs(s c:Nat)(hs:(s=1/\c=1)\/(s=2/\c=2)\/(s=3/\c=4))(hn:p.n<4294967296):Calls prog 172 #[.int .i64 s,qbhk p] w fun e w'=>e=.returned (.string (bs (be p.n c)))/\Below w.heap.size w w':=by
 have FX:=fun W=>q65n s p.n W (by omega) hn;have hf:qvy9 s p.n=c:=by unfold qvy9;rcases hs with ⟨rfl,rfl⟩|⟨rfl,rfl⟩|⟨rfl,rfl⟩<;>rfl
 rw[hf] at FX;have PU:=fun W=>qe3g p.n (c:Int) W (by omega);rw[show(min (c:Int) 16).toNat=c by omega] at PU;have FX1:=hid FX;have PU1:=hid PU;have g4:((s:Int)==4)=false:=by simp;omega
 have g5:((s:Int)==5)=false:=by simp;omega
 have g6:((s:Int)==6)=false:=by simp;omega
 have g7:((s:Int)==7)=false:=by simp;omega
 have hw:IntKind.u64.wrap (p.n:Int)=(p.n:Int):=by simp only[IntKind.wrap_u64];omega
 have h0:Below w.heap.size w (w.alloc (.cells #[.int .i64 p.id,.int .u32 p.n,.string (bs p.text),.string (bs p.value)] 82)):=(Below.refl _ _).alloc (Nat.le_refl _) _;have hS:PrS w w.heap.size p (w.alloc (.cells #[.int .i64 p.id,.int .u32 p.n,.string (bs p.text),.string (bs p.value)] 82)).drew:=PrS.mk h0.drew (qrxu.made w p);clear FX PU hs hf hn h0;unfold qbhk;go_in;go_wp2_with fail
 go_region_held3 (fun w'=>w'.cell? ⟨w.heap.size,0,none⟩=some (.int .i64 p.id)/\w'.cell? ⟨w.heap.size,1,none⟩=some (.int .u32 p.n)/\w'.cell? ⟨w.heap.size,2,none⟩=some (.string (bs p.text))/\w'.cell? ⟨w.heap.size,3,none⟩=some (.string (bs p.value))/\(Below w.heap.size w w'/\qrxu w' w.heap.size p)) (exact hS)
  (first
   |(go_at_call 216;with_reducible refine(FX1.out _).mono ?_;rintro e w1 ⟨rfl,rfl⟩)
   |(go_at_call 72;with_reducible refine(PU1.out _).mono ?_;rintro e w1 ⟨rfl,hb⟩;have hS:=hS.call hb;clear hb))
 have hB:=hid hS.2.2.2.2.1;clear hS;go_wp2;go_ret;exact⟨rfl,hB.out⟩
end
theorem qs7s{kind:Int}(p:Pr)(w:World)(ok:PrOk p)(h:qr4y kind p=0):Calls prog 172 #[.int .i64 (qwgc p.id:Nat),qbhk p] w fun e w'=>e=.returned (.string (bs (qgdb p)))/\Below w.heap.size w w':=by
 obtain⟨hm,h4,h5⟩:=qo1o h;obtain⟨r1,r2,f1,f2,f3,f4,_⟩:=qznl hm;unfold qgdb
 have:qwgc p.id=1\/qwgc p.id=2\/qwgc p.id=3\/qwgc p.id=4\/qwgc p.id=5\/qwgc p.id=6\/qwgc p.id=7:=by omega
 rcases this with e|e|e|e|e|e|e
 ·rw[e];exact quhs p w 1 1 (by omega) ok.n
 ·rw[e];exact quhs p w 2 2 (by omega) ok.n
 ·rw[e];exact quhs p w 3 4 (by omega) ok.n
 ·have:=f4 e
  have:=(h4 (by omega)).2.2.2
  rw[e];exact qmhv p w (by omega)
 ·have l1:=((qbv6 _).1 ((h5 (by omega)).2.2.2 (by omega)).1).1;rw[e];exact qugk p w 5 (by omega) l1
 ·have l1:=(h5 (by omega)).2.2.1 e;rw[e];exact qugk p w 6 (by omega) l1
 ·have l1:=((qbv6 _).1 ((h5 (by omega)).2.2.2 (by omega)).1).1;have l2:=((qbv6 _).1 ((h5 (by omega)).2.2.2 (by omega)).2).1;rw[e];exact qgsn p w l1 l2
end Go.Proofs.YtefmhbioggcfaaaGreatDoor
