/- The contracts of ustring.Binary, Text, ReadBinary and Read. Condition: a string is no longer than an int says. -/
import Derived.Test.YtefmhbioggcfaaaGreatDoorK18
import Derived.Test.YtefmhbioggcfaaaGreatDoorK22
namespace Go.Proofs.YtefmhbioggcfaaaGreatDoor
open Lib(hid)
open Proofs.Tryz
open Go.RowKit
def ok3(r:List UInt8×Nat×Nat):Value := .tuple #[.string (bs r.1),.int .i64 (r.2.1:Int),.int .i64 (r.2.2:Int)]
theorem qf8s(s:ByteArray)(h:2<=s.size):qf3l (s.extract 0 (0+2))=num (s.data.toList.take 2):=by
 have e:(s.extract 0 (0+2)).data.toList=s.data.toList.take 2:=by simp[List.extract_eq_take_drop]
 have e2:(s.extract 0 (0+2)).size=2:=by rw[q4ad,e,List.length_take,<-q4ad];omega
 unfold qf3l;rw[e,e2]
 rfl
theorem qxxh(s:ByteArray)(w:World)(h:s.size<2) :
 Calls prog 207 #[.string s] w fun e w'=>e=.returned (.tuple #[.string ⟨#[]⟩,.int .i64 0,.int .i64 3])/\Below w.heap.size w w':=by
 have hm:s.size<=9223372036854775807:=by omega
 go_in;go_wp2_with fail;refine(qc5i (Below.refl _ w) s).mono ?_;rintro e w1 ⟨B,rfl,h1⟩;go_wp2_with fail;refine(q6bk h1 rfl (q6bm 2 h1.2.2 (Nat.zero_le _) hm (by omega))).mono ?_;rintro e w2 ⟨rfl,h2⟩;go_wp2_with fail;refine(qdc6 h2 rfl (q95z _ h2.2.2 (by decide))).mono ?_;rintro e w3 ⟨rfl,h3⟩;go_wp2_with fail;refine(qdc6 h3 rfl (q29p h3.2.2)).mono ?_;rintro e w4 ⟨rfl,h4⟩;go_wp2_with fail;refine(qdc6 h4 rfl (q29p h4.2.2)).mono ?_;rintro e w5 ⟨rfl,h5⟩;go_wp2
 go_ret3
 exact⟨rfl,h5.1⟩
theorem qsg9(s:ByteArray)(w:World)(n:Nat)(hm:s.size<=9223372036854775807)(h2:2<=s.size)(hn:num (s.data.toList.take 2)=n)(h:s.size<2+n) :
 Calls prog 207 #[.string s] w fun e w'=>e=.returned (.tuple #[.string ⟨#[]⟩,.int .i64 0,.int .i64 3])/\Below w.heap.size w w':=by
 have hlt:=qpeh s.data.toList;rw[hn] at hlt;have hN:=qf8s s h2;rw[hn] at hN;have hN:=hid hN;clear hn;go_in;go_wp2_with fail;refine(qc5i (Below.refl _ w) s).mono ?_;rintro e w1 ⟨B,rfl,h1⟩;go_wp2_with fail;refine(q6bk h1 rfl (qvi6 2 h1.2.2 (by omega) hm)).mono ?_;rw[hN.out];rintro e w2 ⟨rfl,h2⟩;go_wp2_with fail;refine(q6bk h2 rfl (ql8f _ h2.2.2 (by omega) hm (by omega))).mono ?_;rintro e w3 ⟨rfl,h3⟩;go_wp2_with fail;refine(qdc6 h3 rfl (q29p h3.2.2)).mono ?_;rintro e w4 ⟨rfl,h4⟩;go_wp2_with fail;refine(qdc6 h4 rfl (q29p h4.2.2)).mono ?_;rintro e w5 ⟨rfl,h5⟩;go_wp2
 go_ret3
 exact⟨rfl,h5.1⟩
theorem q7ux(s:ByteArray)(w:World)(n:Nat)(hm:s.size<=9223372036854775807)(h2:2<=s.size)(hn:num (s.data.toList.take 2)=n)(h:2+n<=s.size) :
 Calls prog 207 #[.string s] w fun e w'=>e=.returned (.tuple #[.string (s.extract (0+2) (0+2+n)),.int .i64 ((0+2+n:Nat):Int),.int .i64 0])/\Below w.heap.size w w':=by
 have hlt:=qpeh s.data.toList;rw[hn] at hlt;have hN:=qf8s s h2;rw[hn] at hN;have hN:=hid hN;clear hn;go_in;go_wp2_with fail;refine(qc5i (Below.refl _ w) s).mono ?_;rintro e w1 ⟨B,rfl,h1⟩;go_wp2_with fail;refine(q6bk h1 rfl (qvi6 2 h1.2.2 (by omega) hm)).mono ?_;rw[hN.out];rintro e w2 ⟨rfl,h2⟩;go_wp2_with fail;refine(q6bk h2 rfl (qpai n h2.2.2 (by omega) hm)).mono ?_;rintro e w3 ⟨rfl,h3⟩;go_wp2_with fail;refine(qdc6 h3 rfl (q29p h3.2.2)).mono ?_;rintro e w4 ⟨rfl,h4⟩;go_wp2_with fail;refine(qdc6 h4 rfl (qs8e h4.2.2)).mono ?_;rintro e w5 ⟨rfl,h5⟩;go_wp2
 go_ret3
 exact⟨rfl,h5.1⟩
theorem q4bl(s:ByteArray)(n:Nat):s.extract (0+2) (0+2+n)=bs ((s.data.toList.drop 2).take n):=by apply ByteArray.ext;apply Array.toList_inj.1;simp[bs,List.extract_eq_take_drop]
theorem qgvs(s:ByteArray)(w:World)(hm:s.size<=9223372036854775807) :
 Calls prog 207 #[.string s] w fun e w'=>e=.returned (ok3 (rdB s.data.toList))/\Below w.heap.size w w':=by
 unfold ok3 rdB;rw[<-q4ad];by_cases h2:2<=s.size
 ·by_cases h:2+num (s.data.toList.take 2)<=s.size
  ·rw[if_pos ⟨h2,h⟩]
   have:=q7ux s w _ hm h2 rfl h
   rw[q4bl] at this;exact this
  ·rw[if_neg (fun e=>h e.2)];exact qsg9 s w _ hm h2 rfl (by omega)
 ·rw[if_neg (fun e=>h2 e.1)];exact qxxh s w (by omega)
theorem q2z4(s:ByteArray)(w:World)(hm:s.size<=9223372036854775807) :
 Calls prog 167 #[.string s] w fun e w'=>e=.returned (ok3 (rdT s.data.toList))/\Below w.heap.size w w':=by
 have hr:=qgvs s w hm;unfold rdT;rcases qsrz s.data.toList with ⟨h0,h1,h2,h3,_⟩|h0
 ·rw[if_neg (by rw[h0];decide)];obtain⟨d,hd⟩:∃d,(rdB s.data.toList).1=d:=⟨_,rfl⟩
  obtain⟨z,hz⟩:∃z,(rdB s.data.toList).2.1=z:=⟨_,rfl⟩
  have hrr:rdB s.data.toList=(d,z,0):=by rw[<-hd,<-hz,<-h0]
  rw[hrr] at hr ⊢;rw[hd] at h1;unfold ok3 at hr;dsimp only at hr ⊢;have hv:=fun W=>qkls (bs d) W (by rw[q4ad];show d.length<=_;omega);have ev:(bs d).data.toList=d:=rfl;rw[ev] at hv;obtain⟨b,hb⟩:∃b,qecx d=b:=⟨_,rfl⟩
  rw[hb] at hv ⊢;have hr:=hid hr;have hv:=hid hv;clear h0 h1 h2 h3 hd hz hrr ev hb;cases b with
  |true=>
   rw[if_pos rfl];unfold ok3;go_in;go_wp2_with fail;refine(hr.out).mono ?_;rintro e w1 ⟨rfl,hb1⟩;go_wp2_with fail;refine(hv.out _).mono ?_;rintro e w2 ⟨rfl,hb2⟩;go_wp2
   go_ret3
   exact⟨rfl,hb1.trans (hb2.mono hb1.size)⟩
  |false=>
   rw[if_neg (by decide)];unfold ok3;go_in;go_wp2_with fail;refine(hr.out).mono ?_;rintro e w1 ⟨rfl,hb1⟩;go_wp2_with fail;refine(hv.out _).mono ?_;rintro e w2 ⟨rfl,hb2⟩;go_wp2
   go_ret3
   exact⟨rfl,hb1.trans (hb2.mono hb1.size)⟩
 ·rw[if_pos (by rw[h0];decide)];rw[h0] at hr;unfold ok3 at hr ⊢;dsimp only at hr;have hr:=hid hr;go_in;go_wp2_with fail;refine(hr.out).mono ?_;rintro e w1 ⟨rfl,hb1⟩;go_wp2
  go_ret3
  exact⟨rfl,hb1⟩
end Go.Proofs.YtefmhbioggcfaaaGreatDoor
