/- The contracts of ustring.Binary, Text, ReadBinary and Read. Condition: a string is no longer than an int says. -/
import Derived.Test.YtbklidpadffpgaaGreatK41
import Derived.Test.YtbklidpadffpgaaGreatK31
import Derived.Test.YtbklidpadffpgaaGreatK09
import Derived.Test.YtbklidpadffpgaaGreatK25
import Derived.Test.YtbklidpadffpgaaGreatK28
import Derived.Test.YtbklidpadffpgaaGreatK26
set_option maxRecDepth 100000
namespace Go.Proofs.YtbklidpadffpgaaGreat
open Go.RowKit
def ok3(r:List UInt8×Nat×Nat):Value := .tuple #[.string (bs r.1),.int .i64 (r.2.1:Int),.int .i64 (r.2.2:Int)]
theorem qf8s(s:ByteArray)(h:2≤s.size):qf3l (s.extract 0 (0+2))=num (s.data.toList.take 2):=by
 have e:(s.extract 0 (0+2)).data.toList=s.data.toList.take 2:=by simp[List.extract_eq_take_drop]
 have e2:(s.extract 0 (0+2)).size=2:=by rw[q4ad,e,List.length_take,←q4ad];omega
 unfold qf3l
 rw[e,e2]
 rfl
theorem qxxh(s:ByteArray)(w:World)(h:s.size < 2) :
 Calls Tryz.prog 163 #[.string s] w fun e w'=>e = .returned (.tuple #[.string ⟨#[]⟩,.int .i64 0,.int .i64 3])∧Below w.heap.size w w':=by
 have hm:s.size≤9223372036854775807:=by omega
 go_enter Tryz.func163,Tryz.ntmps163
 go_wp2_with fail
 refine(qc5i (Below.refl _ w) s).mono ?_
 rintro e w1 ⟨B,rfl,h1⟩
 go_wp2_with fail
 refine(q6bk h1 rfl (q6bm 2 h1.2.2 (Nat.zero_le _) hm (by omega))).mono ?_
 rintro e w2 ⟨rfl,h2⟩
 go_wp2_with fail
 refine(qdc6 h2 rfl (q95z _ h2.2.2 (by decide))).mono ?_
 rintro e w3 ⟨rfl,h3⟩
 go_wp2_with fail
 refine(qdc6 h3 rfl (q29p h3.2.2)).mono ?_
 rintro e w4 ⟨rfl,h4⟩
 go_wp2_with fail
 refine(qdc6 h4 rfl (q29p h4.2.2)).mono ?_
 rintro e w5 ⟨rfl,h5⟩
 go_wp2_with fail
 go_ret3
 exact⟨rfl,h5.1⟩
theorem qsg9(s:ByteArray)(w:World)(n:Nat)(hm:s.size≤9223372036854775807)(h2:2≤s.size)(hn:num (s.data.toList.take 2)=n)(h:s.size < 2+n) :
 Calls Tryz.prog 163 #[.string s] w fun e w'=>e = .returned (.tuple #[.string ⟨#[]⟩,.int .i64 0,.int .i64 3])∧Below w.heap.size w w':=by
 have hlt:=qpeh s.data.toList
 rw[hn] at hlt
 have hN:=qf8s s h2
 rw[hn] at hN
 have hN:=Lib.hid hN
 clear hn
 go_enter Tryz.func163,Tryz.ntmps163
 go_wp2_with fail
 refine(qc5i (Below.refl _ w) s).mono ?_
 rintro e w1 ⟨B,rfl,h1⟩
 go_wp2_with fail
 refine(q6bk h1 rfl (qvi6 2 h1.2.2 (by omega) hm)).mono ?_
 rw[hN.out]
 rintro e w2 ⟨rfl,h2⟩
 go_wp2_with fail
 refine(q6bk h2 rfl (ql8f _ h2.2.2 (by omega) hm (by omega))).mono ?_
 rintro e w3 ⟨rfl,h3⟩
 go_wp2_with fail
 refine(qdc6 h3 rfl (q29p h3.2.2)).mono ?_
 rintro e w4 ⟨rfl,h4⟩
 go_wp2_with fail
 refine(qdc6 h4 rfl (q29p h4.2.2)).mono ?_
 rintro e w5 ⟨rfl,h5⟩
 go_wp2_with fail
 go_ret3
 exact⟨rfl,h5.1⟩
theorem q7ux(s:ByteArray)(w:World)(n:Nat)(hm:s.size≤9223372036854775807)(h2:2≤s.size)(hn:num (s.data.toList.take 2)=n)(h:2+n≤s.size) :
 Calls Tryz.prog 163 #[.string s] w fun e w'=>e = .returned (.tuple #[.string (s.extract (0+2) (0+2+n)),.int .i64 ((0+2+n:Nat):Int),.int .i64 0])∧Below w.heap.size w w':=by
 have hlt:=qpeh s.data.toList
 rw[hn] at hlt
 have hN:=qf8s s h2
 rw[hn] at hN
 have hN:=Lib.hid hN
 clear hn
 go_enter Tryz.func163,Tryz.ntmps163
 go_wp2_with fail
 refine(qc5i (Below.refl _ w) s).mono ?_
 rintro e w1 ⟨B,rfl,h1⟩
 go_wp2_with fail
 refine(q6bk h1 rfl (qvi6 2 h1.2.2 (by omega) hm)).mono ?_
 rw[hN.out]
 rintro e w2 ⟨rfl,h2⟩
 go_wp2_with fail
 refine(q6bk h2 rfl (qpai n h2.2.2 (by omega) hm)).mono ?_
 rintro e w3 ⟨rfl,h3⟩
 go_wp2_with fail
 refine(qdc6 h3 rfl (q29p h3.2.2)).mono ?_
 rintro e w4 ⟨rfl,h4⟩
 go_wp2_with fail
 refine(qdc6 h4 rfl (qs8e h4.2.2)).mono ?_
 rintro e w5 ⟨rfl,h5⟩
 go_wp2_with fail
 go_ret3
 exact⟨rfl,h5.1⟩
theorem q4bl(s:ByteArray)(n:Nat):s.extract (0+2) (0+2+n)=bs ((s.data.toList.drop 2).take n):=by
 apply ByteArray.ext
 apply Array.toList_inj.1
 simp[bs,List.extract_eq_take_drop]
theorem qgvs(s:ByteArray)(w:World)(hm:s.size≤9223372036854775807) :
 Calls Tryz.prog 163 #[.string s] w fun e w'=>e = .returned (ok3 (rdB s.data.toList))∧Below w.heap.size w w':=by
 unfold ok3 rdB
 rw[←q4ad]
 by_cases h2:2≤s.size
 ·by_cases h:2+num (s.data.toList.take 2)≤s.size
  ·rw[if_pos ⟨h2,h⟩]
   have:=q7ux s w _ hm h2 rfl h
   rw[q4bl] at this
   exact this
  ·rw[if_neg (fun e=>h e.2)]
   exact qsg9 s w _ hm h2 rfl (by omega)
 ·rw[if_neg (fun e=>h2 e.1)]
  exact qxxh s w (by omega)
theorem q2z4(s:ByteArray)(w:World)(hm:s.size≤9223372036854775807) :
 Calls Tryz.prog 162 #[.string s] w fun e w'=>e = .returned (ok3 (rdT s.data.toList))∧Below w.heap.size w w':=by
 have hr:=qgvs s w hm
 unfold rdT
 rcases qsrz s.data.toList with ⟨h0,h1,h2,h3,_⟩ | h0
 ·rw[if_neg (by rw[h0];decide)]
  obtain⟨d,hd⟩:∃d,(rdB s.data.toList).1=d:=⟨_,rfl⟩
  obtain⟨z,hz⟩:∃z,(rdB s.data.toList).2.1=z:=⟨_,rfl⟩
  have hrr:rdB s.data.toList=(d,z,0):=by rw[←hd,←hz,←h0]
  rw[hrr] at hr ⊢
  rw[hd] at h1
  unfold ok3 at hr
  dsimp only at hr ⊢
  have hv:=fun W=>qkls (bs d) W (by rw[q4ad];show d.length≤_;omega)
  have ev:(bs d).data.toList=d:=rfl
  rw[ev] at hv
  obtain⟨b,hb⟩:∃b,qecx d=b:=⟨_,rfl⟩
  rw[hb] at hv ⊢
  have hr:=Lib.hid hr
  have hv:=Lib.hid hv
  clear h0 h1 h2 h3 hd hz hrr ev hb
  cases b with
  | true=>
   rw[if_pos rfl]
   unfold ok3
   go_enter Tryz.func162,Tryz.ntmps162
   go_wp2_with fail
   refine(hr.out).mono ?_
   rintro e w1 ⟨rfl,hb1⟩
   go_wp2_with fail
   refine(hv.out _).mono ?_
   rintro e w2 ⟨rfl,hb2⟩
   go_wp2_with fail
   go_ret3
   exact⟨rfl,hb1.trans (hb2.mono hb1.size)⟩
  | false=>
   rw[if_neg (by decide)]
   unfold ok3
   go_enter Tryz.func162,Tryz.ntmps162
   go_wp2_with fail
   refine(hr.out).mono ?_
   rintro e w1 ⟨rfl,hb1⟩
   go_wp2_with fail
   refine(hv.out _).mono ?_
   rintro e w2 ⟨rfl,hb2⟩
   go_wp2_with fail
   go_ret3
   exact⟨rfl,hb1.trans (hb2.mono hb1.size)⟩
 ·rw[if_pos (by rw[h0];decide)]
  rw[h0] at hr
  unfold ok3 at hr ⊢
  dsimp only at hr
  have hr:=Lib.hid hr
  go_enter Tryz.func162,Tryz.ntmps162
  go_wp2_with fail
  refine(hr.out).mono ?_
  rintro e w1 ⟨rfl,hb1⟩
  go_wp2_with fail
  go_ret3
  exact⟨rfl,hb1⟩
theorem qyzg(n:Nat)(w:World)(hn:n < 18446744073709551616) :
 Calls Tryz.prog 136 #[.int .u64 n,.int .i64 2] w fun e w'=>e = .returned (.string (bs (be n 2)))∧Below w.heap.size w w':=qeva n 2 w hn (by decide) (by decide)
theorem q5pn(s:ByteArray)(w:World)(h:s.size≤65535) :
 Calls Tryz.prog 138 #[.string s] w fun e w'=>e = .returned (.tuple #[.string (bs (enc2 s.data.toList)),.int .i64 0])∧Below w.heap.size w w':=by
 have hp:=qyzg s.size w (by omega)
 have hres:bs (be s.size 2)++s=bs (enc2 s.data.toList):=by
  rw[qyiu,enc2,←q4ad]
 have hsz:(bs (be s.size 2)).size=2:=by rw[q4ad];exact q0rl 2 _
 have hnl:¬9223372036854775807 < (bs (be s.size 2)).size+s.size:=by omega
 clear hsz
 have hp:=Lib.hid hp
 go_enter Tryz.func138,Tryz.ntmps138
 go_wp2_with fail
 refine(hp.out).mono ?_
 rintro e w1 ⟨rfl,hb⟩
 go_wp2_with fail
 go_ret2
 exact⟨rfl,hb⟩
theorem qra5(s:ByteArray)(w:World)(hs:s.size≤70000) :
 Calls Tryz.prog 166 #[.string s] w fun e w'=>e = .returned (ok3 (rdB s.data.toList))∧w=w':=by
 by_cases h2:s.size < 2
 ·have e:rdB s.data.toList=([],0,3):=by unfold rdB;rw[if_neg (by rw[←q4ad];omega)]
  rw[e]
  unfold ok3
  clear e
  go_enter Tryz.func166,Tryz.ntmps166
  go_wp2_with fail
  go_ret3
  exact⟨rfl,rfl⟩
 obtain⟨n,hn⟩:∃n,num (s.data.toList.take 2)=n:=⟨_,rfl⟩
 have hlt:=qpeh s.data.toList
 have hN:=qf8s s (by omega)
 rw[hn] at hlt hN
 have hG:=q2jg (s.extract 0 2) w (by rw[ByteArray.size_extract];omega)
 have hN2:qf3l (s.extract 0 2)=n:=hN
 rw[hN2] at hG
 have hG:=Lib.hid hG
 have k1:¬(s.size:Int) < 2:=by omega
 have k2:(2:Int)≤(s.size:Int):=by omega
 have k3:(n:Int) < 65536:=by omega
 have k4:(s.size:Int)≤70000:=by omega
 by_cases h:2+n≤s.size
 ·have e:rdB s.data.toList=((s.data.toList.drop 2).take n,2+n,0):=by unfold rdB;rw[hn,if_pos ⟨by rw[←q4ad];omega,by rw[←q4ad];omega⟩]
  rw[e]
  unfold ok3
  dsimp only
  have hx:=q4bl s n
  rw[←hx]
  have k5:¬(s.size:Int) - 2 < (n:Int):=by omega
  obtain⟨z,hz⟩:∃z,2+n=z:=⟨_,rfl⟩
  rw[hz]
  have k9:(n:Int)≤(s.size:Int):=by omega
  have k6:(2:Int)+(n:Int)=(z:Int):=by omega
  clear k3
  have k7:(z:Int)≤(s.size:Int):=by omega
  have k8:(2:Int)≤(z:Int):=by omega
  clear hz
  clear e hx hn hlt hN hN2 h h2 hs
  go_enter Tryz.func166,Tryz.ntmps166
  go_wp2_with fail
  refine(hG.out).mono ?_
  rintro e w1 ⟨rfl,rfl⟩
  go_wp2_with fail
  go_ret3
  exact⟨rfl,rfl⟩
 ·have e:rdB s.data.toList=([],0,3):=by unfold rdB;rw[hn,if_neg (by rw[←q4ad];omega)]
  rw[e]
  unfold ok3
  have k5:(s.size:Int) - 2 < (n:Int):=by omega
  clear e hn hlt hN hN2 h h2 hs
  go_enter Tryz.func166,Tryz.ntmps166
  go_wp2_with fail
  refine(hG.out).mono ?_
  rintro e w1 ⟨rfl,rfl⟩
  go_wp2_with fail
  go_ret3
  exact⟨rfl,rfl⟩
end Go.Proofs.YtbklidpadffpgaaGreat
