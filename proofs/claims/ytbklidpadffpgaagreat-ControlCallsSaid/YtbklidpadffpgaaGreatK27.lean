/- The contracts of polyglotref03.more and Point: what the document's answer reckons of the bytes at a place. Condition: at most 70,000 bytes. -/
import Derived.Test.YtbklidpadffpgaaGreatK25
import Derived.Test.YtbklidpadffpgaaGreatK15
set_option maxRecDepth 100000
set_option maxHeartbeats 4000000
namespace Go.Proofs.YtbklidpadffpgaaGreat
open Go.RowKit
theorem qvvd(s:ByteArray)(p:Nat)(h:p < s.size):s[p].toNat=bytU s.data.toList p:=by
 unfold bytU
 rw[List.getD_eq_getElem?_getD,List.getElem?_eq_getElem (by simpa using h)]
 rfl
theorem qfi2(s:ByteArray)(p m:Nat)(w:World)(h:mr s.data.toList p=some m) :
 Calls Tryz.prog 167 #[.string s,.int .i64 p] w fun e w'=>e = .returned (.tuple #[.int .i64 m,.bool true])∧w=w':=by
 obtain⟨h1,h2,h3⟩:=qhxc h
 have hp:p < s.size:=by simpa using h2
 have hb:=qvvd s p hp
 rw[h3] at hb
 have hlt:¬s.size≤p:=by omega
 clear h h2 h3
 obtain⟨r,hr⟩:∃r,s[p].toNat=r:=⟨_,rfl⟩
 have e1:r=128+m:=by rw[←hr];exact hb
 have g1:¬(r:Int) < 128:=by omega
 have g2:¬191 < (r:Int):=by omega
 have g3:(r:Int) - 128=(m:Int):=by omega
 clear hb e1 h1
 go_enter Tryz.func167,Tryz.ntmps167
 go_wp2
 go_ret2
 exact⟨rfl,rfl⟩
theorem qn8j(s:ByteArray)(p:Nat)(w:World)(h:mr s.data.toList p=none) :
 Calls Tryz.prog 167 #[.string s,.int .i64 p] w fun e w'=>e = .returned (.tuple #[.int .i64 0,.bool false])∧w=w':=by
 by_cases hp:p < s.size
 ·have hb:=qvvd s p hp
  have hlt:¬s.size≤p:=by omega
  have hbb:bytU s.data.toList p < 256:=(s.data.toList.getD p 0).toNat_lt
  have h2:¬(128≤bytU s.data.toList p∧bytU s.data.toList p≤191):=fun hc=>by
   unfold mr at h
   rw[if_pos ⟨by simpa using hp,hc⟩] at h
   cases h
  obtain⟨r,hr⟩:∃r,s[p].toNat=r:=⟨_,rfl⟩
  rw[hr] at hb
  rw[←hb] at h2
  clear h hb
  by_cases g:r < 128
  ·have g1:(r:Int) < 128:=by omega
   clear h2 g hbb
   go_enter Tryz.func167,Tryz.ntmps167
   go_wp2
   go_ret2
   exact⟨rfl,rfl⟩
  ·have g1:¬(r:Int) < 128:=by omega
   have g2:191 < (r:Int):=by omega
   clear h2 g hbb
   go_enter Tryz.func167,Tryz.ntmps167
   go_wp2
   go_ret2
   exact⟨rfl,rfl⟩
 ·have hlt:s.size≤p:=by omega
  clear h hp
  go_enter Tryz.func167,Tryz.ntmps167
  go_wp2
  go_ret2
  exact⟨rfl,rfl⟩
theorem qowi(s:ByteArray)(pl:Nat)(w:World)(_hs:s.size≤70000)(hp:pl < s.size)(h:bytU s.data.toList pl < 128) :
 Calls Tryz.prog 158 #[.string s,.int .i64 pl] w fun e w'=>e = .returned (.tuple #[.int .i64 (((bytU s.data.toList pl,1):Nat×Nat).1:Int),.int .i64 (((bytU s.data.toList pl,1):Nat×Nat).2:Int)])∧w=w':=by
 have hb:=qvvd s pl hp
 obtain⟨r,hr⟩:∃r,s[pl].toNat=r:=⟨_,rfl⟩
 rw[hr] at hb
 rw[←hb] at h ⊢
 clear hb
 have g1:(r:Int) < 128:=by omega
 clear h
 go_enter Tryz.func158,Tryz.ntmps158
 go_wp2
 go_ret2
 exact⟨rfl,rfl⟩
theorem q3xz(s:ByteArray)(pl:Nat)(w:World)(_hs:s.size≤70000)(hp:pl < s.size)(h:128≤bytU s.data.toList pl∧bytU s.data.toList pl < 192) :
 Calls Tryz.prog 158 #[.string s,.int .i64 pl] w fun e w'=>e = .returned (.tuple #[.int .i64 (((0,0):Nat×Nat).1:Int),.int .i64 (((0,0):Nat×Nat).2:Int)])∧w=w':=by
 have hb:=qvvd s pl hp
 obtain⟨r,hr⟩:∃r,s[pl].toNat=r:=⟨_,rfl⟩
 rw[hr] at hb
 rw[←hb] at h
 clear hb
 have g1:¬(r:Int) < 128:=by omega
 have g2:¬192≤(r:Int):=by omega
 have g3:¬224≤(r:Int):=by omega
 have g4:¬240≤(r:Int):=by omega
 clear h
 go_enter Tryz.func158,Tryz.ntmps158
 go_wp2
 go_ret2
 exact⟨rfl,rfl⟩
theorem qb34(s:ByteArray)(pl:Nat)(w:World)(_hs:s.size≤70000)(hp:pl < s.size)(h:248≤bytU s.data.toList pl∧bytU s.data.toList pl < 256) :
 Calls Tryz.prog 158 #[.string s,.int .i64 pl] w fun e w'=>e = .returned (.tuple #[.int .i64 (((0,0):Nat×Nat).1:Int),.int .i64 (((0,0):Nat×Nat).2:Int)])∧w=w':=by
 have hb:=qvvd s pl hp
 obtain⟨r,hr⟩:∃r,s[pl].toNat=r:=⟨_,rfl⟩
 rw[hr] at hb
 rw[←hb] at h
 clear hb
 have g1:¬(r:Int) < 128:=by omega
 have g2:¬(r:Int) < 224:=by omega
 have g3:¬(r:Int) < 240:=by omega
 have g4:¬(r:Int) < 248:=by omega
 have g5:(r:Int) < 256:=by omega
 clear h
 go_enter Tryz.func158,Tryz.ntmps158
 go_wp2
 go_ret2
 exact⟨rfl,rfl⟩
theorem qx4p(s:ByteArray)(pl:Nat)(w:World)(hs:s.size≤70000)(hp:pl < s.size)(h:192≤bytU s.data.toList pl∧bytU s.data.toList pl < 224) :
 Calls Tryz.prog 158 #[.string s,.int .i64 pl] w fun e w'=>e = .returned (.tuple #[.int .i64 ((fin2 (gor s.data.toList pl 1 (bytU s.data.toList pl - 192) 1) 2 128).1:Int),.int .i64 ((fin2 (gor s.data.toList pl 1 (bytU s.data.toList pl - 192) 1) 2 128).2:Int)])∧w=w':=by
 have hb:=qvvd s pl hp
 obtain⟨r,hr⟩:∃r,s[pl].toNat=r:=⟨_,rfl⟩
 rw[hr] at hb
 rw[←hb] at h ⊢
 clear hb
 have g1:¬(r:Int) < 128:=by omega
 have g2:192≤(r:Int):=by omega
 have g3:(r:Int) < 224:=by omega
 obtain⟨n0,hn0⟩:∃n0,r - 192=n0:=⟨_,rfl⟩
 rw[hn0]
 have g6:(r:Int) - 192=(n0:Int):=by omega
 have g7:n0 < 64:=by omega
 obtain⟨R,hR⟩:∃R,gor s.data.toList pl 1 n0 1=R:=⟨_,rfl⟩
 rw[hR]
 have hs':(s.size:Int)≤70000:=by omega
 have hp':(pl:Int) < (s.size:Int):=by omega
 clear h hn0
 go_enter Tryz.func158,Tryz.ntmps158
 go_wp2
 go_loop [6,9] (fun n i=>∃(x j:Nat),j < 2∧i = .int .i64 ((j+1:Nat):Int)∧n = .int .i64 (x:Int)∧x < 64^(j+1)∧gor s.data.toList pl (1 - j) x (j+1)=R) (fun _ i=>3 - (intOf i).toNat)
 case atStart=>exact⟨n0,0,by decide,rfl,rfl,by omega,hR⟩
 case round=>
  obtain⟨x,j,hj,rfl,rfl,hx,hg⟩:=hrel
  have hxx:x < 16777216:=Nat.lt_of_lt_of_le hx (Nat.pow_le_pow_right (n:=64) (by decide) (show j+1≤4 by omega))
  by_cases hlt:j+1 < 2
  ·have hx2:x < 262144:=Nat.lt_of_lt_of_le hx (Nat.pow_le_pow_right (n:=64) (by decide) (show j+1≤3 by omega))
   obtain⟨f,hf⟩:∃f,1 - j=f+1:=⟨1 - j - 1,by omega⟩
   rw[hf] at hg
   unfold gor at hg
   obtain⟨i,hi⟩:∃i,j+1=i:=⟨_,rfl⟩
   rw[hi] at hg hlt hx ⊢
   have t1:(i:Int) < 2:=by omega
   have t2:(pl:Int)+(i:Int)=((pl+i:Nat):Int):=by omega
   cases hm:mr s.data.toList (pl+i) with
   | none=>
    rw[hm] at hg
    dsimp only at hg
    subst hg
    have M:=Lib.hid (show ∀W,Calls Tryz.prog 167 #[.string s,.int .i64 ((pl:Int)+(i:Int))] W fun e w'=>e = .returned (.tuple #[.int .i64 0,.bool false])∧W=w' from fun W=>by rw[t2];exact qn8j s (pl+i) W hm)
    clear hm hi hf hR hx hxx hx2 t2 hj
    go_wp2_with fail
    refine(M.out _).mono ?_
    rintro e w' ⟨rfl,rfl⟩
    go_wp2_with fail
    go_ret2
    exact⟨rfl,rfl⟩
   | some m=>
    obtain⟨m1,m2,m3⟩:=qhxc hm
    rw[hm] at hg
    dsimp only at hg
    have M:=Lib.hid (show ∀W,Calls Tryz.prog 167 #[.string s,.int .i64 ((pl:Int)+(i:Int))] W fun e w'=>e = .returned (.tuple #[.int .i64 m,.bool true])∧W=w' from fun W=>by rw[t2];exact qfi2 s (pl+i) m W hm)
    have t3:(x:Int) < 262144:=by omega
    have t4:(m:Int) < 64:=by omega
    have NEXT:=Lib.hid (show((i:Int)+1)=((j+1+1:Nat):Int)∧64*(x:Int)+(m:Int)=((64*x+m:Nat):Int)∧64*x+m < 64^(j+1+1)∧gor s.data.toList pl (1 - (j+1)) (64*x+m) (j+1+1)=R from by
     subst hi
     refine⟨by omega,by omega,?_,?_⟩
     ·have e:64^(j+1+1)=64^(j+1)*64:=Nat.pow_succ ..
      omega
     ·have e:1 - (j+1)=f:=by omega
      rw[e];exact hg)
    have HJ:=Lib.hid (show j+1 < 2∧j+1=i from⟨by omega,hi⟩)
    clear hm hi hf hx hxx hx2 t2 hj hg m1 m2 m3 hlt hR
    go_wp2_with fail
    refine(M.out _).mono ?_
    rintro e w' ⟨rfl,rfl⟩
    go_wp2_with fail
    obtain⟨n1,n2,n3,n4⟩:=NEXT.out
    obtain⟨j1,j2⟩:=HJ.out
    go_round
    case rel=>exact⟨64*x+m,j+1,j1,by rw[←n1],by rw[←n2],n3,n4⟩
    case measure=>simp[intOf];omega
  ·have hjs:j=1:=by omega
   subst hjs
   have hg':some x=R:=hg
   subst hg'
   obtain⟨i,hi⟩:∃i,1+1=i:=⟨_,rfl⟩
   rw[hi]
   have t1:¬(i:Int) < 2:=by omega
   clear hj hx hlt hi hg hR
   by_cases w1:x < 128
   ·have e:fin2 (some x) 2 128=(0,0):=by unfold fin2;dsimp only;rw[if_pos (by unfold q2uq;omega)]
    have E:=Lib.hid e
    have k1:(x:Int) < 128:=by omega
    clear e w1 hxx
    go_wp2
    go_ret2
    exact⟨by rw[E.out];rfl,rfl⟩
   have k1:¬(x:Int) < 128:=by omega
   by_cases w2:1114111 < x
   ·have e:fin2 (some x) 2 128=(0,0):=by unfold fin2;dsimp only;rw[if_pos (by unfold q2uq;omega)]
    have E:=Lib.hid e
    have k2:1114111 < (x:Int):=by omega
    clear e w1 w2 hxx
    go_wp2
    go_ret2
    exact⟨by rw[E.out];rfl,rfl⟩
   have k2:¬1114111 < (x:Int):=by omega
   by_cases w3:55296≤x
   ·have k3:55296≤(x:Int):=by omega
    by_cases w4:x≤57343
    ·have e:fin2 (some x) 2 128=(0,0):=by unfold fin2;dsimp only;rw[if_pos (by unfold q2uq;omega)]
     have E:=Lib.hid e
     have k4:(x:Int)≤57343:=by omega
     clear e w1 w2 w3 w4 hxx
     go_wp2
     go_ret2
     exact⟨by rw[E.out];rfl,rfl⟩
    ·have e:fin2 (some x) 2 128=(x,2):=by unfold fin2;dsimp only;rw[if_neg (by unfold q2uq;omega)]
     have E:=Lib.hid e
     have k4:¬(x:Int)≤57343:=by omega
     clear e w1 w2 w3 w4 hxx
     go_wp2
     go_ret2
     exact⟨by rw[E.out];rfl,rfl⟩
   ·have e:fin2 (some x) 2 128=(x,2):=by unfold fin2;dsimp only;rw[if_neg (by unfold q2uq;omega)]
    have E:=Lib.hid e
    have k3:¬55296≤(x:Int):=by omega
    clear e w1 w2 w3 hxx
    go_wp2
    go_ret2
    exact⟨by rw[E.out];rfl,rfl⟩
theorem qnww(s:ByteArray)(pl:Nat)(w:World)(hs:s.size≤70000)(hp:pl < s.size)(h:224≤bytU s.data.toList pl∧bytU s.data.toList pl < 240) :
 Calls Tryz.prog 158 #[.string s,.int .i64 pl] w fun e w'=>e = .returned (.tuple #[.int .i64 ((fin2 (gor s.data.toList pl 2 (bytU s.data.toList pl - 224) 1) 3 2048).1:Int),.int .i64 ((fin2 (gor s.data.toList pl 2 (bytU s.data.toList pl - 224) 1) 3 2048).2:Int)])∧w=w':=by
 have hb:=qvvd s pl hp
 obtain⟨r,hr⟩:∃r,s[pl].toNat=r:=⟨_,rfl⟩
 rw[hr] at hb
 rw[←hb] at h ⊢
 clear hb
 have g1:¬(r:Int) < 128:=by omega
 have g2:¬(r:Int) < 224:=by omega
 have g3:224≤(r:Int):=by omega
 have g4:(r:Int) < 240:=by omega
 obtain⟨n0,hn0⟩:∃n0,r - 224=n0:=⟨_,rfl⟩
 rw[hn0]
 have g6:(r:Int) - 224=(n0:Int):=by omega
 have g7:n0 < 64:=by omega
 obtain⟨R,hR⟩:∃R,gor s.data.toList pl 2 n0 1=R:=⟨_,rfl⟩
 rw[hR]
 have hs':(s.size:Int)≤70000:=by omega
 have hp':(pl:Int) < (s.size:Int):=by omega
 clear h hn0
 go_enter Tryz.func158,Tryz.ntmps158
 go_wp2
 go_loop [6,9] (fun n i=>∃(x j:Nat),j < 3∧i = .int .i64 ((j+1:Nat):Int)∧n = .int .i64 (x:Int)∧x < 64^(j+1)∧gor s.data.toList pl (2 - j) x (j+1)=R) (fun _ i=>4 - (intOf i).toNat)
 case atStart=>exact⟨n0,0,by decide,rfl,rfl,by omega,hR⟩
 case round=>
  obtain⟨x,j,hj,rfl,rfl,hx,hg⟩:=hrel
  have hxx:x < 16777216:=Nat.lt_of_lt_of_le hx (Nat.pow_le_pow_right (n:=64) (by decide) (show j+1≤4 by omega))
  by_cases hlt:j+1 < 3
  ·have hx2:x < 262144:=Nat.lt_of_lt_of_le hx (Nat.pow_le_pow_right (n:=64) (by decide) (show j+1≤3 by omega))
   obtain⟨f,hf⟩:∃f,2 - j=f+1:=⟨2 - j - 1,by omega⟩
   rw[hf] at hg
   unfold gor at hg
   obtain⟨i,hi⟩:∃i,j+1=i:=⟨_,rfl⟩
   rw[hi] at hg hlt hx ⊢
   have t1:(i:Int) < 3:=by omega
   have t2:(pl:Int)+(i:Int)=((pl+i:Nat):Int):=by omega
   cases hm:mr s.data.toList (pl+i) with
   | none=>
    rw[hm] at hg
    dsimp only at hg
    subst hg
    have M:=Lib.hid (show ∀W,Calls Tryz.prog 167 #[.string s,.int .i64 ((pl:Int)+(i:Int))] W fun e w'=>e = .returned (.tuple #[.int .i64 0,.bool false])∧W=w' from fun W=>by rw[t2];exact qn8j s (pl+i) W hm)
    clear hm hi hf hR hx hxx hx2 t2 hj
    go_wp2_with fail
    refine(M.out _).mono ?_
    rintro e w' ⟨rfl,rfl⟩
    go_wp2_with fail
    go_ret2
    exact⟨rfl,rfl⟩
   | some m=>
    obtain⟨m1,m2,m3⟩:=qhxc hm
    rw[hm] at hg
    dsimp only at hg
    have M:=Lib.hid (show ∀W,Calls Tryz.prog 167 #[.string s,.int .i64 ((pl:Int)+(i:Int))] W fun e w'=>e = .returned (.tuple #[.int .i64 m,.bool true])∧W=w' from fun W=>by rw[t2];exact qfi2 s (pl+i) m W hm)
    have t3:(x:Int) < 262144:=by omega
    have t4:(m:Int) < 64:=by omega
    have NEXT:=Lib.hid (show((i:Int)+1)=((j+1+1:Nat):Int)∧64*(x:Int)+(m:Int)=((64*x+m:Nat):Int)∧64*x+m < 64^(j+1+1)∧gor s.data.toList pl (2 - (j+1)) (64*x+m) (j+1+1)=R from by
     subst hi
     refine⟨by omega,by omega,?_,?_⟩
     ·have e:64^(j+1+1)=64^(j+1)*64:=Nat.pow_succ ..
      omega
     ·have e:2 - (j+1)=f:=by omega
      rw[e];exact hg)
    have HJ:=Lib.hid (show j+1 < 3∧j+1=i from⟨by omega,hi⟩)
    clear hm hi hf hx hxx hx2 t2 hj hg m1 m2 m3 hlt hR
    go_wp2_with fail
    refine(M.out _).mono ?_
    rintro e w' ⟨rfl,rfl⟩
    go_wp2_with fail
    obtain⟨n1,n2,n3,n4⟩:=NEXT.out
    obtain⟨j1,j2⟩:=HJ.out
    go_round
    case rel=>exact⟨64*x+m,j+1,j1,by rw[←n1],by rw[←n2],n3,n4⟩
    case measure=>simp[intOf];omega
  ·have hjs:j=2:=by omega
   subst hjs
   have hg':some x=R:=hg
   subst hg'
   obtain⟨i,hi⟩:∃i,2+1=i:=⟨_,rfl⟩
   rw[hi]
   have t1:¬(i:Int) < 3:=by omega
   clear hj hx hlt hi hg hR
   by_cases w1:x < 2048
   ·have e:fin2 (some x) 3 2048=(0,0):=by unfold fin2;dsimp only;rw[if_pos (by unfold q2uq;omega)]
    have E:=Lib.hid e
    have k1:(x:Int) < 2048:=by omega
    clear e w1 hxx
    go_wp2
    go_ret2
    exact⟨by rw[E.out];rfl,rfl⟩
   have k1:¬(x:Int) < 2048:=by omega
   by_cases w2:1114111 < x
   ·have e:fin2 (some x) 3 2048=(0,0):=by unfold fin2;dsimp only;rw[if_pos (by unfold q2uq;omega)]
    have E:=Lib.hid e
    have k2:1114111 < (x:Int):=by omega
    clear e w1 w2 hxx
    go_wp2
    go_ret2
    exact⟨by rw[E.out];rfl,rfl⟩
   have k2:¬1114111 < (x:Int):=by omega
   by_cases w3:55296≤x
   ·have k3:55296≤(x:Int):=by omega
    by_cases w4:x≤57343
    ·have e:fin2 (some x) 3 2048=(0,0):=by unfold fin2;dsimp only;rw[if_pos (by unfold q2uq;omega)]
     have E:=Lib.hid e
     have k4:(x:Int)≤57343:=by omega
     clear e w1 w2 w3 w4 hxx
     go_wp2
     go_ret2
     exact⟨by rw[E.out];rfl,rfl⟩
    ·have e:fin2 (some x) 3 2048=(x,3):=by unfold fin2;dsimp only;rw[if_neg (by unfold q2uq;omega)]
     have E:=Lib.hid e
     have k4:¬(x:Int)≤57343:=by omega
     clear e w1 w2 w3 w4 hxx
     go_wp2
     go_ret2
     exact⟨by rw[E.out];rfl,rfl⟩
   ·have e:fin2 (some x) 3 2048=(x,3):=by unfold fin2;dsimp only;rw[if_neg (by unfold q2uq;omega)]
    have E:=Lib.hid e
    have k3:¬55296≤(x:Int):=by omega
    clear e w1 w2 w3 hxx
    go_wp2
    go_ret2
    exact⟨by rw[E.out];rfl,rfl⟩
theorem q4ki(s:ByteArray)(pl:Nat)(w:World)(hs:s.size≤70000)(hp:pl < s.size)(h:240≤bytU s.data.toList pl∧bytU s.data.toList pl < 248) :
 Calls Tryz.prog 158 #[.string s,.int .i64 pl] w fun e w'=>e = .returned (.tuple #[.int .i64 ((fin2 (gor s.data.toList pl 3 (bytU s.data.toList pl - 240) 1) 4 65536).1:Int),.int .i64 ((fin2 (gor s.data.toList pl 3 (bytU s.data.toList pl - 240) 1) 4 65536).2:Int)])∧w=w':=by
 have hb:=qvvd s pl hp
 obtain⟨r,hr⟩:∃r,s[pl].toNat=r:=⟨_,rfl⟩
 rw[hr] at hb
 rw[←hb] at h ⊢
 clear hb
 have g1:¬(r:Int) < 128:=by omega
 have g2:¬(r:Int) < 224:=by omega
 have g3:¬(r:Int) < 240:=by omega
 have g4:240≤(r:Int):=by omega
 have g5:(r:Int) < 248:=by omega
 obtain⟨n0,hn0⟩:∃n0,r - 240=n0:=⟨_,rfl⟩
 rw[hn0]
 have g6:(r:Int) - 240=(n0:Int):=by omega
 have g7:n0 < 64:=by omega
 obtain⟨R,hR⟩:∃R,gor s.data.toList pl 3 n0 1=R:=⟨_,rfl⟩
 rw[hR]
 have hs':(s.size:Int)≤70000:=by omega
 have hp':(pl:Int) < (s.size:Int):=by omega
 clear h hn0
 go_enter Tryz.func158,Tryz.ntmps158
 go_wp2
 go_loop [6,9] (fun n i=>∃(x j:Nat),j < 4∧i = .int .i64 ((j+1:Nat):Int)∧n = .int .i64 (x:Int)∧x < 64^(j+1)∧gor s.data.toList pl (3 - j) x (j+1)=R) (fun _ i=>5 - (intOf i).toNat)
 case atStart=>exact⟨n0,0,by decide,rfl,rfl,by omega,hR⟩
 case round=>
  obtain⟨x,j,hj,rfl,rfl,hx,hg⟩:=hrel
  have hxx:x < 16777216:=Nat.lt_of_lt_of_le hx (Nat.pow_le_pow_right (n:=64) (by decide) (show j+1≤4 by omega))
  by_cases hlt:j+1 < 4
  ·have hx2:x < 262144:=Nat.lt_of_lt_of_le hx (Nat.pow_le_pow_right (n:=64) (by decide) (show j+1≤3 by omega))
   obtain⟨f,hf⟩:∃f,3 - j=f+1:=⟨3 - j - 1,by omega⟩
   rw[hf] at hg
   unfold gor at hg
   obtain⟨i,hi⟩:∃i,j+1=i:=⟨_,rfl⟩
   rw[hi] at hg hlt hx ⊢
   have t1:(i:Int) < 4:=by omega
   have t2:(pl:Int)+(i:Int)=((pl+i:Nat):Int):=by omega
   cases hm:mr s.data.toList (pl+i) with
   | none=>
    rw[hm] at hg
    dsimp only at hg
    subst hg
    have M:=Lib.hid (show ∀W,Calls Tryz.prog 167 #[.string s,.int .i64 ((pl:Int)+(i:Int))] W fun e w'=>e = .returned (.tuple #[.int .i64 0,.bool false])∧W=w' from fun W=>by rw[t2];exact qn8j s (pl+i) W hm)
    clear hm hi hf hR hx hxx hx2 t2 hj
    go_wp2_with fail
    refine(M.out _).mono ?_
    rintro e w' ⟨rfl,rfl⟩
    go_wp2_with fail
    go_ret2
    exact⟨rfl,rfl⟩
   | some m=>
    obtain⟨m1,m2,m3⟩:=qhxc hm
    rw[hm] at hg
    dsimp only at hg
    have M:=Lib.hid (show ∀W,Calls Tryz.prog 167 #[.string s,.int .i64 ((pl:Int)+(i:Int))] W fun e w'=>e = .returned (.tuple #[.int .i64 m,.bool true])∧W=w' from fun W=>by rw[t2];exact qfi2 s (pl+i) m W hm)
    have t3:(x:Int) < 262144:=by omega
    have t4:(m:Int) < 64:=by omega
    have NEXT:=Lib.hid (show((i:Int)+1)=((j+1+1:Nat):Int)∧64*(x:Int)+(m:Int)=((64*x+m:Nat):Int)∧64*x+m < 64^(j+1+1)∧gor s.data.toList pl (3 - (j+1)) (64*x+m) (j+1+1)=R from by
     subst hi
     refine⟨by omega,by omega,?_,?_⟩
     ·have e:64^(j+1+1)=64^(j+1)*64:=Nat.pow_succ ..
      omega
     ·have e:3 - (j+1)=f:=by omega
      rw[e];exact hg)
    have HJ:=Lib.hid (show j+1 < 4∧j+1=i from⟨by omega,hi⟩)
    clear hm hi hf hx hxx hx2 t2 hj hg m1 m2 m3 hlt hR
    go_wp2_with fail
    refine(M.out _).mono ?_
    rintro e w' ⟨rfl,rfl⟩
    go_wp2_with fail
    obtain⟨n1,n2,n3,n4⟩:=NEXT.out
    obtain⟨j1,j2⟩:=HJ.out
    go_round
    case rel=>exact⟨64*x+m,j+1,j1,by rw[←n1],by rw[←n2],n3,n4⟩
    case measure=>simp[intOf];omega
  ·have hjs:j=3:=by omega
   subst hjs
   have hg':some x=R:=hg
   subst hg'
   obtain⟨i,hi⟩:∃i,3+1=i:=⟨_,rfl⟩
   rw[hi]
   have t1:¬(i:Int) < 4:=by omega
   clear hj hx hlt hi hg hR
   by_cases w1:x < 65536
   ·have e:fin2 (some x) 4 65536=(0,0):=by unfold fin2;dsimp only;rw[if_pos (by unfold q2uq;omega)]
    have E:=Lib.hid e
    have k1:(x:Int) < 65536:=by omega
    clear e w1 hxx
    go_wp2
    go_ret2
    exact⟨by rw[E.out];rfl,rfl⟩
   have k1:¬(x:Int) < 65536:=by omega
   by_cases w2:1114111 < x
   ·have e:fin2 (some x) 4 65536=(0,0):=by unfold fin2;dsimp only;rw[if_pos (by unfold q2uq;omega)]
    have E:=Lib.hid e
    have k2:1114111 < (x:Int):=by omega
    clear e w1 w2 hxx
    go_wp2
    go_ret2
    exact⟨by rw[E.out];rfl,rfl⟩
   have k2:¬1114111 < (x:Int):=by omega
   by_cases w3:55296≤x
   ·have k3:55296≤(x:Int):=by omega
    by_cases w4:x≤57343
    ·have e:fin2 (some x) 4 65536=(0,0):=by unfold fin2;dsimp only;rw[if_pos (by unfold q2uq;omega)]
     have E:=Lib.hid e
     have k4:(x:Int)≤57343:=by omega
     clear e w1 w2 w3 w4 hxx
     go_wp2
     go_ret2
     exact⟨by rw[E.out];rfl,rfl⟩
    ·have e:fin2 (some x) 4 65536=(x,4):=by unfold fin2;dsimp only;rw[if_neg (by unfold q2uq;omega)]
     have E:=Lib.hid e
     have k4:¬(x:Int)≤57343:=by omega
     clear e w1 w2 w3 w4 hxx
     go_wp2
     go_ret2
     exact⟨by rw[E.out];rfl,rfl⟩
   ·have e:fin2 (some x) 4 65536=(x,4):=by unfold fin2;dsimp only;rw[if_neg (by unfold q2uq;omega)]
    have E:=Lib.hid e
    have k3:¬55296≤(x:Int):=by omega
    clear e w1 w2 w3 hxx
    go_wp2
    go_ret2
    exact⟨by rw[E.out];rfl,rfl⟩
theorem q1zs(s:ByteArray)(pl:Nat)(w:World)(hs:s.size≤70000)(hp:pl < s.size) :
 Calls Tryz.prog 158 #[.string s,.int .i64 pl] w fun e w'=>e = .returned (.tuple #[.int .i64 ((ptr s.data.toList pl).1:Int),.int .i64 ((ptr s.data.toList pl).2:Int)])∧w=w':=by
 have hb:bytU s.data.toList pl < 256:=(s.data.toList.getD pl 0).toNat_lt
 unfold ptr
 by_cases h0:bytU s.data.toList pl < 128
 ·rw[if_pos h0];exact qowi s pl w hs hp h0
 rw[if_neg h0]
 by_cases h1:192≤bytU s.data.toList pl∧bytU s.data.toList pl < 224
 ·rw[if_pos h1];exact qx4p s pl w hs hp h1
 rw[if_neg h1]
 by_cases h2:224≤bytU s.data.toList pl∧bytU s.data.toList pl < 240
 ·rw[if_pos h2];exact qnww s pl w hs hp h2
 rw[if_neg h2]
 by_cases h3:240≤bytU s.data.toList pl∧bytU s.data.toList pl < 248
 ·rw[if_pos h3];exact q4ki s pl w hs hp h3
 rw[if_neg h3]
 by_cases h4:bytU s.data.toList pl < 192
 ·exact q3xz s pl w hs hp ⟨by omega,h4⟩
 ·exact qb34 s pl w hs hp ⟨by omega,hb⟩
end Go.Proofs.YtbklidpadffpgaaGreat
