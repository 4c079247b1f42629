/- The contracts of topic.Filter and Dollar, and of what they call. Condition: a string no longer than an int says. -/
import Derived.Test.YtefmhbioggcfaaaGreatDoorK23
import Derived.Test.YtefmhbioggcfaaaGreatDoorK41
set_option maxHeartbeats 1000000
namespace Go.Proofs.YtefmhbioggcfaaaGreatDoor
open Lib(hid)
open Proofs.Tryz
open Go.RowKit Go.Shelf
theorem qi3d(l:List UInt8)(ls:List (List UInt8)):okl (l::ls)↔((43:UInt8)∈l->l=[43])/\((35:UInt8)∈l->l=[35]/\ls=[])/\okl ls:=Iff.rfl
theorem qx1g(l:List UInt8)(ls:List (List UInt8)):okl (l::ls)↔(wild l=true->l=[43]\/(l=[35]/\ls=[]))/\okl ls:=by
 rw[qi3d];unfold wild;simp only[decide_eq_true_eq];constructor
 ·rintro⟨h1,h2,h3⟩;exact⟨fun h=>h.elim (fun x => .inl (h1 x)) (fun x => .inr (h2 x)),h3⟩
 ·rintro⟨h1,h3⟩;refine⟨fun x=>?_,fun x=>?_,h3⟩
  ·rcases h1 (.inl x) with h|⟨h,_⟩
   ·exact h
   ·subst h;simp at x
  ·rcases h1 (.inr x) with h|h
   ·subst h;simp at x
   ·exact h
theorem q5vb(l:List UInt8)(c:List UInt8):((bs l).toList==c)=decide (l=c):=by rw[q0c6,Bool.eq_iff_iff];simp
theorem qb9d(A:Option Addr)(n c:Nat)(ls:List (List UInt8))(w:World)(h:SR w A ls)(hn:n=ls.length)(hne:ls≠[])(hc:n<=c)(hN:n<=70000)(hl:∀l∈ls,l.length<=70000) :
 Calls prog 249 #[.slice A n c] w fun e w'=>e=.returned (.bool (decide (okl ls)))/\Below w.heap.size w w':=by
 obtain⟨g,i,rfl,hg,hcell⟩:=h hne;have hn1:(1:Int)<=(n:Int):=by have:=List.length_pos_iff.2 hne;omega
 have hn2:(n:Int)<=70000:=by omega
 have HC:=hid hcell;obtain⟨B,hB⟩:∃B,decide (okl ls)=B:=⟨_,rfl⟩
 rw[hB];have HB:=hid hB;clear hcell h hne hB;have HN:=hid hn;clear hn hN;go_in;go_wp2_with fail
 go_loopg [12] n (fun gk s12 wx=>∃k:Nat,k<=n/\gk=n-k/\s12=.int .i64 (k:Int)/\decide (okl (ls.drop k))=B/\Below w.heap.size w wx)
 case atStart=>exact⟨0,by omega,by omega,rfl,HB.out,Below.refl _ _⟩
 case round=>
  obtain⟨k,hk,hgk,rfl,hB,hb⟩:=hrel;have HBK:=hid hb;by_cases hlt:k<n
  ·have hkl:k<ls.length:=by rw[<-HN.out];exact hlt
   have hdr:ls.drop k=ls.getD k []::ls.drop (k+1):=by rw[List.drop_eq_getElem_cons hkl,List.getD_eq_getElem?_getD,List.getElem?_eq_getElem hkl];rfl
   have hll:(ls.getD k []).length<=70000:=hl _ (by rw[List.getD_eq_getElem?_getD,List.getElem?_eq_getElem hkl];exact List.getElem_mem hkl);have hcell:wr.cell? ⟨g,i+k,none⟩=some (.string (bs (ls.getD k []))):=(hb.cell (p:=⟨g,i+k,none⟩) hg).trans (HC.out k hkl);have hlast:ls.drop (k+1)=[]↔(k:Int)=(n:Int)-1:=by rw[List.drop_eq_nil_iff,<-HN.out];omega
   rw[hdr] at hB;have hoc:=qx1g (ls.getD k []) (ls.drop (k+1));rw[hlast] at hoc;have hE:=fun c=>q5vb (ls.getD k []) c;have hW:=fun W=>qok8 (bs (ls.getD k [])) W (by rw[q5zk];omega);rw[qkd1] at hW;generalize ls.getD k []=l at *;have NEXT:decide (okl (ls.drop (k+1)))=decide (okl (ls.drop (k+1))):=rfl;obtain⟨D,hD⟩:∃D,ls.drop (k+1)=D:=⟨_,rfl⟩
   rw[hD] at hB hoc;have HD:=hid hD;clear hD hdr hkl hll hlast NEXT hb;have hW:=hid hW;have g1:(k:Int)<(n:Int):=by omega
   by_cases h43:l=[43]
   ·have e1:=hE [43];rw[decide_eq_true h43] at e1;have w1:wild l=true:=by rw[h43];rfl
    rw[w1] at hW;have B2:=hid (show decide (okl D)=B by rw[<-hB,decide_eq_decide,hoc];simp[h43]);clear hE h43 w1 hoc hB;go_wp2_with fail;refine(hW.out _).mono ?_;rintro e w' ⟨rfl,hb2⟩;have HB2:=hid (HBK.out.trans (hb2.mono HBK.out.size));clear hb2;go_wp2_with fail
    go_roundg (n-(k+1))
    case measure=>omega
    case rel=>exact⟨k+1,by omega,rfl,by go_num,by rw[HD.out];exact B2.out,HB2.out⟩
   ·have e1:=hE [43];rw[decide_eq_false h43] at e1;by_cases h35:l=[35]
    ·have e2:=hE [35];rw[decide_eq_true h35] at e2;have w1:wild l=true:=by rw[h35];rfl
     rw[w1] at hW;by_cases hkn:(k:Int)=(n:Int)-1
     ·have B2:=hid (show decide (okl D)=B by rw[<-hB,decide_eq_decide,hoc];simp[h35,hkn]);have e3:((k:Int)==(n:Int)-1)=true:=by simp[hkn]
      clear hE h43 h35 w1 hoc hB hkn;go_wp2_with fail;refine(hW.out _).mono ?_;rintro e w' ⟨rfl,hb2⟩;have HB2:=hid (HBK.out.trans (hb2.mono HBK.out.size));clear hb2;go_wp2_with fail
      go_roundg (n-(k+1))
      case measure=>omega
      case rel=>exact⟨k+1,by omega,rfl,by go_num,by rw[HD.out];exact B2.out,HB2.out⟩
     ·have B2:=hid (show false=B by rw[<-hB,eq_comm,decide_eq_false_iff_not,hoc];simp[h35,hkn,wild]);have e3:((k:Int)==(n:Int)-1)=false:=by simp[hkn]
      clear hE h43 h35 w1 hoc hB hkn;go_wp2_with fail;refine(hW.out _).mono ?_;rintro e w' ⟨rfl,hb2⟩;have HB2:=hid (HBK.out.trans (hb2.mono HBK.out.size));clear hb2;go_wp2;go_ret;exact⟨by rw[<-B2.out];rfl,HB2.out⟩
    ·have e2:=hE [35];rw[decide_eq_false h35] at e2;cases hwl:wild l with
     |true=>have B2:=hid (show false=B by rw[<-hB,eq_comm,decide_eq_false_iff_not,hoc];simp[h35,h43,hwl]);rw[hwl] at hW;clear hE h43 h35 hoc hB hwl;go_wp2_with fail;refine(hW.out _).mono ?_;rintro e w' ⟨rfl,hb2⟩;have HB2:=hid (HBK.out.trans (hb2.mono HBK.out.size));clear hb2;go_wp2;go_ret;exact⟨by rw[<-B2.out];rfl,HB2.out⟩
     |false=>
      have B2:=hid (show decide (okl D)=B by rw[<-hB,decide_eq_decide,hoc];simp[hwl]);rw[hwl] at hW;clear hE h43 h35 hoc hB hwl;go_wp2_with fail;refine(hW.out _).mono ?_;rintro e w' ⟨rfl,hb2⟩;have HB2:=hid (HBK.out.trans (hb2.mono HBK.out.size));clear hb2;go_wp2_with fail
      go_roundg (n-(k+1))
      case measure=>omega
      case rel=>exact⟨k+1,by omega,rfl,by go_num,by rw[HD.out];exact B2.out,HB2.out⟩
  ·have hkn:k=n:=by omega
   subst hkn;have hD:ls.drop k=[]:=List.drop_eq_nil_of_le (by rw[<-HN.out];exact Nat.le_refl _);rw[hD] at hB;have B2:=hid (show true=B from hB);clear hB hD hb;go_wp2;go_ret;exact⟨by rw[<-B2.out];rfl,HBK.out⟩
theorem q8eo{l:List UInt8}:∀{ls:List (List UInt8)},l∈ls->l.length<=(q8nq ls).length
 |[],h=>by simp at h
 |[m],h=>by simp at h;subst h;exact Nat.le_refl _
 |m::k::ls,h=>by
  rw[qcnz m (by simp),List.length_append,List.length_cons];rcases List.mem_cons.1 h with rfl|h
  ·omega
  ·have:=q8eo h;omega
theorem q0j1(s:List UInt8):(lvls s).length<=s.length+1:=by rw[qspi];have:=List.count_le_length (a:=(47:UInt8)) (l:=s);omega
theorem q0hd{s l:List UInt8}(h:l∈lvls s):l.length<=s.length:=by have:=q8eo h;rwa [qz8l] at this
theorem qce3(s:List UInt8):qw8n s=(q2sp s&&decide (okl (lvls s))):=by unfold qw8n q2sp;rw[Bool.and_assoc]
theorem q6o8(s:ByteArray)(w:World)(hs:s.size<=9223372036854775807) :
 Calls prog 219 #[.string s] w fun e w'=>e=.returned (.bool (qw8n s.data.toList))/\Below w.heap.size w w':=by
 have ht:=qigp s w hs;have hn:=qce3 s.data.toList;cases hx:q2sp s.data.toList with
 |false=>rw[hx] at ht hn;rw[Bool.false_and] at hn;rw[hn];have ht:=hid ht;clear hn hx;go_in;go_wp2_with fail;refine(ht.out).mono ?_;rintro e w' ⟨rfl,hb⟩;go_wp2;go_ret;exact⟨rfl,hb⟩
 |true=>
  have hle:=qmo6 hx;have hll:=q0j1 s.data.toList;rw[<-Lib.size_eq] at hll;have hL:=hid (fun W=>qi28 s W (by omega));have hA:=hid (fun(W:World)=>qb9d (some ⟨W.heap.size,0,none⟩) (lvls s.data.toList).length (lvls s.data.toList).length (lvls s.data.toList) (W.alloc (.cells (strs (lvls s.data.toList)).toArray 9)) (SR.alloc _) rfl (q6q5 _) (Nat.le_refl _) (by omega) (fun l hl=>by
   have:=q0hd hl
   rw[<-Lib.size_eq] at this;omega))
  rw[hx] at ht hn;rw[Bool.true_and] at hn;rw[hn];have ht:=hid ht;clear hn hx hle hll;generalize decide (okl (lvls s.data.toList))=b at *;go_in;go_wp2_with fail;refine(ht.out).mono ?_;rintro e w' ⟨rfl,hb⟩;go_wp2_with fail;refine(hL.out _).mono ?_;rintro e w2 ⟨rfl,rfl⟩;go_wp2_with fail;refine(hA.out w').mono ?_;rintro e w2 ⟨rfl,hb2⟩;go_wp2;go_ret;exact⟨rfl,hb.trans ((((Below.refl _ w').alloc (Nat.le_refl _) _).trans (hb2.mono (by simp))).mono hb.size)⟩
theorem qtf5{g f:List UInt8}(hg:(47:UInt8)∉g):qar3 (share++47::(g++47::f))=if qecx (share++47::(g++47::f))=true/\g≠[]/\wild g=false/\qw8n f=true then(g,f,true) else([],[],false):=by
 have e:lvls (share++47::(g++47::f))=share::g::lvls f:=by rw[quk3 qt0s,quk3 hg]
 obtain⟨l,ls,eb⟩:=List.exists_cons_of_ne_nil (q6q5 f);have hjb:q8nq (l::ls)=f:=by rw[<-eb,qz8l]
 unfold qar3;rw[e,eb];simp only[hjb];have key:(qecx (share++47::(g++47::f))=true/\True/\g≠[]/\(43:UInt8)∉g/\(35:UInt8)∉g/\qw8n f=true)↔(qecx (share++47::(g++47::f))=true/\g≠[]/\wild g=false/\qw8n f=true):=by unfold wild;simp only[decide_eq_false_iff_not,not_or,true_and,and_assoc]
 by_cases hc:qecx (share++47::(g++47::f))=true/\g≠[]/\wild g=false/\qw8n f=true
 ·rw[if_pos hc,if_pos (key.2 hc)]
 ·rw[if_neg hc,if_neg (fun h=>hc (key.1 h))]
theorem qviv{r:List UInt8}(hg:(47:UInt8)∉r):qar3 (share++47::r)=([],[],false):=by unfold qar3;rw[quk3 qt0s,qty4 hg]
theorem q1b7{s:List UInt8}(h:¬∃r,s=share++47::r):qar3 s=([],[],false):=by
 rcases qe2w s with ⟨g,f,_,e,_⟩|h2
 ·exact absurd ⟨_,e⟩ h
 ·exact h2
theorem qn62{s:List UInt8}(h:qecx s=false):qar3 s=([],[],false):=by
 rcases qe2w s with ⟨g,f,_,_,_,_,e,_⟩|h2
 ·rw[h] at e;cases e
 ·exact h2
def front:ByteArray:=⟨#[36,115,104,97,114,101,47]⟩
theorem qiyf(l:List UInt8):Lib.hasPrefix l front.data.toList=true↔∃r,l=share++47::r:=by
 unfold Lib.hasPrefix;rw[List.isPrefixOf_iff_prefix];constructor
 ·rintro⟨r,h⟩;exact⟨r,h.symm⟩
 ·rintro⟨r,h⟩;exact⟨r,h.symm⟩
theorem qfsi(s:ByteArray)(r:List UInt8)(w:World)(h:s.data.toList=share++47::r) :
 Calls prog 284 #[.string s,.string front] w fun e w'=>e=.returned (.tuple #[.string (bs r),.bool true])/\w=w':=by
 have hp:Lib.hasPrefix s.data.toList front.data.toList=true:=(qiyf _).2 ⟨r,h⟩;have c:=Any.stringslite_HasPrefix (P:=prog) q0mj s front w;rw[hp] at c;have c:Calls prog 286 #[.string s,.string front] w fun e w'=>e=.returned (.bool true)/\w'=w:=c;have c:=hid c;have hsz:front.size=7:=rfl;have h7:(7:Int)<=(s.size:Int):=by
  have:=Lib.size_eq s
  rw[h] at this;simp[share] at this;omega
 have hext:s.extract 7 s.size=bs r:=by
  rw[<-qhho (s.extract 7 s.size),ByteArray.data_extract,Array.toList_extract,List.extract_eq_take_drop,h];have hl:s.size-7=r.length:=by
   have:=Lib.size_eq s
   rw[h] at this;simp[share] at this;omega
  rw[hl];simp[share]
 have hext2:=hid hext;clear hp h hext;have c2:Calls prog 294 #[.string s,.string front] w fun e w'=>e=.returned (.tuple #[.string (bs r),.bool true])/\w=w':=by
  go_in;go_wp2_with fail;refine(c.out).mono ?_;rintro e w' ⟨rfl,rfl⟩;go_wp2
  go_ret2
  exact⟨by rw[<-hext2.out];rfl,rfl⟩
 have c2:=hid c2;go_in;go_wp2_with fail;refine(c2.out).mono ?_;rintro e w' ⟨rfl,rfl⟩;go_wp2
 go_ret2
 exact⟨rfl,rfl⟩
theorem qvjh(s:ByteArray)(w:World)(h:¬∃r,s.data.toList=share++47::r) :
 Calls prog 284 #[.string s,.string front] w fun e w'=>e=.returned (.tuple #[.string s,.bool false])/\w=w':=by
 have hp:Lib.hasPrefix s.data.toList front.data.toList=false:=Bool.eq_false_iff.2 fun e=>h ((qiyf _).1 e);have c:=Any.stringslite_HasPrefix (P:=prog) q0mj s front w;rw[hp] at c;have c:Calls prog 286 #[.string s,.string front] w fun e w'=>e=.returned (.bool false)/\w'=w:=c;have c:=hid c;clear hp h;have c2:Calls prog 294 #[.string s,.string front] w fun e w'=>e=.returned (.tuple #[.string s,.bool false])/\w=w':=by
  go_in;go_wp2_with fail;refine(c.out).mono ?_;rintro e w' ⟨rfl,rfl⟩;go_wp2
  go_ret2
  exact⟨rfl,rfl⟩
 have c2:=hid c2;go_in;go_wp2_with fail;refine(c2.out).mono ?_;rintro e w' ⟨rfl,rfl⟩;go_wp2
 go_ret2
 exact⟨rfl,rfl⟩
theorem qg5z(s:ByteArray)(g f:List UInt8)(w:World)(h:s.data.toList=g++47::f)(hg:(47:UInt8)∉g)(hs:s.size<4000000000) :
 Calls prog 285 #[.string s,.string ⟨#[47]⟩] w fun e w'=>e=.returned (.tuple #[.string (bs g),.string (bs f),.bool true])/\∃n,w'=w.drewN n:=by
 have c:Calls prog 300 #[.string s,.string ⟨#[47]⟩] w fun e w'=>e=.returned (.int .i64 (g.length:Int))/\w'=w:=by have c:=Any.stringslite_Index_one (P:=prog) qcnx s 47 w;rw[h,q1pq g f hg] at c;exact c
 have hlen:s.size=g.length+1+f.length:=by rw[Lib.size_eq,h];simp;omega
 have e1:s.extract 0 g.length=bs g:=by rw[<-qhho (s.extract 0 g.length),ByteArray.data_extract,Array.toList_extract,List.extract_eq_take_drop,h];simp
 have e2:s.extract (g.length+1) s.size=bs f:=by rw[<-qhho (s.extract (g.length+1) s.size),ByteArray.data_extract,Array.toList_extract,List.extract_eq_take_drop,h,hlen];simp[show g.length+1+f.length-(g.length+1)=f.length by omega]
 obtain⟨k,hk⟩:∃k,g.length=k:=⟨_,rfl⟩
 rw[hk] at c hlen e1 e2;have e1:=hid e1;have e2:=hid e2;have c:=hid c;have g1:(k:Int)+1<=(s.size:Int):=by omega
 have g2:(s.size:Int)<=4000000000:=by omega
 have g3:(k:Int)<=(s.size:Int):=by omega
 clear h hg hlen hk hs;have c2:Calls prog 295 #[.string s,.string ⟨#[47]⟩] w fun e w'=>e=.returned (.tuple #[.string (bs g),.string (bs f),.bool true])/\∃n,w'=w.drewN n:=by
  go_in;go_wp2_with fail;refine(c.out).mono ?_;rintro e w' ⟨rfl,rfl⟩;go_wp2_with fail;go_quiet (fail);go_wp2
  go_ret3
  exact⟨by rw[<-e1.out,<-e2.out];rfl,_,rfl⟩
 have c2:=hid c2;go_in;go_wp2_with fail;refine(c2.out).mono ?_;rintro e w' ⟨rfl,hq⟩;go_wp2
 go_ret3
 exact⟨rfl,hq⟩
theorem qucs(s:ByteArray)(w:World)(hg:(47:UInt8)∉s.data.toList) :
 Calls prog 285 #[.string s,.string ⟨#[47]⟩] w fun e w'=>e=.returned (.tuple #[.string s,.string ⟨#[]⟩,.bool false])/\w=w':=by
 have c:Calls prog 300 #[.string s,.string ⟨#[47]⟩] w fun e w'=>e=.returned (.int .i64 (-1))/\w'=w:=by have c:=Any.stringslite_Index_one (P:=prog) qcnx s 47 w;rw[q2df hg] at c;exact c
 have c:=hid c;clear hg;have c2:Calls prog 295 #[.string s,.string ⟨#[47]⟩] w fun e w'=>e=.returned (.tuple #[.string s,.string ⟨#[]⟩,.bool false])/\w=w':=by
  go_in;go_wp2_with fail;refine(c.out).mono ?_;rintro e w' ⟨rfl,rfl⟩;go_wp2
  go_ret3
  exact⟨rfl,rfl⟩
 have c2:=hid c2;go_in;go_wp2_with fail;refine(c2.out).mono ?_;rintro e w' ⟨rfl,rfl⟩;go_wp2
 go_ret3
 exact⟨rfl,rfl⟩
def shv(x:List UInt8×List UInt8×Bool):Value := .tuple #[.string (bs x.1),.string (bs x.2.1),.bool x.2.2]
theorem qphx:shv ([],[],false)=.tuple #[.string ⟨#[]⟩,.string ⟨#[]⟩,.bool false]:=rfl
theorem q827(s:ByteArray)(w:World)(hs:s.size<4000000000) :
 Calls prog 275 #[.string s] w fun e w'=>e=.returned (shv (qar3 s.data.toList))/\Below w.heap.size w w':=by
 by_cases hp:∃r,s.data.toList=share++47::r
 ·obtain⟨r,hr⟩:=hp;have hP:=qfsi s r w hr;have hV:=fun W=>qkls s W (by omega);have hrl:r.length<4000000000:=by
   have:=Lib.size_eq s
   rw[hr] at this;simp[share] at this;omega
  cases hv:qecx s.data.toList with
  |false=>
   rw[qn62 hv,qphx];rw[hv] at hV;have hV:=hid hV;have hP:=hid hP;clear hr hv;go_in;go_wp2_with fail;refine(hP.out).mono ?_;rintro e w' ⟨rfl,rfl⟩;go_wp2_with fail;refine(hV.out _).mono ?_;rintro e w1 ⟨rfl,hb1⟩;go_wp2
   go_ret3
   exact⟨rfl,hb1⟩
  |true=>
   rw[hv] at hV;rcases qfnz r with hno|⟨g,f,hgf,hg⟩
   ·have e0:qar3 s.data.toList=([],[],false):=by rw[hr];exact qviv hno
    rw[e0,qphx];have hC:=qucs (bs r);rw[qkd1] at hC;have hC:=fun W=>hC W hno;have hF:∀W,Calls prog 219 #[.string ⟨#[]⟩] W fun e w'=>e=.returned (.bool false)/\Below W.heap.size W w':=fun W=>q6o8 ⟨#[]⟩ W (by decide);have hW:=fun W=>qok8 (bs r) W (by rw[q5zk];exact hrl);rw[qkd1] at hW;have hV:=hid hV;have hP:=hid hP;have hC:=hid hC;have hF:=hid hF;clear hr hv e0 hno hrl hs;by_cases hr0:r=[]
    ·subst hr0;have hemp:(bs []).toList.isEmpty=true:=by rw[q0c6];rfl
     clear hW;go_in;go_wp2_with fail;refine(hP.out).mono ?_;rintro e w' ⟨rfl,rfl⟩;go_wp2_with fail;refine(hV.out _).mono ?_;rintro e w1 ⟨rfl,hb1⟩;have hb1:=hid hb1;go_wp2_with fail;refine(hC.out _).mono ?_;rintro e w2 ⟨rfl,rfl⟩;have hb2:=hb1;go_wp2
     go_ret3
     exact⟨rfl,hb2.out⟩
    ·have hemp:(bs r).toList.isEmpty=false:=by rw[q0c6,List.isEmpty_eq_false_iff];exact hr0
     cases hwd:wild r with
     |true=>
      rw[hwd] at hW;have hW:=hid hW;clear hr0 hwd;go_in;go_wp2_with fail;refine(hP.out).mono ?_;rintro e w' ⟨rfl,rfl⟩;go_wp2_with fail;refine(hV.out _).mono ?_;rintro e w1 ⟨rfl,hb1⟩;have hb1:=hid hb1;go_wp2_with fail;refine(hC.out _).mono ?_;rintro e w2 ⟨rfl,rfl⟩;have hb2:=hb1;go_wp2_with fail;refine(hW.out _).mono ?_;rintro e w3 ⟨rfl,hb3⟩;have hb3:=hid (hb2.out.trans (hb3.mono hb2.out.size));go_wp2
      go_ret3
      exact⟨rfl,hb3.out⟩
     |false=>
      rw[hwd] at hW;have hW:=hid hW;clear hr0 hwd;go_in;go_wp2_with fail;refine(hP.out).mono ?_;rintro e w' ⟨rfl,rfl⟩;go_wp2_with fail;refine(hV.out _).mono ?_;rintro e w1 ⟨rfl,hb1⟩;have hb1:=hid hb1;go_wp2_with fail;refine(hC.out _).mono ?_;rintro e w2 ⟨rfl,rfl⟩;have hb2:=hb1;go_wp2_with fail;refine(hW.out _).mono ?_;rintro e w3 ⟨rfl,hb3⟩;have hb3:=hid (hb2.out.trans (hb3.mono hb2.out.size));go_wp2_with fail;refine(hF.out _).mono ?_;rintro e w4 ⟨rfl,hb4⟩;have hb4:=hid (hb3.out.trans (hb4.mono hb3.out.size));go_wp2
      go_ret3
      exact⟨rfl,hb4.out⟩
   ·subst hgf;have e0:qar3 s.data.toList=if g≠[]/\wild g=false/\qw8n f=true then(g,f,true) else([],[],false):=by rw[hr,qtf5 hg,<-hr,hv];simp
    rw[List.length_append,List.length_cons] at hrl;have hC:=fun W=>qg5z (bs (g++47::f)) g f W rfl hg (by rw[q5zk,List.length_append,List.length_cons];exact hrl);have hF:=fun W=>q6o8 (bs f) W (by rw[q5zk];omega);rw[qkd1] at hF;have hW:=fun W=>qok8 (bs g) W (by rw[q5zk];omega);rw[qkd1] at hW;have hV:=hid hV;have hP:=hid hP;have hC:=hid hC;by_cases hr0:g=[]
    ·have e1:qar3 s.data.toList=([],[],false):=by rw[e0];simp[hr0]
     rw[e1,qphx];subst hr0;have hemp:(bs []).toList.isEmpty=true:=by rw[q0c6];rfl
     clear hr hv e0 e1 hrl hs hg hW hF;go_in;go_wp2_with fail;refine(hP.out).mono ?_;rintro e w' ⟨rfl,rfl⟩;go_wp2_with fail;refine(hV.out _).mono ?_;rintro e w1 ⟨rfl,hb1⟩;have hb1:=hid hb1;go_wp2_with fail;refine(hC.out _).mono ?_;rintro e w2 ⟨rfl,q,rfl⟩;have hb2:=hid (qnpu hb1.out q);go_wp2
     go_ret3
     exact⟨rfl,hb2.out⟩
    ·have hemp:(bs g).toList.isEmpty=false:=by rw[q0c6,List.isEmpty_eq_false_iff];exact hr0
     cases hwd:wild g with
     |true=>
      have e1:qar3 s.data.toList=([],[],false):=by rw[e0];simp[hwd]
      rw[e1,qphx];rw[hwd] at hW;have hW:=hid hW;clear hr hv e0 e1 hrl hs hg hr0 hwd hF;go_in;go_wp2_with fail;refine(hP.out).mono ?_;rintro e w' ⟨rfl,rfl⟩;go_wp2_with fail;refine(hV.out _).mono ?_;rintro e w1 ⟨rfl,hb1⟩;have hb1:=hid hb1;go_wp2_with fail;refine(hC.out _).mono ?_;rintro e w2 ⟨rfl,q,rfl⟩;have hb2:=hid (qnpu hb1.out q);go_wp2_with fail;refine(hW.out _).mono ?_;rintro e w3 ⟨rfl,hb3⟩;have hb3:=hid (hb2.out.trans (hb3.mono hb2.out.size));go_wp2
      go_ret3
      exact⟨rfl,hb3.out⟩
     |false=>
      rw[hwd] at hW;have hW:=hid hW;cases hfl:qw8n f with
      |false=>
       have e1:qar3 s.data.toList=([],[],false):=by rw[e0];simp[hfl]
       rw[e1,qphx];rw[hfl] at hF;have hF:=hid hF;clear hr hv e0 e1 hrl hs hg hr0 hwd hfl;go_in;go_wp2_with fail;refine(hP.out).mono ?_;rintro e w' ⟨rfl,rfl⟩;go_wp2_with fail;refine(hV.out _).mono ?_;rintro e w1 ⟨rfl,hb1⟩;have hb1:=hid hb1;go_wp2_with fail;refine(hC.out _).mono ?_;rintro e w2 ⟨rfl,q,rfl⟩;have hb2:=hid (qnpu hb1.out q);go_wp2_with fail;refine(hW.out _).mono ?_;rintro e w3 ⟨rfl,hb3⟩;have hb3:=hid (hb2.out.trans (hb3.mono hb2.out.size));go_wp2_with fail;refine(hF.out _).mono ?_;rintro e w4 ⟨rfl,hb4⟩;have hb4:=hid (hb3.out.trans (hb4.mono hb3.out.size));go_wp2
       go_ret3
       exact⟨rfl,hb4.out⟩
      |true=>
       have e1:qar3 s.data.toList=(g,f,true):=by rw[e0];simp[hfl,hwd,hr0]
       rw[e1];rw[hfl] at hF;have hF:=hid hF;clear hr hv e0 e1 hrl hs hg hr0 hwd hfl;go_in;go_wp2_with fail;refine(hP.out).mono ?_;rintro e w' ⟨rfl,rfl⟩;go_wp2_with fail;refine(hV.out _).mono ?_;rintro e w1 ⟨rfl,hb1⟩;have hb1:=hid hb1;go_wp2_with fail;refine(hC.out _).mono ?_;rintro e w2 ⟨rfl,q,rfl⟩;have hb2:=hid (qnpu hb1.out q);go_wp2_with fail;refine(hW.out _).mono ?_;rintro e w3 ⟨rfl,hb3⟩;have hb3:=hid (hb2.out.trans (hb3.mono hb2.out.size));go_wp2_with fail;refine(hF.out _).mono ?_;rintro e w4 ⟨rfl,hb4⟩;have hb4:=hid (hb3.out.trans (hb4.mono hb3.out.size));go_wp2
       go_ret3
       exact⟨rfl,hb4.out⟩
 ·rw[q1b7 hp,qphx];have hP:=hid (qvjh s w hp);clear hp hs;go_in;go_wp2_with fail;refine(hP.out).mono ?_;rintro e w' ⟨rfl,rfl⟩;go_wp2
  go_ret3
  exact⟨rfl,Below.refl _ _⟩
end Go.Proofs.YtefmhbioggcfaaaGreatDoor
