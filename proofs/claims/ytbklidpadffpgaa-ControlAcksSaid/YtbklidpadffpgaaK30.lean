/- Plain facts on prop's rules: what stands at an id is the row of the document's table; the kinds as bits. No condition. -/
import Derived.Test.YtbklidpadffpgaaK08
import Derived.Test.YtbklidpadffpgaaK29
import Derived.Test.YtbklidpadffpgaaK02
namespace Go.Proofs.Ytbklidpadffpgaa
open Go.RowKit
def qavf(id:Int):Nat:=(prow id).kinds.foldr (fun k m=>m+2^k.toNat) 0
theorem qbqu(z:Value):∀(l:List (Int×Value)) (i:Int),(∀p∈l,i≠p.1)→q1n3 z l i=z
 | [],_,_=>rfl
 | p::l,i,h=>by
  rw[q1n3,if_neg (h p (List.mem_cons_self ..))]
  exact qbqu z l i (fun q hq=>h q (List.mem_cons_of_mem _ hq))
theorem q2yr:∀p∈rulesL,1≤p.1∧p.1≤42:=by
 intro p hp
 have h:=List.mem_map_of_mem (f:=Prod.fst) hp
 have:∀k∈rulesL.map Prod.fst,1≤k∧k≤42:=by decide
 exact this _ h
theorem q52f(id:Int):q1n3 q32g rulesL id=q3al (prow id).shape (qavf id) (prow id).least:=by
 rcases Int.lt_or_le id 1 with h | h
 ·rw[qbqu _ _ _ (fun p hp e=>by have:=q2yr p hp;omega)]
  unfold qavf
  rw[q0dw (.inl h)];rfl
 ·rcases Int.lt_or_le 42 id with h2 | h2
  ·rw[qbqu _ _ _ (fun p hp e=>by have:=q2yr p hp;omega)]
   unfold qavf
   rw[q0dw (.inr h2)];rfl
  ·obtain⟨n,rfl⟩:=Int.eq_ofNat_of_zero_le (show 0≤id by omega)
   have hn:n≤42:=by omega
   clear h h2
   match n,hn with
   | 0,_=>rfl
   | 1,_=>rfl
   | 2,_=>rfl
   | 3,_=>rfl
   | 4,_=>rfl
   | 5,_=>rfl
   | 6,_=>rfl
   | 7,_=>rfl
   | 8,_=>rfl
   | 9,_=>rfl
   | 10,_=>rfl
   | 11,_=>rfl
   | 12,_=>rfl
   | 13,_=>rfl
   | 14,_=>rfl
   | 15,_=>rfl
   | 16,_=>rfl
   | 17,_=>rfl
   | 18,_=>rfl
   | 19,_=>rfl
   | 20,_=>rfl
   | 21,_=>rfl
   | 22,_=>rfl
   | 23,_=>rfl
   | 24,_=>rfl
   | 25,_=>rfl
   | 26,_=>rfl
   | 27,_=>rfl
   | 28,_=>rfl
   | 29,_=>rfl
   | 30,_=>rfl
   | 31,_=>rfl
   | 32,_=>rfl
   | 33,_=>rfl
   | 34,_=>rfl
   | 35,_=>rfl
   | 36,_=>rfl
   | 37,_=>rfl
   | 38,_=>rfl
   | 39,_=>rfl
   | 40,_=>rfl
   | 41,_=>rfl
   | 42,_=>rfl
   | n+43,h=>exact absurd h (by omega)
def bitP(m:Nat)(kind:Int):Bool:=decide (0≤kind∧kind < 32)&&decide (m / 2^kind.toNat%2=1)
theorem qg72(ks:List Int)(h:(List.range 32).all (fun k=>decide ((ks.foldr (fun k m=>m+2^k.toNat) 0) / 2^k%2=1)==ks.contains (k:Int))=true)(hk:∀k∈ks,0≤k∧k < 32)(kind:Int) :
 bitP (ks.foldr (fun k m=>m+2^k.toNat) 0) kind=ks.contains kind:=by
 unfold bitP
 by_cases hr:0≤kind∧kind < 32
 ·rw[decide_eq_true hr,Bool.true_and]
  obtain⟨n,rfl⟩:=Int.eq_ofNat_of_zero_le hr.1
  have:=List.all_eq_true.1 h n (List.mem_range.2 (by omega))
  rw[beq_iff_eq] at this
  exact this
 ·rw[decide_eq_false hr,Bool.false_and]
  cases hc:ks.contains kind with
  | false=>rfl
  | true=>exact absurd (hk kind (by simpa using hc)) hr
theorem qqfu(kind id:Int):bitP (qavf id) kind=mayP kind id:=by
 unfold qavf mayP
 have key:∀r:PRow,(decide (r.kinds.all fun k=>decide (0≤k)&&decide (k < 32))&&(List.range 32).all (fun k=>decide ((r.kinds.foldr (fun k m=>m+2^k.toNat) 0) / 2^k%2=1)==r.kinds.contains (k:Int)))=true→
  bitP (r.kinds.foldr (fun k m=>m+2^k.toNat) 0) kind=r.kinds.contains kind:=fun r h=>by
  rw[Bool.and_eq_true,decide_eq_true_eq] at h
  exact qg72 r.kinds h.2 (fun k hk=>by
   have:=List.all_eq_true.1 h.1 k hk
   rw[Bool.and_eq_true,decide_eq_true_eq,decide_eq_true_eq] at this
   exact this) kind
 rcases Int.lt_or_le id 1 with h | h
 ·rw[q0dw (.inl h)];exact key _ (by decide)
 ·rcases Int.lt_or_le 42 id with h2 | h2
  ·rw[q0dw (.inr h2)];exact key _ (by decide)
  ·exact key _ (qoa5 (fun _ r=>decide (r.kinds.all fun k=>decide (0≤k)&&decide (k < 32))&&(List.range 32).all (fun k=>decide ((r.kinds.foldr (fun k m=>m+2^k.toNat) 0) / 2^k%2=1)==r.kinds.contains (k:Int))) (by decide+kernel) ⟨h,h2⟩)
theorem qa46(id:Int):qavf id < 131072:=by
 unfold qavf
 rcases Int.lt_or_le id 1 with h | h
 ·rw[q0dw (.inl h)];decide
 ·rcases Int.lt_or_le 42 id with h2 | h2
  ·rw[q0dw (.inr h2)];decide
  ·have:=qoa5 (fun _ r=>decide (r.kinds.foldr (fun k m=>m+2^k.toNat) 0 < 131072)) (by decide+kernel) ⟨h,h2⟩
   exact of_decide_eq_true this
theorem q4o6(k:Nat)(kind:Int)(hk:k < 4294967296)(hi:-9223372036854775808≤kind)(hj:kind≤9223372036854775807) :
 (bits BinOp.and IntKind.u32 ((k:Int) / 2^min (IntKind.u64.wrap kind).toNat 32) 1 != 0)=bitP k kind:=by
 obtain⟨m,hm⟩:∃m:Nat,(k:Int) / 2^min (IntKind.u64.wrap kind).toNat 32=(m:Int)∧m=k / 2^min (IntKind.u64.wrap kind).toNat 32:=⟨_,by simp,rfl⟩
 rw[hm.1]
 have hlt:m < 4294967296:=by rw[hm.2];exact Nat.lt_of_le_of_lt (Nat.div_le_self _ _) hk
 have e1:bits BinOp.and IntKind.u32 (m:Int) 1=(m:Int)%2:=by
  have:=bits_mask .u32 32 (by decide) (fun n h0 h1=>by rw[IntKind.wrap_u32];omega) 1 (by decide) (m:Int) (by omega) (by omega)
  simpa using this
 rw[e1]
 unfold bitP
 rw[IntKind.wrap_u64] at hm
 by_cases hr:0≤kind∧kind < 32
 ·rw[decide_eq_true hr,Bool.true_and]
  have e2:min (kind%18446744073709551616).toNat 32=kind.toNat:=by omega
  rw[e2] at hm
  rw[←hm.2]
  rcases Nat.mod_two_eq_zero_or_one m with h | h
  ·have:(m:Int)%2=0:=by omega
   rw[this,h];rfl
  ·have:(m:Int)%2=1:=by omega
   rw[this,h];rfl
 ·rw[decide_eq_false hr,Bool.false_and]
  have e2:min (kind%18446744073709551616).toNat 32=32:=by omega
  rw[e2,Nat.div_eq_of_lt (by simpa using hk)] at hm
  rw[hm.2];rfl
theorem qkta(s k l:Nat)(kind:Int)(w:World)(hk:k < 4294967296)(hi:-9223372036854775808≤kind)(hj:kind≤9223372036854775807) :
 Calls Try.prog 68 #[q3al s k l,.int .i64 kind] w fun e w'=>e = .returned (.bool (bitP k kind))∧Below w.heap.size w w':=by
 have hb:=Lib.hid (q4o6 k kind hk hi hj)
 unfold q3al
 go_enter Try.func68,Try.ntmps68
 go_wp2
 go_ret
 exact⟨congrArg (fun b=>Ending.returned (Value.bool b)) hb.out,(Below.refl _ _).alloc (Nat.le_refl _) _⟩
def q5n9(kind id:Int):Bool:=id==38 || (id==11&&kind==3)
theorem qfvw(kind id:Int)(w:World) :
 Calls Try.prog 61 #[.int .i64 kind,.int .i64 id] w fun e w'=>e = .returned (.bool (q5n9 kind id))∧w=w':=by
 unfold q5n9
 obtain⟨b1,h1⟩:∃b,(id==38)=b:=⟨_,rfl⟩
 obtain⟨b2,h2⟩:∃b,(id==11)=b:=⟨_,rfl⟩
 obtain⟨b3,h3⟩:∃b,(kind==3)=b:=⟨_,rfl⟩
 rw[h1,h2,h3]
 cases b1<;>cases b2<;>cases b3<;>
 ·go_enter Try.func61,Try.ntmps61
  go_wp2
  go_ret
  exact⟨rfl,rfl⟩
theorem qtcb(W:World):(zeroValue 65).run Try.prog W = .ok q32g W:=by kernel_rfl
theorem qs52{n:Int}(h0:-9223372036854775808≤n)(h1:n≤9223372036854775807):(Lit.int .i64 n).wf=true:=by
 simp[Lit.wf,IntKind.min,IntKind.max,IntKind.signed,IntKind.bits];omega
theorem q88l.look{w:World}{b:Nat}(h:q88l w b){id:Int}(h0:-9223372036854775808≤id)(h1:id≤9223372036854775807) :
 (Instr.lookup 66 (.map (some b)) (.int .i64 id) false).run Try.prog w = .ok (q3al (qwgc id) (qavf id) (prow id).least) w:=by
 have:=qmfc.look h Try.underlying3 Try.underlying66 (qtcb w) (qs52 h0 h1)
 rw[q52f] at this
 exact this
theorem qyw9(s k l:Nat)(W:World):(Instr.field 65 (q3al s k l) 0).run Try.prog W = .ok (.int .i64 s) W:=by kernel_rfl
theorem qsz0:(Try.prog.info? 5).map (fun i=>(i.zero,i.size,i.bytes))=some (some (.int .u8 0),1,1):=by kernel_rfl
theorem q3j9{w:World}{base:Nat}{v:Value}{n:Nat}(l:List UInt8)(h:w.ownsRow base 5 1 v n (l.map u8v)) :
 (convert 35 9 v).run Try.prog w = .ok (.string (bs l)) w:=by
 have hl:l.length=n:=by have:=h.1;simpa using this
 rcases h.2 with ⟨rfl,hn⟩ | ⟨g,cap,cur,rfl,_⟩
 ·have:l=[]:=List.eq_nil_of_length_eq_zero (by omega)
  subst this
  exact run_convert_bytes_nil w 35 5 Try.underlying35 Try.underlying5 0 0 9 Try.underlying9
 ·have hc:=h.cells (g:=g) rfl
  have e:=run_convert_bytes_arg (P:=Try.prog) w 35 5 Try.underlying35 Try.underlying5 g 0 n cap (l.map fun b=>(b.toNat:Int)) (by simp[hl]) (fun i hi=>by
   have:=hc i (u8v (l.getD i 0)) (by simp[List.getElem?_eq_getElem (show i < l.length by omega)])
   have hadd:(⟨g,0,none⟩:Addr).add i=⟨g,0+i,none⟩:=by unfold Addr.add;split<;>simp_all
   rw[hadd] at this
   rw[this]
   simp[u8v,List.getD,List.getElem?_eq_getElem (show i < l.length by omega)]) 9 Try.underlying9
  rw[e]
  simp[bs,strOfNums,Function.comp_def]
end Go.Proofs.Ytbklidpadffpgaa
