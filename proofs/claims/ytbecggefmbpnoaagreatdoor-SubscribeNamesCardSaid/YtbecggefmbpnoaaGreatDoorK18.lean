/- A filter in a box, and a region's operations upon it. No condition. -/
import Derived.Laws.Bits128
import Derived.Deep.DeepCutAuto
import Derived.Test.YtbecggefmbpnoaaGreatDoorK05
import Derived.Test.YtbecggefmbpnoaaGreatDoorK06
import Derived.Test.YtbecggefmbpnoaaGreatDoorK13
set_option maxRecDepth 100000
set_option maxHeartbeats 8000000
namespace Go.Proofs.YtbecggefmbpnoaaGreatDoor
open Go.RowKit
def fiC(f:Fi):Array Value:=#[.string (bs f.topic),.int .i64 f.qos,.bool f.noLocal,.bool f.asPub,.int .i64 f.handling]
theorem qxzo(f:Fi):(fiC f).size=5:=rfl
theorem qx37(f:Fi):(fiC f).all (·.oneCell')=true:=by simp[fiC,Value.oneCell']
theorem qhg6:(Tryz.prog.info? 32).map (·.size)=some 5:=by kernel_rfl
theorem q4j3:(Tryz.prog.info? 32).map (fun i=>(i.zero,i.size,i.bytes))=some (some (.agg #[.string .empty,.int .i64 0,.bool false,.bool false,.int .i64 0]),5,40):=by kernel_rfl
structure BxF(w:World)(f:Fi)(W:World):Prop where
 low:Below w.heap.size w W
 box:W.heap[w.heap.size]? = some (.cells (fiC f) 32 (0,0))
theorem BxF.made(w:World)(f:Fi):BxF w f (w.alloc (.cells (fiC f) 32)):=⟨qybm _,heap_alloc_new _ _⟩
theorem BxF.call{w W W':World}{f:Fi}(h:BxF w f W)(hb:Below W.heap.size W W'):BxF w f W':=⟨qxh2 h.low hb,(hb.block _ (lt_of_block h.box)).trans h.box⟩
theorem BxF.draw{w W:World}{f:Fi}(h:BxF w f W):BxF w f W.drew:=⟨h.low.drew,h.box⟩
theorem BxF.cell{w W:World}{f:Fi}(h:BxF w f W)(j:Nat):W.cell? ⟨w.heap.size,j,none⟩=(fiC f)[j]? := cell_of_row _ _ j _ _ _ h.box
section
variable{a:Act}{w:World}{d:Option Tmp}{p:String}{af:Array Edge}{gd:Option (Nat×Bool)}{x y z:Tmp}{r:TypeId}
theorem q0b3{g:Nat}(hx:a.eval (.tmp x) = .pointer (some ⟨g,0,none⟩)) :
 (execOp a.eval {dst:=d,op := .fieldAddr 32 (.tmp x) 1,type:=r,pos:=p,after:=af,guard:=gd}).run Tryz.prog w = .ok (.value (.pointer (some ⟨g,1,none⟩))) w:=by
 generalize a.eval=f at *
 go_simp
theorem qqv5{g:Nat}(hx:a.eval (.tmp x) = .pointer (some ⟨g,0,none⟩)) :
 (execOp a.eval {dst:=d,op := .fieldAddr 32 (.tmp x) 2,type:=r,pos:=p,after:=af,guard:=gd}).run Tryz.prog w = .ok (.value (.pointer (some ⟨g,2,none⟩))) w:=by
 generalize a.eval=f at *
 go_simp
theorem qw8p{g:Nat}(hx:a.eval (.tmp x) = .pointer (some ⟨g,0,none⟩)) :
 (execOp a.eval {dst:=d,op := .fieldAddr 32 (.tmp x) 3,type:=r,pos:=p,after:=af,guard:=gd}).run Tryz.prog w = .ok (.value (.pointer (some ⟨g,3,none⟩))) w:=by
 generalize a.eval=f at *
 go_simp
theorem q7bm{g:Nat}(hx:a.eval (.tmp x) = .pointer (some ⟨g,0,none⟩)) :
 (execOp a.eval {dst:=d,op := .fieldAddr 32 (.tmp x) 4,type:=r,pos:=p,after:=af,guard:=gd}).run Tryz.prog w = .ok (.value (.pointer (some ⟨g,4,none⟩))) w:=by
 generalize a.eval=f at *
 go_simp
theorem qnwy{g j:Nat}{n:Int}(hx:a.eval (.tmp x) = .pointer (some ⟨g,j,none⟩))(hc:w.cell? ⟨g,j,none⟩=some (.int .i64 n)) :
 (execOp a.eval {dst:=d,op := .load 3 (.tmp x),type:=3,pos:=p,after:=af,guard:=gd}).run Tryz.prog w = .ok (.value (.int .i64 n)) w:=by
 generalize a.eval=f at *
 go_simp
theorem q7eg{g j:Nat}{n:Bool}(hx:a.eval (.tmp x) = .pointer (some ⟨g,j,none⟩))(hc:w.cell? ⟨g,j,none⟩=some (.bool n)) :
 (execOp a.eval {dst:=d,op := .load 4 (.tmp x),type:=4,pos:=p,after:=af,guard:=gd}).run Tryz.prog w = .ok (.value (.bool n)) w:=by
 generalize a.eval=f at *
 go_simp
theorem qv14{n c m:Int}(hx:a.eval (.tmp x) = .int .i64 n)(hm:IntKind.i64.wrap (n*c)=m) :
 (execOp a.eval {dst:=d,op := .binOp .mul 3 (.tmp x) (.const (.int .i64 c)) 3,type:=r,pos:=p,after:=af,guard:=gd}).run Tryz.prog w = .ok (.value (.int .i64 m)) w:=by
 subst hm
 have hc:a.eval (.const (.int .i64 c)) = .int .i64 c:=rfl
 generalize a.eval=f at *
 go_simp
theorem qzzw{n c m:Int}(hx:a.eval (.tmp x) = .int .i64 n)(hm:bits .and .i64 n c=m) :
 (execOp a.eval {dst:=d,op := .binOp .and 3 (.tmp x) (.const (.int .i64 c)) 3,type:=r,pos:=p,after:=af,guard:=gd}).run Tryz.prog w = .ok (.value (.int .i64 m)) w:=by
 subst hm
 have hc:a.eval (.const (.int .i64 c)) = .int .i64 c:=rfl
 generalize a.eval=f at *
 go_simp
theorem q0il{n c m:Int}(hx:a.eval (.tmp x) = .int .i64 n)(hy:a.eval (.tmp y) = .int .i64 c)(hm:bits .or .i64 n c=m) :
 (execOp a.eval {dst:=d,op := .binOp .or 3 (.tmp x) (.tmp y) 3,type:=r,pos:=p,after:=af,guard:=gd}).run Tryz.prog w = .ok (.value (.int .i64 m)) w:=by
 subst hm
 generalize a.eval=f at *
 go_simp
end
theorem qmri{Q:Exit→Act→World→Prop}{S:World→Prop}{W:World}{B:Nat}{q q1 q2 h h1 h2 y1 y2 o1 o2 o3:Int}{n a:Bool}{x0 x2 x3 x4 x5 x6 x7 x8 x9 x10 x11 x12 x13 x14 x15 x16 x17 x18 x19:Value}
 (hS:S W.drew)
 (K1:∀w,S w→w.cell? ⟨B,1,none⟩=some (.int .i64 q)) (K2:∀w,S w→w.cell? ⟨B,2,none⟩=some (.bool n)) (K3:∀w,S w→w.cell? ⟨B,3,none⟩=some (.bool a)) (K4:∀w,S w→w.cell? ⟨B,4,none⟩=some (.int .i64 h))
 (e1:IntKind.i64.wrap (q*1)=q1) (e2:bits .and .i64 q1 3=q2) (e3:IntKind.i64.wrap (h*16)=h1) (e4:bits .and .i64 h1 48=h2) (f1:bits .or .i64 q2 y1=o1) (f2:bits .or .i64 o1 y2=o2) (f3:bits .or .i64 o2 h2=o3)
 (H0:∀w,S w→Calls Tryz.prog 43 #[.bool n,.int .i64 4] w fun e w'=>e = .returned (.int .i64 y1)∧S w')
 (H1:∀w,S w→Calls Tryz.prog 43 #[.bool a,.int .i64 8] w fun e w'=>e = .returned (.int .i64 y2)∧S w')
 (fin:∀w:World,S w→Q .normal ⟨#[x0,(.pointer (some ⟨B,0,none⟩)),(.int .i64 o3),(.pointer (some ⟨B,1,none⟩)),(.int .i64 q),(.int .i64 q1),(.int .i64 q2),(.pointer (some ⟨B,2,none⟩)),(.bool n),(.int .i64 y1),(.int .i64 o1),(.pointer (some ⟨B,3,none⟩)),(.bool a),(.int .i64 y2),(.int .i64 o2),(.pointer (some ⟨B,4,none⟩)),(.int .i64 h),(.int .i64 h1),(.int .i64 h2),(.int .i64 o3)],[]⟩ w) :
 (Code.region 1 (qfhu.opsAt 1 Tryz.f13.body) true).wp Tryz.prog Q ⟨#[x0,(.pointer (some ⟨B,0,none⟩)),x2,x3,x4,x5,x6,x7,x8,x9,x10,x11,x12,x13,x14,x15,x16,x17,x18,x19],[]⟩ W:=by
 refine qfhu.wp_in (ds:=[3,4,5,6,7,8,9,10,11,12,13,14,15,16,17,18,19,2]) (B:=[x0,(.pointer (some ⟨B,0,none⟩)),(.int .i64 o3),(.pointer (some ⟨B,1,none⟩)),(.int .i64 q),(.int .i64 q1),(.int .i64 q2),(.pointer (some ⟨B,2,none⟩)),(.bool n),(.int .i64 y1),(.int .i64 o1),(.pointer (some ⟨B,3,none⟩)),(.bool a),(.int .i64 y2),(.int .i64 o2),(.pointer (some ⟨B,4,none⟩)),(.int .i64 h),(.int .i64 h1),(.int .i64 h2),(.int .i64 o3)]) (D:=[]) (by kernel_rfl) (by kernel_rfl) (by kernel_rfl) ?_ hS ?_ fin
 ·exact(by repeat (first | exact trivial | refine⟨.inr rfl,?_⟩ | refine⟨.inl rfl,?_⟩))
 refine qfhu.pu rfl rfl rfl rfl (fun w hS=>q0b3 rfl) ?_
 refine qfhu.pu rfl rfl rfl rfl (fun w hS=>qnwy rfl (K1 w hS)) ?_
 refine qfhu.pu rfl rfl rfl rfl (fun w hS=>qv14 rfl e1) ?_
 refine qfhu.pu rfl rfl rfl rfl (fun w hS=>qzzw rfl e2) ?_
 refine qfhu.pu rfl rfl rfl rfl (fun w hS=>qqv5 rfl) ?_
 refine qfhu.pu rfl rfl rfl rfl (fun w hS=>q7eg rfl (K2 w hS)) ?_
 refine qfhu.ca rfl rfl rfl rfl (fun w=>qpjl.enter2 Tryz.func43 rfl rfl rfl) H0 ?_
 refine qfhu.pu rfl rfl rfl rfl (fun w hS=>q0il rfl rfl f1) ?_
 refine qfhu.pu rfl rfl rfl rfl (fun w hS=>qw8p rfl) ?_
 refine qfhu.pu rfl rfl rfl rfl (fun w hS=>q7eg rfl (K3 w hS)) ?_
 refine qfhu.ca rfl rfl rfl rfl (fun w=>qpjl.enter2 Tryz.func43 rfl rfl rfl) H1 ?_
 refine qfhu.pu rfl rfl rfl rfl (fun w hS=>q0il rfl rfl f2) ?_
 refine qfhu.pu rfl rfl rfl rfl (fun w hS=>q7bm rfl) ?_
 refine qfhu.pu rfl rfl rfl rfl (fun w hS=>qnwy rfl (K4 w hS)) ?_
 refine qfhu.pu rfl rfl rfl rfl (fun w hS=>qv14 rfl e3) ?_
 refine qfhu.pu rfl rfl rfl rfl (fun w hS=>qzzw rfl e4) ?_
 refine qfhu.pu rfl rfl rfl rfl (fun w hS=>q0il rfl rfl f3) ?_
 refine qfhu.pu rfl rfl rfl rfl (fun w hS=>rfl) ?_
 exact qfhu.All.fin rfl
theorem q1zb(q:Int):bits .and .i64 (IntKind.i64.wrap (q*1)) 3=q%4:=by
 have h3:(BitVec.ofInt 64 3).toNat=2^2 - 1:=by decide
 have key:∀n:Int,(BitVec.ofInt 64 n &&& BitVec.ofInt 64 3).toNat=(n%((2^64:Nat):Int)).toNat%2^2:=fun n=>by
  rw[BitVec.toNat_and,BitVec.toNat_ofInt,h3,Nat.and_two_pow_sub_one_eq_mod]
 show IntKind.i64.wrap ((BitVec.ofInt 64 (IntKind.i64.wrap (q*1)) &&& BitVec.ofInt 64 3).toNat:Nat)=q%4
 rw[key,IntKind.wrap_i64,IntKind.wrap_i64]
 omega
theorem qxbr(h:Int):bits .and .i64 (IntKind.i64.wrap (h*16)) 48=16*(h%4):=by
 have h3:(BitVec.ofInt 64 48).toNat=3 <<< 4:=by decide
 have key:∀n:Int,(BitVec.ofInt 64 n &&& BitVec.ofInt 64 48).toNat=(n%((2^64:Nat):Int)).toNat &&& 3 <<< 4:=fun n=>by
  rw[BitVec.toNat_and,BitVec.toNat_ofInt,h3]
 show IntKind.i64.wrap ((BitVec.ofInt 64 (IntKind.i64.wrap (h*16)) &&& BitVec.ofInt 64 48).toNat:Nat)=16*(h%4)
 rw[key,IntKind.wrap_i64,IntKind.wrap_i64]
 obtain⟨m,hm⟩:∃m:Nat,(((h*16+9223372036854775808)%18446744073709551616 - 9223372036854775808)%((2^64:Nat):Int)).toNat=m <<< 4∧(m:Int)%4=h%4:=by
  refine⟨(((h*16+9223372036854775808)%18446744073709551616 - 9223372036854775808)%((2^64:Nat):Int)).toNat / 16,?_,?_⟩
  ·rw[Nat.shiftLeft_eq];omega
  ·omega
 rw[hm.1,←Nat.shiftLeft_and_distrib,show(3:Nat)=2^2 - 1 from rfl,Nat.and_two_pow_sub_one_eq_mod,Nat.shiftLeft_eq]
 omega
theorem q82s:∀(n a:Bool) (q h:Nat),q < 4→h < 4→bits .or .i64 (bits .or .i64 (bits .or .i64 (q:Int) ((bitC n 4:Nat):Int)) ((bitC a 8:Nat):Int)) (16*(h:Int))=((q+16*h+bitC n 4+bitC a 8:Nat):Int):=by
 intro n a q h hq hh
 obtain rfl | rfl | rfl | rfl:q=0∨q=1∨q=2∨q=3:=by omega
 all_goals obtain rfl | rfl | rfl | rfl:h=0∨h=1∨h=2∨h=3:=by omega
 all_goals (revert n a;decide+kernel)
theorem q3gr(f:Fi)(w:World):Calls Tryz.prog 13 #[.agg (fiC f)] w fun e w'=>e = .returned (.int .i64 (qang f:Nat))∧Below w.heap.size w w':=by
 have S0:=Lib.hid (BxF.made w f)
 have BI:=Lib.hid (fun b k W (h:BxF w f W)=>(q6cn b k W).mono fun e W' (hh:_∧W=W')=>(⟨hh.1,hh.2▸h⟩:_∧BxF w f W'))
 have hq:f.qos%4=((f.qos%4).toNat:Int):=by omega
 have hh:f.handling%4=((f.handling%4).toNat:Int):=by omega
 have E1:=q1zb f.qos
 have E2:=qxbr f.handling
 rw[hq] at E1
 rw[hh] at E2
 have E3:=q82s f.noLocal f.asPub (f.qos%4).toNat (f.handling%4).toNat (by omega) (by omega)
 have hb:qang f=(f.qos%4).toNat+16*(f.handling%4).toNat+bitC f.noLocal 4+bitC f.asPub 8:=rfl
 rw[←hb] at E3
 generalize qang f=R at *
 clear hb hq hh
 replace E1:=Lib.hid E1
 replace E2:=Lib.hid E2
 replace E3:=Lib.hid E3
 go_enter Tryz.func13,Tryz.ntmps13
 go_upto_region 1 with fail
 refine qmri (S:=BxF w f) (B:=w.heap.size) S0.out.draw (fun W h=>h.cell 1) (fun W h=>h.cell 2) (fun W h=>h.cell 3) (fun W h=>h.cell 4) rfl E1.out rfl E2.out rfl rfl E3.out (BI.out f.noLocal 4) (BI.out f.asPub 8) ?_
 intro W h
 have LO:=Lib.hid h.low
 clear h
 go_wp2_with fail
 go_ret
 exact⟨rfl,LO.out⟩
end Go.Proofs.YtbecggefmbpnoaaGreatDoor
