/- The region of subscribe.Options. Condition: none. -/
import Derived.Test.YtefmhbioggcfaaaGreatDoorK34
set_option maxRecDepth 100000
set_option maxHeartbeats 8000000
namespace Go.Proofs.YtefmhbioggcfaaaGreatDoor
open Lib(hid)
open Proofs.Tryz
open Go.RowKit
theorem qmri{Q:Exit->Act->World->Prop}{S:World->Prop}{W:World}{B:Nat}{q q1 q2 h h1 h2 y1 y2 o1 o2 o3:Int}{n a:Bool}{x0 x2 x3 x4 x5 x6 x7 x8 x9 x10 x11 x12 x13 x14 x15 x16 x17 x18 x19:Value}
 (hS:S W.drew)
 (K1:∀w,S w->w.cell? ⟨B,1,none⟩=some (.int .i64 q)) (K2:∀w,S w->w.cell? ⟨B,2,none⟩=some (.bool n)) (K3:∀w,S w->w.cell? ⟨B,3,none⟩=some (.bool a)) (K4:∀w,S w->w.cell? ⟨B,4,none⟩=some (.int .i64 h))
 (e1:IntKind.i64.wrap (q*1)=q1) (e2:bits .and .i64 q1 3=q2) (e3:IntKind.i64.wrap (h*16)=h1) (e4:bits .and .i64 h1 48=h2) (f1:bits .or .i64 q2 y1=o1) (f2:bits .or .i64 o1 y2=o2) (f3:bits .or .i64 o2 h2=o3)
 (H0:∀w,S w->Calls prog 223 #[.bool n,.int .i64 4] w fun e w'=>e=.returned (.int .i64 y1)/\S w')
 (H1:∀w,S w->Calls prog 223 #[.bool a,.int .i64 8] w fun e w'=>e=.returned (.int .i64 y2)/\S w')
 (fin:∀w:World,S w->Q .normal ⟨#[x0,(.pointer (some ⟨B,0,none⟩)),(.int .i64 o3),(.pointer (some ⟨B,1,none⟩)),(.int .i64 q),(.int .i64 q1),(.int .i64 q2),(.pointer (some ⟨B,2,none⟩)),(.bool n),(.int .i64 y1),(.int .i64 o1),(.pointer (some ⟨B,3,none⟩)),(.bool a),(.int .i64 y2),(.int .i64 o2),(.pointer (some ⟨B,4,none⟩)),(.int .i64 h),(.int .i64 h1),(.int .i64 h2),(.int .i64 o3)],[]⟩ w) :
 (Code.region 1 (qfhu.opsAt 1 Tryz.f178.body) true).wp prog Q ⟨#[x0,(.pointer (some ⟨B,0,none⟩)),x2,x3,x4,x5,x6,x7,x8,x9,x10,x11,x12,x13,x14,x15,x16,x17,x18,x19],[]⟩ W:=by
 refine qfhu.wp_in (ds:=[3,4,5,6,7,8,9,10,11,12,13,14,15,16,17,18,19,2]) (B:=[x0,(.pointer (some ⟨B,0,none⟩)),(.int .i64 o3),(.pointer (some ⟨B,1,none⟩)),(.int .i64 q),(.int .i64 q1),(.int .i64 q2),(.pointer (some ⟨B,2,none⟩)),(.bool n),(.int .i64 y1),(.int .i64 o1),(.pointer (some ⟨B,3,none⟩)),(.bool a),(.int .i64 y2),(.int .i64 o2),(.pointer (some ⟨B,4,none⟩)),(.int .i64 h),(.int .i64 h1),(.int .i64 h2),(.int .i64 o3)]) (D:=[]) (by kernel_rfl) (by kernel_rfl) (by kernel_rfl) ?_ hS ?_ fin
 ·exact(by repeat (first|exact trivial|refine⟨.inr rfl,?_⟩|refine⟨.inl rfl,?_⟩))
 refine qfhu.pu rfl rfl rfl rfl (fun w hS=>q0b3 rfl) ?_;refine qfhu.pu rfl rfl rfl rfl (fun w hS=>qnwy rfl (K1 w hS)) ?_;refine qfhu.pu rfl rfl rfl rfl (fun w hS=>qv14 rfl e1) ?_;refine qfhu.pu rfl rfl rfl rfl (fun w hS=>qzzw rfl e2) ?_;refine qfhu.pu rfl rfl rfl rfl (fun w hS=>qqv5 rfl) ?_;refine qfhu.pu rfl rfl rfl rfl (fun w hS=>q7eg rfl (K2 w hS)) ?_;refine qfhu.ca rfl rfl rfl rfl (fun w=>qpjl.enter2 func223 rfl rfl rfl) H0 ?_;refine qfhu.pu rfl rfl rfl rfl (fun w hS=>q0il rfl rfl f1) ?_;refine qfhu.pu rfl rfl rfl rfl (fun w hS=>qw8p rfl) ?_;refine qfhu.pu rfl rfl rfl rfl (fun w hS=>q7eg rfl (K3 w hS)) ?_;refine qfhu.ca rfl rfl rfl rfl (fun w=>qpjl.enter2 func223 rfl rfl rfl) H1 ?_;refine qfhu.pu rfl rfl rfl rfl (fun w hS=>q0il rfl rfl f2) ?_;refine qfhu.pu rfl rfl rfl rfl (fun w hS=>q7bm rfl) ?_;refine qfhu.pu rfl rfl rfl rfl (fun w hS=>qnwy rfl (K4 w hS)) ?_;refine qfhu.pu rfl rfl rfl rfl (fun w hS=>qv14 rfl e3) ?_;refine qfhu.pu rfl rfl rfl rfl (fun w hS=>qzzw rfl e4) ?_;refine qfhu.pu rfl rfl rfl rfl (fun w hS=>q0il rfl rfl f3) ?_;refine qfhu.pu rfl rfl rfl rfl (fun w hS=>rfl) ?_;exact qfhu.All.fin rfl
theorem q1zb(q:Int):bits .and .i64 (IntKind.i64.wrap (q*1)) 3=q%4:=by
 have h3:(BitVec.ofInt 64 3).toNat=2^2-1:=by decide
 have key:∀n:Int,(BitVec.ofInt 64 n &&& BitVec.ofInt 64 3).toNat=(n%((2^64:Nat):Int)).toNat%2^2:=fun n=>by rw[BitVec.toNat_and,BitVec.toNat_ofInt,h3,Nat.and_two_pow_sub_one_eq_mod]
 show IntKind.i64.wrap ((BitVec.ofInt 64 (IntKind.i64.wrap (q*1)) &&& BitVec.ofInt 64 3).toNat:Nat)=q%4;rw[key,IntKind.wrap_i64,IntKind.wrap_i64];omega
theorem qxbr(h:Int):bits .and .i64 (IntKind.i64.wrap (h*16)) 48=16*(h%4):=by
 have h3:(BitVec.ofInt 64 48).toNat=3 <<< 4:=by decide
 have key:∀n:Int,(BitVec.ofInt 64 n &&& BitVec.ofInt 64 48).toNat=(n%((2^64:Nat):Int)).toNat &&& 3 <<< 4:=fun n=>by rw[BitVec.toNat_and,BitVec.toNat_ofInt,h3]
 show IntKind.i64.wrap ((BitVec.ofInt 64 (IntKind.i64.wrap (h*16)) &&& BitVec.ofInt 64 48).toNat:Nat)=16*(h%4)
 rw[key,IntKind.wrap_i64,IntKind.wrap_i64];obtain⟨m,hm⟩:∃m:Nat,(((h*16+9223372036854775808)%18446744073709551616-9223372036854775808)%((2^64:Nat):Int)).toNat=m <<< 4/\(m:Int)%4=h%4:=by
  refine⟨(((h*16+9223372036854775808)%18446744073709551616-9223372036854775808)%((2^64:Nat):Int)).toNat / 16,?_,?_⟩
  ·rw[Nat.shiftLeft_eq];omega
  ·omega
 rw[hm.1,<-Nat.shiftLeft_and_distrib,show(3:Nat)=2^2-1 from rfl,Nat.and_two_pow_sub_one_eq_mod,Nat.shiftLeft_eq];omega
theorem q82s:∀(n a:Bool) (q h:Nat),q<4->h<4->bits .or .i64 (bits .or .i64 (bits .or .i64 (q:Int) ((bitC n 4:Nat):Int)) ((bitC a 8:Nat):Int)) (16*(h:Int))=((q+16*h+bitC n 4+bitC a 8:Nat):Int):=by
 intro n a q h hq hh;obtain rfl|rfl|rfl|rfl:q=0\/q=1\/q=2\/q=3:=by omega
 all_goals obtain rfl|rfl|rfl|rfl:h=0\/h=1\/h=2\/h=3:=by omega
 all_goals (revert n a;decide+kernel)
theorem q3gr(f:Fi)(w:World):Calls prog 178 #[.agg (fiC f)] w fun e w'=>e=.returned (.int .i64 (qang f:Nat))/\Below w.heap.size w w':=by
 have S0:=hid (BxF.made w f);have BI:=hid (fun b k W (h:BxF w f W)=>(q6cn b k W).mono fun e W' (hh:_/\W=W')=>(⟨hh.1,hh.2▸h⟩:_/\BxF w f W'));have hq:f.qos%4=((f.qos%4).toNat:Int):=by omega
 have hh:f.handling%4=((f.handling%4).toNat:Int):=by omega
 have E1:=q1zb f.qos;have E2:=qxbr f.handling;rw[hq] at E1;rw[hh] at E2;have E3:=q82s f.noLocal f.asPub (f.qos%4).toNat (f.handling%4).toNat (by omega) (by omega);have hb:qang f=(f.qos%4).toNat+16*(f.handling%4).toNat+bitC f.noLocal 4+bitC f.asPub 8:=rfl;rw[<-hb] at E3;generalize qang f=R at *;clear hb hq hh;replace E1:=hid E1;replace E2:=hid E2;replace E3:=hid E3;go_in
 go_upto_region 1 with fail
 refine qmri (S:=BxF w f) (B:=w.heap.size) S0.out.draw (fun W h=>h.cell 1) (fun W h=>h.cell 2) (fun W h=>h.cell 3) (fun W h=>h.cell 4) rfl E1.out rfl E2.out rfl rfl E3.out (BI.out f.noLocal 4) (BI.out f.asPub 8) ?_;intro W h;have LO:=hid h.low;clear h;go_wp2;go_ret;exact⟨rfl,LO.out⟩
section
variable{a:Act}{w:World}{d:Option Tmp}{p:String}{af:Array Edge}{gd:Option (Nat×Bool)}{x y z:Tmp}{r:TypeId}
theorem q45x{g:Nat}{z:Int}(hx:a.eval (.tmp x)=.pointer (some ⟨g,0,none⟩))(hc:w.cell? ⟨g,0,none⟩=some (.int .i64 z)) :
 (execOp a.eval {dst:=d,op := .load 3 (.tmp x),type:=3,pos:=p,after:=af,guard:=gd}).run prog w=.ok (.value (.int .i64 z)) w:=by
 generalize a.eval=f at *;go_simp
theorem q0s8{g:Nat}{C:Array Value}(hx:a.eval (.tmp x)=.pointer (some ⟨g,0,none⟩))(hs:C.size=25)(hg:w.heap[g]?=some (.cells C 38 (0,0))) :
 (execOp a.eval {dst:=d,op := .load 38 (.tmp x),type:=38,pos:=p,after:=af,guard:=gd}).run prog w=.ok (.value (.agg C)) w:=by
 unfold execOp;simp only[hx,Instr.loadAt,Instr.sureAddr,Sem.run_bind,Sem.run_pure,Result.andThen_ok,run_loadVar_row w g 38 38 C (0,0) _ hg underlying38 rfl (by rw[hs];exact q5nr)]
end
theorem qikm{Q:Exit->Act->World->Prop}{S:World->Prop}{W:World}{b1 b2:Nat}{v z:Int}{C D:Array Value}{b:Bool}{x2 x3 x4 x5 x6 x7 x8 x9 x10 x11 x12:Value}
 (hS:S W.drew) (hC:C.size=25) (KC:∀w,S w->w.heap[b2]?=some (.cells C 38 (0,0))) (KV:∀w,S w->w.cell? ⟨b1,0,none⟩=some (.int .i64 v))
 (H0:∀w,S w->Calls prog 161 #[(.agg C)] w fun e w'=>e=.returned (.bool true)/\S w')
 (H1:∀w,S w->Calls prog 163 #[(.int .i64 v),(.agg C)] w fun e w'=>e=.returned (.agg D)/\S w')
 (H2:∀w,S w->Calls prog 162 #[(.agg C),(.agg D)] w fun e w'=>e=.returned (.bool b)/\S w')
 (H3:∀w,S w->Calls prog 157 #[(.bool b),.int .i64 2] w fun e w'=>e=.returned (.int .i64 z)/\S w')
 (fin:∀w,S w->Q .normal ⟨#[(.pointer (some ⟨b2,0,none⟩)),(.pointer (some ⟨b1,0,none⟩)),(.int .i64 z),(.agg C),(.bool true),(.bool true),(.agg C),(.int .i64 v),(.agg C),(.agg D),(.bool b),(.bool b),(.int .i64 z)],[]⟩ w) :
 (Code.region 1 (qfhu.opsAt 1 Tryz.f160.body) true).wp prog Q ⟨#[(.pointer (some ⟨b2,0,none⟩)),(.pointer (some ⟨b1,0,none⟩)),x2,x3,x4,x5,x6,x7,x8,x9,x10,x11,x12],[]⟩ W:=by
 refine qfhu.wp_in (ds:=[3,4,5,6,7,8,9,10,11,12,2]) (D:=[]) (by kernel_rfl) (by kernel_rfl) (by kernel_rfl) ?_ hS ?_ (fun w hS=>fin w hS)
 ·exact(by repeat (first|exact trivial|refine⟨.inr rfl,?_⟩|refine⟨.inl rfl,?_⟩))
 refine qfhu.pu rfl rfl rfl rfl (fun w hS=>q0s8 rfl hC (KC w hS)) ?_;refine qfhu.ca rfl rfl rfl rfl (fun w=>qpjl.enter1 func161 rfl rfl) H0 ?_;refine qfhu.pu rfl rfl rfl rfl (fun w hS=>rfl) ?_;refine qfhu.pu rfl rfl rfl rfl (fun w hS=>q0s8 rfl hC (KC w hS)) ?_;refine qfhu.pu rfl rfl rfl rfl (fun w hS=>q45x rfl (KV w hS)) ?_;refine qfhu.pu rfl rfl rfl rfl (fun w hS=>q0s8 rfl hC (KC w hS)) ?_;refine qfhu.ca rfl rfl rfl rfl (fun w=>qpjl.enter2 func163 rfl rfl rfl) H1 ?_;refine qfhu.ca rfl rfl rfl rfl (fun w=>qpjl.enter2 func162 rfl rfl rfl) H2 ?_;refine qfhu.pu rfl rfl rfl rfl (fun w hS=>rfl) ?_;refine qfhu.ca rfl rfl rfl rfl (fun w=>qpjl.enter2 func157 rfl rfl rfl) H3 ?_;refine qfhu.pu rfl rfl rfl rfl (fun w hS=>rfl) ?_;exact qfhu.All.fin rfl
theorem qjt8{Q:Exit->Act->World->Prop}{S:World->Prop}{W:World}{b1 b2:Nat}{z:Int}{C:Array Value}{x2 x3 x4 x5 x6 x7 x8 x9 x10 x11 x12:Value}
 (hS:S W.drew) (hC:C.size=25) (KC:∀w,S w->w.heap[b2]?=some (.cells C 38 (0,0)))
 (H0:∀w,S w->Calls prog 161 #[(.agg C)] w fun e w'=>e=.returned (.bool false)/\S w')
 (H1:∀w,S w->Calls prog 157 #[(.bool false),.int .i64 2] w fun e w'=>e=.returned (.int .i64 z)/\S w')
 (fin:∀w,S w->Q .normal ⟨#[(.pointer (some ⟨b2,0,none⟩)),(.pointer (some ⟨b1,0,none⟩)),(.int .i64 z),(.agg C),(.bool false),(.bool false),undef,undef,undef,undef,undef,(.bool false),(.int .i64 z)],[]⟩ w) :
 (Code.region 1 (qfhu.opsAt 1 Tryz.f160.body) true).wp prog Q ⟨#[(.pointer (some ⟨b2,0,none⟩)),(.pointer (some ⟨b1,0,none⟩)),x2,x3,x4,x5,x6,x7,x8,x9,x10,x11,x12],[]⟩ W:=by
 refine qfhu.wp_in (ds:=[3,4,5,6,7,8,9,10,11,12,2]) (D:=[]) (by kernel_rfl) (by kernel_rfl) (by kernel_rfl) ?_ hS ?_ (fun w hS=>fin w hS)
 ·exact(by repeat (first|exact trivial|refine⟨.inr rfl,?_⟩|refine⟨.inl rfl,?_⟩))
 refine qfhu.pu rfl rfl rfl rfl (fun w hS=>q0s8 rfl hC (KC w hS)) ?_;refine qfhu.ca rfl rfl rfl rfl (fun w=>qpjl.enter1 func161 rfl rfl) H0 ?_
 iterate 7 (first|refine qfhu.sk rfl rfl rfl rfl ?_|refine qfhu.pu rfl rfl rfl rfl (fun w hS=>rfl) ?_)
 refine qfhu.ca rfl rfl rfl rfl (fun w=>qpjl.enter2 func157 rfl rfl rfl) H1 ?_;refine qfhu.pu rfl rfl rfl rfl (fun w hS=>rfl) ?_;exact qfhu.All.fin rfl
def Runs(f:Nat):Prop:=∃fn:Func,prog.funcs[f]?=some fn/\(fn.name=="runtime.NumGoroutine" || fn.body.isNone)=false
section
variable{a:Act}{w:World}{d:Option Tmp}{p:String}{af:Array Edge}{gd:Option (Nat×Bool)}{x y z:Tmp}{r:TypeId}
theorem qwfj{ts:Array TypeId}{F:Nat}{v:Value}(hF:Runs F)(hx:a.eval (.tmp x)=fnV F)(hy:a.eval (.tmp y)=v) :
 (execOp a.eval {dst:=d,op := .call {callee := .value (.tmp x),args:=#[.tmp y],argTypes:=ts},type:=r,pos:=p,after:=af,guard:=gd}).run prog w=.ok (.enter F #[v]) w:=by
 obtain⟨fn,h1,h2⟩:=hF;have h:=qpjl.calls_go h1 h2 (w:=w) #[v];subst hy;unfold execOp;simp only[resolve,hx];simpa [Deferred.ofValue,invoke] using h
theorem q0c2{b:Nat}{k:Int}{f g:Nat}(hx:a.eval (.tmp x)=.map (some b))(hy:a.eval (.tmp y)=.int .i64 k)(h:qvkg w b)(h0:1<=k)(h1:k<=15)(hl:q1n3 noW qtav k=wayV f g) :
 (execOp a.eval {dst:=d,op := .lookup 96 (.tmp x) (.tmp y) false,type:=r,pos:=p,after:=af,guard:=gd}).run prog w=.ok (.value (wayV f g)) w:=by
 unfold execOp;simp only[hx,hy,Sem.run_bind,h.look h0 h1,hl,Result.andThen_ok,Sem.run_pure]
theorem q058{f g:Nat}(hx:a.eval (.tmp x)=wayV f g) :
 (execOp a.eval {dst:=d,op := .field 95 (.tmp x) 0,type:=r,pos:=p,after:=af,guard:=gd}).run prog w=.ok (.value (fnV f)) w:=by
 have h:(Instr.field 95 (wayV f g) 0).run prog w=.ok (fnV f) w:=by kernel_rfl
 unfold execOp;simp only[hx,Sem.run_bind,h,Result.andThen_ok,Sem.run_pure]
theorem qmbw{f g:Nat}(hx:a.eval (.tmp x)=wayV f g) :
 (execOp a.eval {dst:=d,op := .field 95 (.tmp x) 1,type:=r,pos:=p,after:=af,guard:=gd}).run prog w=.ok (.value (fnV g)) w:=by
 have h:(Instr.field 95 (wayV f g) 1).run prog w=.ok (fnV g) w:=by kernel_rfl
 unfold execOp;simp only[hx,Sem.run_bind,h,Result.andThen_ok,Sem.run_pure]
end
section
variable{a:Act}{w:World}{d:Option Tmp}{p:String}{af:Array Edge}{gd:Option (Nat×Bool)}{x y z:Tmp}{r:TypeId}
theorem qwa8{g:Nat}(hx:a.eval (.tmp x)=.pointer (some ⟨g,0,none⟩)) :
 (execOp a.eval {dst:=d,op := .fieldAddr 24 (.tmp x) 0,type:=r,pos:=p,after:=af,guard:=gd}).run prog w=.ok (.value (.pointer (some ⟨g,0,none⟩))) w:=by
 generalize a.eval=f at *;go_simp
theorem qpi9{n:Nat}{s u:ByteArray}(hx:a.eval (.tmp x)=.string s)(hy:a.eval (.tmp y)=.int .i64 (n:Int))(hn:n<=s.size)(hu:s.extract n s.size=u) :
 (execOp a.eval {dst:=d,op := .slice 9 (.tmp x) (some (.tmp y)) none none,type:=r,pos:=p,after:=af,guard:=gd}).run prog w=.ok (.value (.string u)) w:=by
 subst hu;have hn2:(n:Int)<=(s.size:Int):=by omega
 generalize a.eval=f at *;go_simp
end
theorem qp9u{Q:Exit->Act->World->Prop}{S:Option Ad×Option Nat×Bool->World->Prop}{W:World}{g n:Nat}{v m i q:Int}{s u:ByteArray}{P:Pk}{x1 x3 x5 x6 x8 x9 x10 x11 x12 x13 x14 x15 x16 x17 x18 x19 x20 x21 x22 x23 x24 x25 x26 x27 x28 x29 x30 x31 x32 x33 x34 x35 x36 x37 x38 x39 x40 x41 x42 x43 x44 x45 x46:Value}
 (hS:S (none,none,false) W.drew) (hn:n<=s.size) (hu:s.extract n s.size=u) (K0:∀x w,S x w->w.cell? ⟨g,0,none⟩=some (.int .i64 m))
 (H0:∀x w,S x w->x.1=none->x.2.2=false->Calls prog 19 #[.int .i64 v,.int .i64 m,.string u] w fun e w'=>∃a,e=.returned (.tuple #[.agg (pkC P (a)),.int .i64 i,.int .i64 q])/\S (some a,x.2) w')
 (H1:∀x w,S x w->x.2.1=none->x.2.2=false->S (x.1,some w.heap.size,x.2.2) (w.alloc (.cells pkZ 38)))
 (H2:∀a b w,S (some a,some b,false) w->w.heap[b]?=some (.cells pkZ 38 (0,0))/\S (some a,some b,true) (w.setRow b (pkC P a)))
 (fin:∀a b w,S (some a,some b,true) w->Q .normal ⟨#[(.int .i64 v),x1,(.string s),x3,(.pointer (some ⟨g,0,none⟩)),x5,x6,(.int .i64 (n:Nat)),x8,x9,(.pointer (some ⟨b,0,none⟩)),.int .i64 i,.int .i64 q,x13,x14,x15,x16,x17,x18,(.tuple #[.agg (pkC P (a)),.int .i64 i,.int .i64 q]),(.int .i64 v),(.pointer (some ⟨g,0,none⟩)),(.int .i64 m),(.string s),(.int .i64 (n:Nat)),(.string u),(.tuple #[.agg (pkC P (a)),.int .i64 i,.int .i64 q]),.agg (pkC P (a)),.int .i64 i,.int .i64 q,x30,x31,x32,x33,x34,x35,x36,x37,x38,x39,x40,x41,x42,x43,x44,x45,x46],[]⟩ w) :
 (Code.region 4 (qfhu.opsAt 4 Tryz.f6.body) true).wp prog Q ⟨#[(.int .i64 v),x1,(.string s),x3,(.pointer (some ⟨g,0,none⟩)),x5,x6,(.int .i64 (n:Nat)),x8,x9,x10,x11,x12,x13,x14,x15,x16,x17,x18,x19,x20,x21,x22,x23,x24,x25,x26,x27,x28,x29,x30,x31,x32,x33,x34,x35,x36,x37,x38,x39,x40,x41,x42,x43,x44,x45,x46],[]⟩ W:=by
 refine qu7n.wp (fresh:=fun i x=>(i=6->x.1=none)/\(i=11->x.2.1=none)/\(i=6\/i=11\/i=12->x.2.2=false)) (hf0:=fun i=>⟨fun _=>rfl,fun _=>rfl,fun _=>rfl⟩) (x:=(none,none,false)) (S:=S) (made:=fun i x=>(i=6->x.1.isSome=true)/\(i=11->x.2.1.isSome=true)/\(i=12->x.2.2=true)) (war:=[]) (ds:=[20,21,22,23,24,25,26,19,27,28,29,10,11,12]) (A:=[(.int .i64 v),x1,(.string s),x3,(.pointer (some ⟨g,0,none⟩)),x5,x6,(.int .i64 (n:Nat)),x8,x9,x10,x11,x12,x13,x14,x15,x16,x17,x18,x19,x20,x21,x22,x23,x24,x25,x26,x27,x28,x29,x30,x31,x32,x33,x34,x35,x36,x37,x38,x39,x40,x41,x42,x43,x44,x45,x46]) (B:=fun x=>[(.int .i64 v),x1,(.string s),x3,(.pointer (some ⟨g,0,none⟩)),x5,x6,(.int .i64 (n:Nat)),x8,x9,(.pointer (some ⟨x.2.1.getD 0,0,none⟩)),.int .i64 i,.int .i64 q,x13,x14,x15,x16,x17,x18,(.tuple #[.agg (pkC P (x.1.getD adZ)),.int .i64 i,.int .i64 q]),(.int .i64 v),(.pointer (some ⟨g,0,none⟩)),(.int .i64 m),(.string s),(.int .i64 (n:Nat)),(.string u),(.tuple #[.agg (pkC P (x.1.getD adZ)),.int .i64 i,.int .i64 q]),.agg (pkC P (x.1.getD adZ)),.int .i64 i,.int .i64 q,x30,x31,x32,x33,x34,x35,x36,x37,x38,x39,x40,x41,x42,x43,x44,x45,x46]) (D:=[]) (by kernel_rfl) (by kernel_rfl) (by kernel_rfl) ?_ hS ?_ ?fin
 case refine_1=>exact fun x=>(by repeat (first|exact trivial|refine⟨.inr rfl,?_⟩|refine⟨.inl rfl,?_⟩))
 refine q2y4.All.step rfl (qu7n.Does.pure (val:=fun x=>(.int .i64 v)) rfl (fun x=>⟨fun h=>absurd h (by decide),fun h=>absurd h (by decide),fun h=>absurd h (by decide)⟩) (fun x w hm hS=>⟨rfl,rfl,rfl⟩)) ?_;refine q2y4.All.step rfl (qu7n.Does.pure (val:=fun x=>(.pointer (some ⟨g,0,none⟩))) rfl (fun x=>⟨fun h=>absurd h (by decide),fun h=>absurd h (by decide),fun h=>absurd h (by decide)⟩) (fun x w hm hS=>⟨rfl,rfl,qwa8 rfl⟩)) ?_;refine q2y4.All.step rfl (qu7n.Does.pure (val:=fun x=>(.int .i64 m)) rfl (fun x=>⟨fun h=>absurd h (by decide),fun h=>absurd h (by decide),fun h=>absurd h (by decide)⟩) (fun x w hm hS=>⟨rfl,rfl,qkcv rfl (K0 x w hS)⟩)) ?_;refine q2y4.All.step rfl (qu7n.Does.pure (val:=fun x=>(.string s)) rfl (fun x=>⟨fun h=>absurd h (by decide),fun h=>absurd h (by decide),fun h=>absurd h (by decide)⟩) (fun x w hm hS=>⟨rfl,rfl,rfl⟩)) ?_;refine q2y4.All.step rfl (qu7n.Does.pure (val:=fun x=>(.int .i64 (n:Nat))) rfl (fun x=>⟨fun h=>absurd h (by decide),fun h=>absurd h (by decide),fun h=>absurd h (by decide)⟩) (fun x w hm hS=>⟨rfl,rfl,rfl⟩)) ?_;refine q2y4.All.step rfl (qu7n.Does.pure (val:=fun x=>(.string u)) rfl (fun x=>⟨fun h=>absurd h (by decide),fun h=>absurd h (by decide),fun h=>absurd h (by decide)⟩) (fun x w hm hS=>⟨rfl,rfl,qpi9 rfl rfl hn hu⟩)) ?_;refine q2y4.All.step rfl ((fun x w hm hf hS => .inl ⟨rfl,.call _ _ (qpjl.enter3 func19 rfl rfl rfl rfl) ((H0 x w hS (hf.1 rfl) (hf.2.2 (.inl rfl))).mono fun e w' ⟨a,he,hs⟩=>⟨_,(some a,x.2),he,(fun d hd=>by cases hd;rfl),hs,⟨fun _=>rfl,fun h=>absurd h (by decide),fun h=>absurd h (by decide)⟩,fun i h=>⟨fun _=>rfl,h.2⟩,fun i hi h=>⟨fun e=>absurd e hi,h.2⟩,[26,19,27],by kernel_rfl,(by repeat (first|exact trivial|refine⟨.inr rfl,?_⟩|refine⟨.inl rfl,?_⟩))⟩)⟩)) ?_;refine q2y4.All.step rfl (qu7n.Does.pure (val:=fun x=>(.tuple #[.agg (pkC P (x.1.getD adZ)),.int .i64 i,.int .i64 q])) rfl (fun x=>⟨fun h=>absurd h (by decide),fun h=>absurd h (by decide),fun h=>absurd h (by decide)⟩) (fun x w hm hS=>⟨rfl,rfl,rfl⟩)) ?_;refine q2y4.All.step rfl (qu7n.Does.pure (val:=fun x => .agg (pkC P (x.1.getD adZ))) rfl (fun x=>⟨fun h=>absurd h (by decide),fun h=>absurd h (by decide),fun h=>absurd h (by decide)⟩) (fun x w hm hS=>⟨rfl,rfl,rfl⟩)) ?_;refine q2y4.All.step rfl (qu7n.Does.pure (val:=fun x => .int .i64 i) rfl (fun x=>⟨fun h=>absurd h (by decide),fun h=>absurd h (by decide),fun h=>absurd h (by decide)⟩) (fun x w hm hS=>⟨rfl,rfl,rfl⟩)) ?_;refine q2y4.All.step rfl (qu7n.Does.pure (val:=fun x => .int .i64 q) rfl (fun x=>⟨fun h=>absurd h (by decide),fun h=>absurd h (by decide),fun h=>absurd h (by decide)⟩) (fun x w hm hS=>⟨rfl,rfl,rfl⟩)) ?_;refine q2y4.All.step rfl ((fun x w hm hf hS => .inl ⟨rfl,.value _ (x.1,some w.heap.size,x.2.2) _ q0mg ⟨(fun d hd=>by cases hd;rfl),H1 x w hS (hf.2.1 rfl) (hf.2.2 (.inr (.inl rfl))),⟨fun h=>absurd h (by decide),fun _=>rfl,fun h=>absurd h (by decide)⟩,(fun i h=>⟨h.1,fun _=>rfl,h.2.2⟩),(fun i hi h=>⟨h.1,fun e=>absurd e hi,h.2.2⟩),[10],by kernel_rfl,(by repeat (first|exact trivial|refine⟨.inr rfl,?_⟩|refine⟨.inl rfl,?_⟩))⟩⟩)) ?_;refine q2y4.All.step rfl ((fun x w hp hf hS=>by
  obtain⟨a,b,s'⟩:=x;obtain⟨a,rfl⟩:=Option.isSome_iff_exists.1 ((hp 6 (by decide+kernel) (by decide)).1 rfl:a.isSome=true);obtain⟨b,rfl⟩:=Option.isSome_iff_exists.1 ((hp 11 (by decide+kernel) (by decide)).2.1 rfl:b.isSome=true);obtain rfl:s'=false:=hf.2.2 (.inr (.inr rfl));obtain⟨h1,h2⟩:=H2 a b w hS;exact .inl ⟨rfl,.skip (some a,some b,true) _ (qn4o rfl rfl (qwmp _ _) (qmz0 _ _) h1 qbwp) ⟨(fun d hd=>by cases hd),h2,⟨fun h=>absurd h (by decide),fun h=>absurd h (by decide),fun _=>rfl⟩,(fun i h=>⟨h.1,h.2.1,fun _=>rfl⟩),(fun i hi h=>⟨h.1,h.2.1,fun e=>by
   rcases e with rfl|rfl|rfl
   ·exact absurd (h.1 rfl) (by simp)
   ·exact absurd (h.2.1 rfl) (by simp)
   ·exact absurd rfl hi⟩),[],rfl,q2y4.off_refl 0 _⟩⟩)) ?_
 refine q2y4.All.step rfl (qu7n.Does.pure (val:=fun x => .int .i64 i) rfl (fun x=>⟨fun h=>absurd h (by decide),fun h=>absurd h (by decide),fun h=>absurd h (by decide)⟩) (fun x w hm hS=>⟨rfl,rfl,rfl⟩)) ?_;refine q2y4.All.step rfl (qu7n.Does.pure (val:=fun x => .int .i64 q) rfl (fun x=>⟨fun h=>absurd h (by decide),fun h=>absurd h (by decide),fun h=>absurd h (by decide)⟩) (fun x w hm hS=>⟨rfl,rfl,rfl⟩)) ?_;exact q2y4.All.fin rfl
 case fin=>
  exact fun x w hm hS=>by obtain⟨a,b,s'⟩:=x;obtain⟨a,rfl⟩:=Option.isSome_iff_exists.1 ((hm 6 (by decide)).1 rfl:a.isSome=true);obtain⟨b,rfl⟩:=Option.isSome_iff_exists.1 ((hm 11 (by decide)).2.1 rfl:b.isSome=true);obtain rfl:s'=true:=(hm 12 (by decide)).2.2 rfl;exact fin a b w hS
def rowN(n:Nat):Option Nat->Value
 |some g => .slice (some ⟨g,0,none⟩) n n
 |none=>undef
def putG(x:Nat->Option Nat)(j g:Nat):Nat->Option Nat:=fun i=>bif Nat.beq i j then some g else x i
theorem qpwk{x:Nat->Option Nat}{j g i:Nat}(h:(x i).isSome=true):(putG x j g i).isSome=true:=by
 unfold putG;cases Nat.beq i j
 ·exact h
 ·rfl
section
variable{a:Act}{w:World}{d:Option Tmp}{p:String}{af:Array Edge}{gd:Option (Nat×Bool)}{x y z:Tmp}{r:TypeId}
theorem qa2f{g:Nat}{C:Array Value}(hx:a.eval (.tmp x)=.pointer (some ⟨g,0,none⟩))(hs:C.size=25)(hg:w.heap[g]?=some (.cells C 38 (0,0))) :
 (execOp a.eval {dst:=d,op := .load 38 (.tmp x),type:=38,pos:=p,after:=af,guard:=gd}).run prog w=.ok (.value (.agg C)) w:=by
 unfold execOp;simp only[hx,Instr.loadAt,Instr.sureAddr,Sem.run_bind,Sem.run_pure,Result.andThen_ok,run_loadVar_row w g 38 38 C (0,0) _ hg underlying38 rfl (by rw[hs];exact q5nr)]
theorem q7bh{g:Nat}(hx:a.eval (.tmp x)=.pointer (some ⟨g,0,none⟩)) :
 (execOp a.eval {dst:=d,op := .fieldAddr 38 (.tmp x) 0,type:=r,pos:=p,after:=af,guard:=gd}).run prog w=.ok (.value (.pointer (some ⟨g,0,none⟩))) w:=by
 generalize a.eval=f at *;go_simp
theorem q9ys{g:Nat}(hx:a.eval (.tmp x)=.pointer (some ⟨g,0,none⟩)) :
 (execOp a.eval {dst:=d,op := .fieldAddr 38 (.tmp x) 8,type:=r,pos:=p,after:=af,guard:=gd}).run prog w=.ok (.value (.pointer (some ⟨g,8,none⟩))) w:=by
 generalize a.eval=f at *;go_simp
theorem qvun{g:Nat}(hx:a.eval (.tmp x)=.pointer (some ⟨g,0,none⟩)) :
 (execOp a.eval {dst:=d,op := .fieldAddr 38 (.tmp x) 9,type:=r,pos:=p,after:=af,guard:=gd}).run prog w=.ok (.value (.pointer (some ⟨g,9,none⟩))) w:=by
 generalize a.eval=f at *;go_simp
theorem qux4{g:Nat}(hx:a.eval (.tmp x)=.pointer (some ⟨g,0,none⟩)) :
 (execOp a.eval {dst:=d,op := .fieldAddr 38 (.tmp x) 10,type:=r,pos:=p,after:=af,guard:=gd}).run prog w=.ok (.value (.pointer (some ⟨g,10,none⟩))) w:=by
 generalize a.eval=f at *;go_simp
theorem qo3x{g:Nat}(hx:a.eval (.tmp x)=.pointer (some ⟨g,0,none⟩)) :
 (execOp a.eval {dst:=d,op := .fieldAddr 38 (.tmp x) 11,type:=r,pos:=p,after:=af,guard:=gd}).run prog w=.ok (.value (.pointer (some ⟨g,11,none⟩))) w:=by
 generalize a.eval=f at *;go_simp
theorem qy7x{g:Nat}(hx:a.eval (.tmp x)=.pointer (some ⟨g,0,none⟩)) :
 (execOp a.eval {dst:=d,op := .fieldAddr 38 (.tmp x) 12,type:=r,pos:=p,after:=af,guard:=gd}).run prog w=.ok (.value (.pointer (some ⟨g,12,none⟩))) w:=by
 generalize a.eval=f at *;go_simp
theorem qsfc{g:Nat}(hx:a.eval (.tmp x)=.pointer (some ⟨g,0,none⟩)) :
 (execOp a.eval {dst:=d,op := .fieldAddr 38 (.tmp x) 13,type:=r,pos:=p,after:=af,guard:=gd}).run prog w=.ok (.value (.pointer (some ⟨g,13,none⟩))) w:=by
 generalize a.eval=f at *;go_simp
theorem qndn{g:Nat}(hx:a.eval (.tmp x)=.pointer (some ⟨g,0,none⟩)) :
 (execOp a.eval {dst:=d,op := .fieldAddr 38 (.tmp x) 14,type:=r,pos:=p,after:=af,guard:=gd}).run prog w=.ok (.value (.pointer (some ⟨g,14,none⟩))) w:=by
 generalize a.eval=f at *;go_simp
theorem q9tf{g:Nat}(hx:a.eval (.tmp x)=.pointer (some ⟨g,0,none⟩)) :
 (execOp a.eval {dst:=d,op := .fieldAddr 38 (.tmp x) 15,type:=r,pos:=p,after:=af,guard:=gd}).run prog w=.ok (.value (.pointer (some ⟨g,15,none⟩))) w:=by
 generalize a.eval=f at *;go_simp
theorem qrr1{g:Nat}(hx:a.eval (.tmp x)=.pointer (some ⟨g,0,none⟩)) :
 (execOp a.eval {dst:=d,op := .fieldAddr 38 (.tmp x) 16,type:=r,pos:=p,after:=af,guard:=gd}).run prog w=.ok (.value (.pointer (some ⟨g,20,none⟩))) w:=by
 generalize a.eval=f at *;go_simp
theorem qpep{g:Nat}(hx:a.eval (.tmp x)=.pointer (some ⟨g,0,none⟩)) :
 (execOp a.eval {dst:=d,op := .fieldAddr 38 (.tmp x) 17,type:=r,pos:=p,after:=af,guard:=gd}).run prog w=.ok (.value (.pointer (some ⟨g,21,none⟩))) w:=by
 generalize a.eval=f at *;go_simp
theorem q10c{g:Nat}(hx:a.eval (.tmp x)=.pointer (some ⟨g,0,none⟩)) :
 (execOp a.eval {dst:=d,op := .fieldAddr 38 (.tmp x) 20,type:=r,pos:=p,after:=af,guard:=gd}).run prog w=.ok (.value (.pointer (some ⟨g,24,none⟩))) w:=by
 generalize a.eval=f at *;go_simp
theorem qg9y{g:Nat}(hx:a.eval (.tmp x)=.pointer (some ⟨g,15,none⟩)) :
 (execOp a.eval {dst:=d,op := .fieldAddr 34 (.tmp x) 0,type:=r,pos:=p,after:=af,guard:=gd}).run prog w=.ok (.value (.pointer (some ⟨g,15,none⟩))) w:=by
 generalize a.eval=f at *;go_simp
theorem q67a{g:Nat}(hx:a.eval (.tmp x)=.pointer (some ⟨g,15,none⟩)) :
 (execOp a.eval {dst:=d,op := .fieldAddr 34 (.tmp x) 1,type:=r,pos:=p,after:=af,guard:=gd}).run prog w=.ok (.value (.pointer (some ⟨g,16,none⟩))) w:=by
 generalize a.eval=f at *;go_simp
theorem q95n{g:Nat}(hx:a.eval (.tmp x)=.pointer (some ⟨g,15,none⟩)) :
 (execOp a.eval {dst:=d,op := .fieldAddr 34 (.tmp x) 4,type:=r,pos:=p,after:=af,guard:=gd}).run prog w=.ok (.value (.pointer (some ⟨g,19,none⟩))) w:=by
 generalize a.eval=f at *;go_simp
theorem qmmx{g j:Nat}{n:Int}(hx:a.eval (.tmp x)=.pointer (some ⟨g,j,none⟩))(hc:w.cell? ⟨g,j,none⟩=some (.int .i64 n)) :
 (execOp a.eval {dst:=d,op := .load 3 (.tmp x),type:=3,pos:=p,after:=af,guard:=gd}).run prog w=.ok (.value (.int .i64 n)) w:=by
 generalize a.eval=f at *;go_simp
theorem qylu{g j:Nat}{n:Bool}(hx:a.eval (.tmp x)=.pointer (some ⟨g,j,none⟩))(hc:w.cell? ⟨g,j,none⟩=some (.bool n)) :
 (execOp a.eval {dst:=d,op := .load 4 (.tmp x),type:=4,pos:=p,after:=af,guard:=gd}).run prog w=.ok (.value (.bool n)) w:=by
 generalize a.eval=f at *;go_simp
theorem qser{g j:Nat}{n:ByteArray}(hx:a.eval (.tmp x)=.pointer (some ⟨g,j,none⟩))(hc:w.cell? ⟨g,j,none⟩=some (.string n)) :
 (execOp a.eval {dst:=d,op := .load 9 (.tmp x),type:=9,pos:=p,after:=af,guard:=gd}).run prog w=.ok (.value (.string n)) w:=by
 generalize a.eval=f at *;go_simp
theorem q27s{g j n c:Nat}{A:Option Addr}(hx:a.eval (.tmp x)=.pointer (some ⟨g,j,none⟩))(hc:w.cell? ⟨g,j,none⟩=some (.slice A n c)) :
 (execOp a.eval {dst:=d,op := .load 32 (.tmp x),type:=32,pos:=p,after:=af,guard:=gd}).run prog w=.ok (.value (.slice A n c)) w:=by
 generalize a.eval=f at *;go_simp
theorem qobe{n:Int}(hx:a.eval (.tmp x)=.int .i64 n)(hw:IntKind.u64.wrap n=n) :
 (execOp a.eval {dst:=d,op := .convert 3 86 (.tmp x),type:=r,pos:=p,after:=af,guard:=gd}).run prog w=.ok (.value (.int .u64 n)) w:=by
 generalize a.eval=f at *;go_simp
theorem qpvg{u v:Int}(hx:a.eval (.tmp x)=.int .i64 u)(hy:a.eval (.tmp y)=.int .i64 v) :
 (execOp a.eval {dst:=d,op := .buildSlice 35 2 #[(0,.tmp x),(1,.tmp y)],type:=r,pos:=p,after:=af,guard:=gd}).run prog w=.ok (.value (.slice (some ⟨w.heap.size,0,none⟩) 2 2)) (w.alloc (.cells #[.int .i64 u,.int .i64 v] 3)):=by
 generalize a.eval=f at *;go_simp
theorem qs4m{u:ByteArray}(hx:a.eval (.tmp x)=.string u) :
 (execOp a.eval {dst:=d,op := .buildSlice 40 1 #[(0,.tmp x)],type:=r,pos:=p,after:=af,guard:=gd}).run prog w=.ok (.value (.slice (some ⟨w.heap.size,0,none⟩) 1 1)) (w.alloc (.cells #[.string u] 9)):=by
 generalize a.eval=f at *;go_simp
theorem q3b0{u v:ByteArray}(hx:a.eval (.tmp x)=.string u)(hy:a.eval (.tmp y)=.string v) :
 (execOp a.eval {dst:=d,op := .buildSlice 40 2 #[(0,.tmp x),(1,.tmp y)],type:=r,pos:=p,after:=af,guard:=gd}).run prog w=.ok (.value (.slice (some ⟨w.heap.size,0,none⟩) 2 2)) (w.alloc (.cells #[.string u,.string v] 9)):=by
 generalize a.eval=f at *;go_simp
theorem ql0f{z1 z2 z3 z4 z5 z6 z7:Tmp}{u1 u2 u3 u4 u5 u6 u7:ByteArray}(h1:a.eval (.tmp z1)=.string u1)(h2:a.eval (.tmp z2)=.string u2)(h3:a.eval (.tmp z3)=.string u3)(h4:a.eval (.tmp z4)=.string u4)(h5:a.eval (.tmp z5)=.string u5)(h6:a.eval (.tmp z6)=.string u6)(h7:a.eval (.tmp z7)=.string u7) :
 (execOp a.eval {dst:=d,op := .buildSlice 40 8 #[(0,.const (.string {data:=#[0,4,77,81,84,84]})),(1,.tmp z1),(2,.tmp z2),(3,.tmp z3),(4,.tmp z4),(5,.tmp z5),(6,.tmp z6),(7,.tmp z7)],type:=r,pos:=p,after:=af,guard:=gd}).run prog w=.ok (.value (.slice (some ⟨w.heap.size,0,none⟩) 8 8)) (w.alloc (.cells #[.string {data:=#[0,4,77,81,84,84]},.string u1,.string u2,.string u3,.string u4,.string u5,.string u6,.string u7] 9)):=by
 have hk:a.eval (.const (.string {data:=#[0,4,77,81,84,84]}))=.string {data:=#[0,4,77,81,84,84]}:=rfl;generalize a.eval=f at *;go_simp
end
theorem q2ps{Q:Exit->Act->World->Prop}{S:(Nat->Option Nat)->World->Prop}{W:World}{B:Nat}{v:Int}{C:Array Value}{k code:Int}{session:Bool}{bit:Int}{A:Option Addr}{n c:Nat}{sO sP sR:ByteArray}{x2 x6 x7 x8 x9 x10 x11 x12 x13 x14 x15 x16 x17 x18 x19 x20 x21 x22 x23 x24 x25 x26 x27 x28 x29 x30 x31 x32 x33 x34 x35 x36 x37 x38 x39 x40 x41 x42 x43 x44 x45 x46 x47 x48 x49 x50 x51 x52 x53 x54 x55 x56 x57 x58 x59 x60 x61 x62 x63 x64 x65 x66 x67 x68 x69 x70 x71 x72 x73 x74 x75 x76 x77 x78 x79 x80 x81 x82 x83 x84:Value}
 (hS:S (fun _=>none) W.drew)
 (K0:∀x w,S x w->w.cell? ⟨B,0,none⟩=some (.int .i64 k))
 (K20:∀x w,S x w->w.cell? ⟨B,20,none⟩=some (.bool session))
 (K21:∀x w,S x w->w.cell? ⟨B,21,none⟩=some (.int .i64 code))
 (K24:∀x w,S x w->w.cell? ⟨B,24,none⟩=some (.slice A n c))
 (M5:∀x w,S x w->S (putG x 5 w.heap.size) (w.alloc (.cells #[.int .i64 bit,.int .i64 code] 3)))
 (M13:∀x w,S x w->S (putG x 13 w.heap.size) (w.alloc (.cells #[.string sO,.string sP] 9)))
 (H18:∀(x:Nat->Option Nat) (w:World),S x w->Calls prog 109 #[.bool session,.int .i64 1] w fun e w'=>e=.returned (.int .i64 bit)/\S x w')
 (H22:∀(x:Nat->Option Nat) (w:World),S x w->(x 5).isSome=true->Calls prog 108 #[rowN 2 (x 5)] w fun e w'=>e=.returned (.string sO)/\S x w')
 (H28:∀(x:Nat->Option Nat) (w:World),S x w->Calls prog 110 #[.int .i64 v,.int .i64 k,.slice A n c] w fun e w'=>e=.returned (.string sP)/\S x w')
 (H30:∀(x:Nat->Option Nat) (w:World),S x w->(x 13).isSome=true->Calls prog 107 #[rowN 2 (x 13)] w fun e w'=>e=.returned (.string sR)/\S x w')
 (fin:∀(x:Nat->Option Nat) (r5 r13:Value) w,S x w->Q .normal ⟨#[(.int .i64 v),(.agg C),x2,(.pointer (some ⟨B,0,none⟩)),(.string sR),(.int .i64 0),x6,x7,x8,x9,x10,x11,x12,x13,x14,x15,(.pointer (some ⟨B,20,none⟩)),(.bool session),(.int .i64 bit),(.pointer (some ⟨B,21,none⟩)),(.int .i64 code),r5,(.string sO),(.int .i64 v),(.pointer (some ⟨B,0,none⟩)),(.int .i64 k),(.pointer (some ⟨B,24,none⟩)),(.slice A n c),(.string sP),r13,(.string sR),x31,x32,x33,x34,x35,x36,x37,x38,x39,x40,x41,x42,x43,x44,x45,x46,x47,x48,x49,x50,x51,x52,x53,x54,x55,x56,x57,x58,x59,x60,x61,x62,x63,x64,x65,x66,x67,x68,x69,x70,x71,x72,x73,x74,x75,x76,x77,x78,x79,x80,x81,x82,x83,x84],[]⟩ w) :
 (Code.region 5 (qfhu.opsAt 5 Tryz.f89.body) true).wp prog Q ⟨#[(.int .i64 v),(.agg C),x2,(.pointer (some ⟨B,0,none⟩)),(.string ⟨#[]⟩),(.int .i64 0),x6,x7,x8,x9,x10,x11,x12,x13,x14,x15,x16,x17,x18,x19,x20,x21,x22,x23,x24,x25,x26,x27,x28,x29,x30,x31,x32,x33,x34,x35,x36,x37,x38,x39,x40,x41,x42,x43,x44,x45,x46,x47,x48,x49,x50,x51,x52,x53,x54,x55,x56,x57,x58,x59,x60,x61,x62,x63,x64,x65,x66,x67,x68,x69,x70,x71,x72,x73,x74,x75,x76,x77,x78,x79,x80,x81,x82,x83,x84],[]⟩ W:=by
 refine q2y4.wp (x:=fun _=>none) (S:=S) (made:=fun i x=>[5,13].contains i=true->(x i).isSome=true) (war:=[]) (ds:=[16,17,18,19,20,21,22,23,24,25,26,27,28,29,30,4,5]) (D:=[]) (by kernel_rfl) (by kernel_rfl) (by kernel_rfl) ?_ hS ?_ (fun x w _ hS=>fin x (rowN 2 (x 5)) (rowN 2 (x 13)) w hS)
 ·exact fun x=>(by repeat (first|exact trivial|refine⟨.inr rfl,?_⟩|refine⟨.inl rfl,?_⟩))
 refine q2y4.pu rfl rfl (fun _ h=>absurd h (by decide)) (fun x w hm hS=>⟨rfl,rfl,qrr1 rfl⟩) ?_;refine q2y4.pu rfl rfl (fun _ h=>absurd h (by decide)) (fun x w hm hS=>⟨rfl,rfl,qylu rfl (K20 x w hS)⟩) ?_;refine q2y4.All.step rfl (q2y4.Does.call (args:=fun x=>#[.bool session,.int .i64 1]) (val:=fun x=>(.int .i64 bit)) rfl (fun _ h=>absurd h (by decide)) (fun x w hm hS=>⟨rfl,rfl,qpjl.enter2 func109 rfl rfl rfl,H18 x w hS⟩)) ?_;refine q2y4.pu rfl rfl (fun _ h=>absurd h (by decide)) (fun x w hm hS=>⟨rfl,rfl,qpep rfl⟩) ?_;refine q2y4.pu rfl rfl (fun _ h=>absurd h (by decide)) (fun x w hm hS=>⟨rfl,rfl,qmmx rfl (K21 x w hS)⟩) ?_;refine q2y4.All.step rfl ((fun x w hm hS => .inl ⟨rfl,.value (.slice (some ⟨w.heap.size,0,none⟩) 2 2) (putG x 5 w.heap.size) _ (qpvg rfl rfl) ⟨fun d hd=>by cases hd;rfl,M5 x w hS,fun _=>rfl,fun i h hc=>qpwk (h hc),[21],by kernel_rfl,(by repeat (first|exact trivial|refine⟨.inr rfl,?_⟩|refine⟨.inl rfl,?_⟩))⟩⟩)) ?_;refine q2y4.All.step rfl (q2y4.Does.call (args:=fun x=>#[rowN 2 (x 5)]) (val:=fun x=>(.string sO)) rfl (fun _ h=>absurd h (by decide)) (fun x w hm hS=>⟨rfl,rfl,qpjl.enter1 func108 rfl rfl,(fun _ _ _=>H22 x w hS (hm 5 (by kernel_rfl) (by decide) (by decide))) x w hS⟩)) ?_;refine q2y4.pu rfl rfl (fun _ h=>absurd h (by decide)) (fun x w hm hS=>⟨rfl,rfl,rfl⟩) ?_;refine q2y4.pu rfl rfl (fun _ h=>absurd h (by decide)) (fun x w hm hS=>⟨rfl,rfl,q7bh rfl⟩) ?_;refine q2y4.pu rfl rfl (fun _ h=>absurd h (by decide)) (fun x w hm hS=>⟨rfl,rfl,qmmx rfl (K0 x w hS)⟩) ?_;refine q2y4.pu rfl rfl (fun _ h=>absurd h (by decide)) (fun x w hm hS=>⟨rfl,rfl,q10c rfl⟩) ?_;refine q2y4.pu rfl rfl (fun _ h=>absurd h (by decide)) (fun x w hm hS=>⟨rfl,rfl,q27s rfl (K24 x w hS)⟩) ?_;refine q2y4.All.step rfl (q2y4.Does.call (args:=fun x=>#[.int .i64 v,.int .i64 k,.slice A n c]) (val:=fun x=>(.string sP)) rfl (fun _ h=>absurd h (by decide)) (fun x w hm hS=>⟨rfl,rfl,qpjl.enter3 func110 rfl rfl rfl rfl,H28 x w hS⟩)) ?_;refine q2y4.All.step rfl ((fun x w hm hS => .inl ⟨rfl,.value (.slice (some ⟨w.heap.size,0,none⟩) 2 2) (putG x 13 w.heap.size) _ (q3b0 rfl rfl) ⟨fun d hd=>by cases hd;rfl,M13 x w hS,fun _=>rfl,fun i h hc=>qpwk (h hc),[29],by kernel_rfl,(by repeat (first|exact trivial|refine⟨.inr rfl,?_⟩|refine⟨.inl rfl,?_⟩))⟩⟩)) ?_;refine q2y4.All.step rfl (q2y4.Does.call (args:=fun x=>#[rowN 2 (x 13)]) (val:=fun x=>(.string sR)) rfl (fun _ h=>absurd h (by decide)) (fun x w hm hS=>⟨rfl,rfl,qpjl.enter1 func107 rfl rfl,(fun _ _ _=>H30 x w hS (hm 13 (by kernel_rfl) (by decide) (by decide))) x w hS⟩)) ?_
 iterate 2 refine q2y4.pu rfl rfl (fun _ h=>absurd h (by decide)) (fun x w hm hS=>⟨rfl,rfl,rfl⟩) ?_
 exact q2y4.All.fin rfl
theorem qnpt{Q:Exit->Act->World->Prop}{S:(Nat->Option Nat)->World->Prop}{W:World}{B:Nat}{v:Int}{C:Array Value}{k keep F:Int}{hu ha hw_:Bool}{A AW:Option Addr}{n c nw cw:Nat}{sO sK sP sC sCp sW sT sY sYp sZ sU sUp sUw sA sAp sAw sR:ByteArray}{x2 x6 x7 x8 x9 x10 x11 x12 x13 x14 x15 x16 x17 x18 x19 x20 x21 x22 x23 x24 x25 x26 x27 x28 x29 x30 x31 x32 x33 x34 x35 x36 x37 x38 x39 x40 x41 x42 x43 x44 x45 x46 x47 x48 x49 x50 x51 x52 x53 x54 x55 x56 x57 x58 x59 x60 x61 x62 x63 x64 x65 x66 x67 x68 x69 x70 x71 x72 x73 x74 x75 x76 x77 x78 x79 x80 x81 x82 x83 x84:Value}
 (hS:S (fun _=>none) W.drew) (hC:C.size=25) (hS1:∀x w,S x w->w.heap[B]?=some (.cells C 38 (0,0))) (hw:IntKind.u64.wrap keep=keep)
 (K0:∀x w,S x w->w.cell? ⟨B,0,none⟩=some (.int .i64 k))
 (K8:∀x w,S x w->w.cell? ⟨B,8,none⟩=some (.int .i64 keep))
 (K9:∀x w,S x w->w.cell? ⟨B,9,none⟩=some (.string sC))
 (K10:∀x w,S x w->w.cell? ⟨B,10,none⟩=some (.bool hu))
 (K11:∀x w,S x w->w.cell? ⟨B,11,none⟩=some (.string sU))
 (K12:∀x w,S x w->w.cell? ⟨B,12,none⟩=some (.bool ha))
 (K13:∀x w,S x w->w.cell? ⟨B,13,none⟩=some (.string sA))
 (K14:∀x w,S x w->w.cell? ⟨B,14,none⟩=some (.bool hw_))
 (K15:∀x w,S x w->w.cell? ⟨B,15,none⟩=some (.string sT))
 (K16:∀x w,S x w->w.cell? ⟨B,16,none⟩=some (.string sY))
 (K19:∀x w,S x w->w.cell? ⟨B,19,none⟩=some (.slice AW nw cw))
 (K24:∀x w,S x w->w.cell? ⟨B,24,none⟩=some (.slice A n c))
 (M3:∀x w,S x w->S (putG x 3 w.heap.size) (w.alloc (.cells #[.int .i64 v,.int .i64 F] 3)))
 (M17:∀x w,S x w->S (putG x 17 w.heap.size) (w.alloc (.cells #[.string sC] 9)))
 (M32:∀x w,S x w->S (putG x 32 w.heap.size) (w.alloc (.cells #[.string sT,.string sY] 9)))
 (M34:∀x w,S x w->S (putG x 34 w.heap.size) (w.alloc (.cells #[.string sW,.string sYp] 9)))
 (M40:∀x w,S x w->S (putG x 40 w.heap.size) (w.alloc (.cells #[.string sU] 9)))
 (M42:∀x w,S x w->S (putG x 42 w.heap.size) (w.alloc (.cells #[.string sUp] 9)))
 (M48:∀x w,S x w->S (putG x 48 w.heap.size) (w.alloc (.cells #[.string sA] 9)))
 (M50:∀x w,S x w->S (putG x 50 w.heap.size) (w.alloc (.cells #[.string sAp] 9)))
 (M52:∀x w,S x w->S (putG x 52 w.heap.size) (w.alloc (.cells #[.string {data:=#[0,4,77,81,84,84]},.string sO,.string sK,.string sP,.string sCp,.string sZ,.string sUw,.string sAw] 9)))
 (H33:∀(x:Nat->Option Nat) (w:World),S x w->Calls prog 111 #[.agg C] w fun e w'=>e=.returned (.int .i64 F)/\S x w')
 (H35:∀(x:Nat->Option Nat) (w:World),S x w->(x 3).isSome=true->Calls prog 108 #[rowN 2 (x 3)] w fun e w'=>e=.returned (.string sO)/\S x w')
 (H39:∀(x:Nat->Option Nat) (w:World),S x w->Calls prog 72 #[.int .u64 keep,.int .i64 2] w fun e w'=>e=.returned (.string sK)/\S x w')
 (H45:∀(x:Nat->Option Nat) (w:World),S x w->Calls prog 110 #[.int .i64 v,.int .i64 k,.slice A n c] w fun e w'=>e=.returned (.string sP)/\S x w')
 (H49:∀(x:Nat->Option Nat) (w:World),S x w->(x 17).isSome=true->Calls prog 112 #[rowN 1 (x 17)] w fun e w'=>e=.returned (.string sCp)/\S x w')
 (H56:∀(x:Nat->Option Nat) (w:World),S x w->Calls prog 110 #[.int .i64 v,.int .i64 16,.slice AW nw cw] w fun e w'=>e=.returned (.string sW)/\S x w')
 (H64:∀(x:Nat->Option Nat) (w:World),S x w->(x 32).isSome=true->Calls prog 112 #[rowN 2 (x 32)] w fun e w'=>e=.returned (.string sYp)/\S x w')
 (H66:∀(x:Nat->Option Nat) (w:World),S x w->(x 34).isSome=true->Calls prog 113 #[.bool hw_,rowN 2 (x 34)] w fun e w'=>e=.returned (.string sZ)/\S x w')
 (H72:∀(x:Nat->Option Nat) (w:World),S x w->(x 40).isSome=true->Calls prog 112 #[rowN 1 (x 40)] w fun e w'=>e=.returned (.string sUp)/\S x w')
 (H74:∀(x:Nat->Option Nat) (w:World),S x w->(x 42).isSome=true->Calls prog 113 #[.bool hu,rowN 1 (x 42)] w fun e w'=>e=.returned (.string sUw)/\S x w')
 (H80:∀(x:Nat->Option Nat) (w:World),S x w->(x 48).isSome=true->Calls prog 112 #[rowN 1 (x 48)] w fun e w'=>e=.returned (.string sAp)/\S x w')
 (H82:∀(x:Nat->Option Nat) (w:World),S x w->(x 50).isSome=true->Calls prog 113 #[.bool ha,rowN 1 (x 50)] w fun e w'=>e=.returned (.string sAw)/\S x w')
 (H84:∀(x:Nat->Option Nat) (w:World),S x w->(x 52).isSome=true->Calls prog 107 #[rowN 8 (x 52)] w fun e w'=>e=.returned (.string sR)/\S x w')
 (fin:∀(x:Nat->Option Nat) (r3 r17 r32 r34 r40 r42 r48 r50 r52:Value) w,S x w->Q .normal ⟨#[(.int .i64 v),(.agg C),x2,(.pointer (some ⟨B,0,none⟩)),(.string sR),(.int .i64 0),x6,x7,x8,x9,x10,x11,x12,x13,x14,x15,x16,x17,x18,x19,x20,x21,x22,x23,x24,x25,x26,x27,x28,x29,x30,(.int .i64 v),(.agg C),(.int .i64 F),r3,(.string sO),(.pointer (some ⟨B,8,none⟩)),(.int .i64 keep),(.int .u64 keep),(.string sK),(.int .i64 v),(.pointer (some ⟨B,0,none⟩)),(.int .i64 k),(.pointer (some ⟨B,24,none⟩)),(.slice A n c),(.string sP),(.pointer (some ⟨B,9,none⟩)),(.string sC),r17,(.string sCp),(.pointer (some ⟨B,14,none⟩)),(.bool hw_),(.int .i64 v),(.pointer (some ⟨B,15,none⟩)),(.pointer (some ⟨B,19,none⟩)),(.slice AW nw cw),(.string sW),(.pointer (some ⟨B,15,none⟩)),(.pointer (some ⟨B,15,none⟩)),(.string sT),(.pointer (some ⟨B,15,none⟩)),(.pointer (some ⟨B,16,none⟩)),(.string sY),r32,(.string sYp),r34,(.string sZ),(.pointer (some ⟨B,10,none⟩)),(.bool hu),(.pointer (some ⟨B,11,none⟩)),(.string sU),r40,(.string sUp),r42,(.string sUw),(.pointer (some ⟨B,12,none⟩)),(.bool ha),(.pointer (some ⟨B,13,none⟩)),(.string sA),r48,(.string sAp),r50,(.string sAw),r52,(.string sR)],[]⟩ w) :
 (Code.region 6 (qfhu.opsAt 6 Tryz.f89.body) true).wp prog Q ⟨#[(.int .i64 v),(.agg C),x2,(.pointer (some ⟨B,0,none⟩)),(.string ⟨#[]⟩),(.int .i64 0),x6,x7,x8,x9,x10,x11,x12,x13,x14,x15,x16,x17,x18,x19,x20,x21,x22,x23,x24,x25,x26,x27,x28,x29,x30,x31,x32,x33,x34,x35,x36,x37,x38,x39,x40,x41,x42,x43,x44,x45,x46,x47,x48,x49,x50,x51,x52,x53,x54,x55,x56,x57,x58,x59,x60,x61,x62,x63,x64,x65,x66,x67,x68,x69,x70,x71,x72,x73,x74,x75,x76,x77,x78,x79,x80,x81,x82,x83,x84],[]⟩ W:=by
 refine q2y4.wp (x:=fun _=>none) (S:=S) (made:=fun i x=>[3,17,32,34,40,42,48,50,52].contains i=true->(x i).isSome=true) (war:=[]) (ds:=[31,32,33,34,35,36,37,38,39,40,41,42,43,44,45,46,47,48,49,50,51,52,53,54,55,56,57,58,59,60,61,62,63,64,65,66,67,68,69,70,71,72,73,74,75,76,77,78,79,80,81,82,83,84,4,5]) (D:=[]) (by kernel_rfl) (by kernel_rfl) (by kernel_rfl) ?_ hS ?_ (fun x w _ hS=>fin x (rowN 2 (x 3)) (rowN 1 (x 17)) (rowN 2 (x 32)) (rowN 2 (x 34)) (rowN 1 (x 40)) (rowN 1 (x 42)) (rowN 1 (x 48)) (rowN 1 (x 50)) (rowN 8 (x 52)) w hS)
 ·exact fun x=>(by repeat (first|exact trivial|refine⟨.inr rfl,?_⟩|refine⟨.inl rfl,?_⟩))
 refine q2y4.pu rfl rfl (fun _ h=>absurd h (by decide)) (fun x w hm hS=>⟨rfl,rfl,rfl⟩) ?_;refine q2y4.pu rfl rfl (fun _ h=>absurd h (by decide)) (fun x w hm hS=>⟨rfl,rfl,qa2f rfl hC (hS1 x w hS)⟩) ?_;refine q2y4.All.step rfl (q2y4.Does.call (args:=fun x=>#[.agg C]) (val:=fun x=>(.int .i64 F)) rfl (fun _ h=>absurd h (by decide)) (fun x w hm hS=>⟨rfl,rfl,qpjl.enter1 func111 rfl rfl,H33 x w hS⟩)) ?_;refine q2y4.All.step rfl ((fun x w hm hS => .inl ⟨rfl,.value (.slice (some ⟨w.heap.size,0,none⟩) 2 2) (putG x 3 w.heap.size) _ (qpvg rfl rfl) ⟨fun d hd=>by cases hd;rfl,M3 x w hS,fun _=>rfl,fun i h hc=>qpwk (h hc),[34],by kernel_rfl,(by repeat (first|exact trivial|refine⟨.inr rfl,?_⟩|refine⟨.inl rfl,?_⟩))⟩⟩)) ?_;refine q2y4.All.step rfl (q2y4.Does.call (args:=fun x=>#[rowN 2 (x 3)]) (val:=fun x=>(.string sO)) rfl (fun _ h=>absurd h (by decide)) (fun x w hm hS=>⟨rfl,rfl,qpjl.enter1 func108 rfl rfl,(fun _ _ _=>H35 x w hS (hm 3 (by kernel_rfl) (by decide) (by decide))) x w hS⟩)) ?_;refine q2y4.pu rfl rfl (fun _ h=>absurd h (by decide)) (fun x w hm hS=>⟨rfl,rfl,q9ys rfl⟩) ?_;refine q2y4.pu rfl rfl (fun _ h=>absurd h (by decide)) (fun x w hm hS=>⟨rfl,rfl,qmmx rfl (K8 x w hS)⟩) ?_;refine q2y4.pu rfl rfl (fun _ h=>absurd h (by decide)) (fun x w hm hS=>⟨rfl,rfl,qobe rfl hw⟩) ?_;refine q2y4.All.step rfl (q2y4.Does.call (args:=fun x=>#[.int .u64 keep,.int .i64 2]) (val:=fun x=>(.string sK)) rfl (fun _ h=>absurd h (by decide)) (fun x w hm hS=>⟨rfl,rfl,qpjl.enter2 func72 rfl rfl rfl,H39 x w hS⟩)) ?_;refine q2y4.pu rfl rfl (fun _ h=>absurd h (by decide)) (fun x w hm hS=>⟨rfl,rfl,rfl⟩) ?_;refine q2y4.pu rfl rfl (fun _ h=>absurd h (by decide)) (fun x w hm hS=>⟨rfl,rfl,q7bh rfl⟩) ?_;refine q2y4.pu rfl rfl (fun _ h=>absurd h (by decide)) (fun x w hm hS=>⟨rfl,rfl,qmmx rfl (K0 x w hS)⟩) ?_;refine q2y4.pu rfl rfl (fun _ h=>absurd h (by decide)) (fun x w hm hS=>⟨rfl,rfl,q10c rfl⟩) ?_;refine q2y4.pu rfl rfl (fun _ h=>absurd h (by decide)) (fun x w hm hS=>⟨rfl,rfl,q27s rfl (K24 x w hS)⟩) ?_;refine q2y4.All.step rfl (q2y4.Does.call (args:=fun x=>#[.int .i64 v,.int .i64 k,.slice A n c]) (val:=fun x=>(.string sP)) rfl (fun _ h=>absurd h (by decide)) (fun x w hm hS=>⟨rfl,rfl,qpjl.enter3 func110 rfl rfl rfl rfl,H45 x w hS⟩)) ?_;refine q2y4.pu rfl rfl (fun _ h=>absurd h (by decide)) (fun x w hm hS=>⟨rfl,rfl,qvun rfl⟩) ?_;refine q2y4.pu rfl rfl (fun _ h=>absurd h (by decide)) (fun x w hm hS=>⟨rfl,rfl,qser rfl (K9 x w hS)⟩) ?_;refine q2y4.All.step rfl ((fun x w hm hS => .inl ⟨rfl,.value (.slice (some ⟨w.heap.size,0,none⟩) 1 1) (putG x 17 w.heap.size) _ (qs4m rfl) ⟨fun d hd=>by cases hd;rfl,M17 x w hS,fun _=>rfl,fun i h hc=>qpwk (h hc),[48],by kernel_rfl,(by repeat (first|exact trivial|refine⟨.inr rfl,?_⟩|refine⟨.inl rfl,?_⟩))⟩⟩)) ?_;refine q2y4.All.step rfl (q2y4.Does.call (args:=fun x=>#[rowN 1 (x 17)]) (val:=fun x=>(.string sCp)) rfl (fun _ h=>absurd h (by decide)) (fun x w hm hS=>⟨rfl,rfl,qpjl.enter1 func112 rfl rfl,(fun _ _ _=>H49 x w hS (hm 17 (by kernel_rfl) (by decide) (by decide))) x w hS⟩)) ?_;refine q2y4.pu rfl rfl (fun _ h=>absurd h (by decide)) (fun x w hm hS=>⟨rfl,rfl,qndn rfl⟩) ?_;refine q2y4.pu rfl rfl (fun _ h=>absurd h (by decide)) (fun x w hm hS=>⟨rfl,rfl,qylu rfl (K14 x w hS)⟩) ?_;refine q2y4.pu rfl rfl (fun _ h=>absurd h (by decide)) (fun x w hm hS=>⟨rfl,rfl,rfl⟩) ?_;refine q2y4.pu rfl rfl (fun _ h=>absurd h (by decide)) (fun x w hm hS=>⟨rfl,rfl,q9tf rfl⟩) ?_;refine q2y4.pu rfl rfl (fun _ h=>absurd h (by decide)) (fun x w hm hS=>⟨rfl,rfl,q95n rfl⟩) ?_;refine q2y4.pu rfl rfl (fun _ h=>absurd h (by decide)) (fun x w hm hS=>⟨rfl,rfl,q27s rfl (K19 x w hS)⟩) ?_;refine q2y4.All.step rfl (q2y4.Does.call (args:=fun x=>#[.int .i64 v,.int .i64 16,.slice AW nw cw]) (val:=fun x=>(.string sW)) rfl (fun _ h=>absurd h (by decide)) (fun x w hm hS=>⟨rfl,rfl,qpjl.enter3 func110 rfl rfl rfl rfl,H56 x w hS⟩)) ?_;refine q2y4.pu rfl rfl (fun _ h=>absurd h (by decide)) (fun x w hm hS=>⟨rfl,rfl,q9tf rfl⟩) ?_;refine q2y4.pu rfl rfl (fun _ h=>absurd h (by decide)) (fun x w hm hS=>⟨rfl,rfl,qg9y rfl⟩) ?_;refine q2y4.pu rfl rfl (fun _ h=>absurd h (by decide)) (fun x w hm hS=>⟨rfl,rfl,qser rfl (K15 x w hS)⟩) ?_;refine q2y4.pu rfl rfl (fun _ h=>absurd h (by decide)) (fun x w hm hS=>⟨rfl,rfl,q9tf rfl⟩) ?_;refine q2y4.pu rfl rfl (fun _ h=>absurd h (by decide)) (fun x w hm hS=>⟨rfl,rfl,q67a rfl⟩) ?_;refine q2y4.pu rfl rfl (fun _ h=>absurd h (by decide)) (fun x w hm hS=>⟨rfl,rfl,qser rfl (K16 x w hS)⟩) ?_;refine q2y4.All.step rfl ((fun x w hm hS => .inl ⟨rfl,.value (.slice (some ⟨w.heap.size,0,none⟩) 2 2) (putG x 32 w.heap.size) _ (q3b0 rfl rfl) ⟨fun d hd=>by cases hd;rfl,M32 x w hS,fun _=>rfl,fun i h hc=>qpwk (h hc),[63],by kernel_rfl,(by repeat (first|exact trivial|refine⟨.inr rfl,?_⟩|refine⟨.inl rfl,?_⟩))⟩⟩)) ?_;refine q2y4.All.step rfl (q2y4.Does.call (args:=fun x=>#[rowN 2 (x 32)]) (val:=fun x=>(.string sYp)) rfl (fun _ h=>absurd h (by decide)) (fun x w hm hS=>⟨rfl,rfl,qpjl.enter1 func112 rfl rfl,(fun _ _ _=>H64 x w hS (hm 32 (by kernel_rfl) (by decide) (by decide))) x w hS⟩)) ?_;refine q2y4.All.step rfl ((fun x w hm hS => .inl ⟨rfl,.value (.slice (some ⟨w.heap.size,0,none⟩) 2 2) (putG x 34 w.heap.size) _ (q3b0 rfl rfl) ⟨fun d hd=>by cases hd;rfl,M34 x w hS,fun _=>rfl,fun i h hc=>qpwk (h hc),[65],by kernel_rfl,(by repeat (first|exact trivial|refine⟨.inr rfl,?_⟩|refine⟨.inl rfl,?_⟩))⟩⟩)) ?_;refine q2y4.All.step rfl (q2y4.Does.call (args:=fun x=>#[.bool hw_,rowN 2 (x 34)]) (val:=fun x=>(.string sZ)) rfl (fun _ h=>absurd h (by decide)) (fun x w hm hS=>⟨rfl,rfl,qpjl.enter2 func113 rfl rfl rfl,(fun _ _ _=>H66 x w hS (hm 34 (by kernel_rfl) (by decide) (by decide))) x w hS⟩)) ?_;refine q2y4.pu rfl rfl (fun _ h=>absurd h (by decide)) (fun x w hm hS=>⟨rfl,rfl,qux4 rfl⟩) ?_;refine q2y4.pu rfl rfl (fun _ h=>absurd h (by decide)) (fun x w hm hS=>⟨rfl,rfl,qylu rfl (K10 x w hS)⟩) ?_;refine q2y4.pu rfl rfl (fun _ h=>absurd h (by decide)) (fun x w hm hS=>⟨rfl,rfl,qo3x rfl⟩) ?_;refine q2y4.pu rfl rfl (fun _ h=>absurd h (by decide)) (fun x w hm hS=>⟨rfl,rfl,qser rfl (K11 x w hS)⟩) ?_;refine q2y4.All.step rfl ((fun x w hm hS => .inl ⟨rfl,.value (.slice (some ⟨w.heap.size,0,none⟩) 1 1) (putG x 40 w.heap.size) _ (qs4m rfl) ⟨fun d hd=>by cases hd;rfl,M40 x w hS,fun _=>rfl,fun i h hc=>qpwk (h hc),[71],by kernel_rfl,(by repeat (first|exact trivial|refine⟨.inr rfl,?_⟩|refine⟨.inl rfl,?_⟩))⟩⟩)) ?_;refine q2y4.All.step rfl (q2y4.Does.call (args:=fun x=>#[rowN 1 (x 40)]) (val:=fun x=>(.string sUp)) rfl (fun _ h=>absurd h (by decide)) (fun x w hm hS=>⟨rfl,rfl,qpjl.enter1 func112 rfl rfl,(fun _ _ _=>H72 x w hS (hm 40 (by kernel_rfl) (by decide) (by decide))) x w hS⟩)) ?_;refine q2y4.All.step rfl ((fun x w hm hS => .inl ⟨rfl,.value (.slice (some ⟨w.heap.size,0,none⟩) 1 1) (putG x 42 w.heap.size) _ (qs4m rfl) ⟨fun d hd=>by cases hd;rfl,M42 x w hS,fun _=>rfl,fun i h hc=>qpwk (h hc),[73],by kernel_rfl,(by repeat (first|exact trivial|refine⟨.inr rfl,?_⟩|refine⟨.inl rfl,?_⟩))⟩⟩)) ?_;refine q2y4.All.step rfl (q2y4.Does.call (args:=fun x=>#[.bool hu,rowN 1 (x 42)]) (val:=fun x=>(.string sUw)) rfl (fun _ h=>absurd h (by decide)) (fun x w hm hS=>⟨rfl,rfl,qpjl.enter2 func113 rfl rfl rfl,(fun _ _ _=>H74 x w hS (hm 42 (by kernel_rfl) (by decide) (by decide))) x w hS⟩)) ?_;refine q2y4.pu rfl rfl (fun _ h=>absurd h (by decide)) (fun x w hm hS=>⟨rfl,rfl,qy7x rfl⟩) ?_;refine q2y4.pu rfl rfl (fun _ h=>absurd h (by decide)) (fun x w hm hS=>⟨rfl,rfl,qylu rfl (K12 x w hS)⟩) ?_;refine q2y4.pu rfl rfl (fun _ h=>absurd h (by decide)) (fun x w hm hS=>⟨rfl,rfl,qsfc rfl⟩) ?_;refine q2y4.pu rfl rfl (fun _ h=>absurd h (by decide)) (fun x w hm hS=>⟨rfl,rfl,qser rfl (K13 x w hS)⟩) ?_;refine q2y4.All.step rfl ((fun x w hm hS => .inl ⟨rfl,.value (.slice (some ⟨w.heap.size,0,none⟩) 1 1) (putG x 48 w.heap.size) _ (qs4m rfl) ⟨fun d hd=>by cases hd;rfl,M48 x w hS,fun _=>rfl,fun i h hc=>qpwk (h hc),[79],by kernel_rfl,(by repeat (first|exact trivial|refine⟨.inr rfl,?_⟩|refine⟨.inl rfl,?_⟩))⟩⟩)) ?_;refine q2y4.All.step rfl (q2y4.Does.call (args:=fun x=>#[rowN 1 (x 48)]) (val:=fun x=>(.string sAp)) rfl (fun _ h=>absurd h (by decide)) (fun x w hm hS=>⟨rfl,rfl,qpjl.enter1 func112 rfl rfl,(fun _ _ _=>H80 x w hS (hm 48 (by kernel_rfl) (by decide) (by decide))) x w hS⟩)) ?_;refine q2y4.All.step rfl ((fun x w hm hS => .inl ⟨rfl,.value (.slice (some ⟨w.heap.size,0,none⟩) 1 1) (putG x 50 w.heap.size) _ (qs4m rfl) ⟨fun d hd=>by cases hd;rfl,M50 x w hS,fun _=>rfl,fun i h hc=>qpwk (h hc),[81],by kernel_rfl,(by repeat (first|exact trivial|refine⟨.inr rfl,?_⟩|refine⟨.inl rfl,?_⟩))⟩⟩)) ?_;refine q2y4.All.step rfl (q2y4.Does.call (args:=fun x=>#[.bool ha,rowN 1 (x 50)]) (val:=fun x=>(.string sAw)) rfl (fun _ h=>absurd h (by decide)) (fun x w hm hS=>⟨rfl,rfl,qpjl.enter2 func113 rfl rfl rfl,(fun _ _ _=>H82 x w hS (hm 50 (by kernel_rfl) (by decide) (by decide))) x w hS⟩)) ?_;refine q2y4.All.step rfl ((fun x w hm hS => .inl ⟨rfl,.value (.slice (some ⟨w.heap.size,0,none⟩) 8 8) (putG x 52 w.heap.size) _ (ql0f rfl rfl rfl rfl rfl rfl rfl) ⟨fun d hd=>by cases hd;rfl,M52 x w hS,fun _=>rfl,fun i h hc=>qpwk (h hc),[83],by kernel_rfl,(by repeat (first|exact trivial|refine⟨.inr rfl,?_⟩|refine⟨.inl rfl,?_⟩))⟩⟩)) ?_;refine q2y4.All.step rfl (q2y4.Does.call (args:=fun x=>#[rowN 8 (x 52)]) (val:=fun x=>(.string sR)) rfl (fun _ h=>absurd h (by decide)) (fun x w hm hS=>⟨rfl,rfl,qpjl.enter1 func107 rfl rfl,(fun _ _ _=>H84 x w hS (hm 52 (by kernel_rfl) (by decide) (by decide))) x w hS⟩)) ?_
 iterate 2 refine q2y4.pu rfl rfl (fun _ h=>absurd h (by decide)) (fun x w hm hS=>⟨rfl,rfl,rfl⟩) ?_
 exact q2y4.All.fin rfl
section
variable{a:Act}{w:World}{d:Option Tmp}{p:String}{af:Array Edge}{gd:Option (Nat×Bool)}{x y z:Tmp}{r:TypeId}
theorem qusw{u v z:ByteArray}(hx:a.eval (.tmp x)=.string u)(hy:a.eval (.tmp y)=.string v)(hz:u++v=z)(hn:z.size<=9223372036854775807) :
 (execOp a.eval {dst:=d,op := .binOp .add 9 (.tmp x) (.tmp y) 9,type:=r,pos:=p,after:=af,guard:=gd}).run prog w=.ok (.value (.string z)) w:=by
 have hn:¬9223372036854775807<u.size+v.size:=by rw[<-hz,ByteArray.size_append] at hn;omega
 generalize a.eval=f at *;rw[<-hz];go_simp
theorem q2ke{g:Nat}{C:Array Value}(hx:a.eval (.tmp x)=.pointer (some ⟨g,0,none⟩))(hs:C.size=25)(hg:w.heap[g]?=some (.cells C 38 (0,0))) :
 (execOp a.eval {dst:=d,op := .load 38 (.tmp x),type:=38,pos:=p,after:=af,guard:=gd}).run prog w=.ok (.value (.agg C)) w:=by
 unfold execOp;simp only[hx,Instr.loadAt,Instr.sureAddr,Sem.run_bind,Sem.run_pure,Result.andThen_ok,run_loadVar_row w g 38 38 C (0,0) _ hg underlying38 rfl (by rw[hs];exact q5nr)]
theorem qc3b{g:Nat}(hx:a.eval (.tmp x)=.pointer (some ⟨g,0,none⟩)) :
 (execOp a.eval {dst:=d,op := .fieldAddr 38 (.tmp x) 6,type:=r,pos:=p,after:=af,guard:=gd}).run prog w=.ok (.value (.pointer (some ⟨g,6,none⟩))) w:=by
 generalize a.eval=f at *;go_simp
theorem qmlj{g j:Nat}{u:ByteArray}(hx:a.eval (.tmp x)=.pointer (some ⟨g,j,none⟩))(hc:w.cell? ⟨g,j,none⟩=some (.string u)) :
 (execOp a.eval {dst:=d,op := .load 9 (.tmp x),type:=9,pos:=p,after:=af,guard:=gd}).run prog w=.ok (.value (.string u)) w:=by
 generalize a.eval=f at *;go_simp
end
theorem q869{Q:Exit->Act->World->Prop}{S:World->Prop}{W:World}{b:Nat}{v:Int}{C:Array Value}{N I T PA Z1 Z2 Z3:ByteArray}{x1 x2 x4 x5 x6 x8 x9 x10 x11 x12 x13 x14 x15 x16 x17 x18 x19 x20 x21 x22 x23 x24 x25 x26 x27 x28 x29 x30 x31:Value}
 (hS:S W.drew) (hC:C.size=25) (KC:∀w,S w->w.heap[b]?=some (.cells C 38 (0,0))) (K6:∀w,S w->w.cell? ⟨b,6,none⟩=some (.string PA))
 (H0:∀w,S w->Calls prog 119 #[(.agg C)] w fun e w'=>e=.returned (.string I)/\S w')
 (H1:∀w,S w->Calls prog 120 #[(.int .i64 v),(.agg C)] w fun e w'=>e=.returned (.string T)/\S w')
 (eZ1:N++I=Z1) (sZ1:Z1.size<=9223372036854775807) (eZ2:Z1++T=Z2) (sZ2:Z2.size<=9223372036854775807) (eZ3:Z2++PA=Z3) (sZ3:Z3.size<=9223372036854775807)
 (fin:∀w,S w->Q .normal ⟨#[(.int .i64 v),x1,x2,(.pointer (some ⟨b,0,none⟩)),(.string Z3),(.int .i64 0),x6,(.string N),x8,x9,x10,x11,x12,x13,x14,x15,x16,x17,x18,x19,x20,(.string N),(.agg C),(.string I),(.string Z1),(.int .i64 v),(.agg C),(.string T),(.string Z2),(.pointer (some ⟨b,6,none⟩)),(.string PA),(.string Z3)],[]⟩ w) :
 (Code.region 5 (qfhu.opsAt 5 Tryz.f91.body) true).wp prog Q ⟨#[(.int .i64 v),x1,x2,(.pointer (some ⟨b,0,none⟩)),x4,x5,x6,(.string N),x8,x9,x10,x11,x12,x13,x14,x15,x16,x17,x18,x19,x20,x21,x22,x23,x24,x25,x26,x27,x28,x29,x30,x31],[]⟩ W:=by
 refine qfhu.wp_in (ds:=[21,22,23,24,25,26,27,28,29,30,31,4,5]) (D:=[]) (by kernel_rfl) (by kernel_rfl) (by kernel_rfl) ?_ hS ?_ (fun w hS=>fin w hS)
 ·exact(by repeat (first|exact trivial|refine⟨.inr rfl,?_⟩|refine⟨.inl rfl,?_⟩))
 refine qfhu.pu rfl rfl rfl rfl (fun w hS=>rfl) ?_;refine qfhu.pu rfl rfl rfl rfl (fun w hS=>q2ke rfl hC (KC w hS)) ?_;refine qfhu.ca rfl rfl rfl rfl (fun w=>qpjl.enter1 func119 rfl rfl) H0 ?_;refine qfhu.pu rfl rfl rfl rfl (fun w hS=>qusw rfl rfl eZ1 sZ1) ?_;refine qfhu.pu rfl rfl rfl rfl (fun w hS=>rfl) ?_;refine qfhu.pu rfl rfl rfl rfl (fun w hS=>q2ke rfl hC (KC w hS)) ?_;refine qfhu.ca rfl rfl rfl rfl (fun w=>qpjl.enter2 func120 rfl rfl rfl) H1 ?_;refine qfhu.pu rfl rfl rfl rfl (fun w hS=>qusw rfl rfl eZ2 sZ2) ?_;refine qfhu.pu rfl rfl rfl rfl (fun w hS=>qc3b rfl) ?_;refine qfhu.pu rfl rfl rfl rfl (fun w hS=>qmlj rfl (K6 w hS)) ?_;refine qfhu.pu rfl rfl rfl rfl (fun w hS=>qusw rfl rfl eZ3 sZ3) ?_;refine qfhu.pu rfl rfl rfl rfl (fun w hS=>rfl) ?_;refine qfhu.pu rfl rfl rfl rfl (fun w hS=>rfl) ?_;exact qfhu.All.fin rfl
end Go.Proofs.YtefmhbioggcfaaaGreatDoor
