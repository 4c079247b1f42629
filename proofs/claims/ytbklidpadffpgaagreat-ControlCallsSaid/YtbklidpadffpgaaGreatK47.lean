/- The contract of polyglotref05.next. Condition: at most 70,000 bytes. -/
import Derived.Deep.DeepCutAuto
import Derived.Test.YtbklidpadffpgaaGreatK46
import Derived.Test.YtbklidpadffpgaaGreatK19
import Derived.Test.YtbklidpadffpgaaGreatK11
import Derived.Test.YtbklidpadffpgaaGreatK33
import Derived.Test.YtbklidpadffpgaaGreatK23
set_option maxRecDepth 100000
set_option maxHeartbeats 2000000
namespace Go.Proofs.YtbklidpadffpgaaGreat
open Go.RowKit
theorem qit4{fn:Func}{p u v:Tmp}{ty:TypeId}(h:fn.results=#[.cell p ty,.tmp u,.tmp v])(tmps:Array Value)(P:Program)(w:World) :
 (results fn tmps).run P w=
  ((asAddr (tmps.getD p undef)).run P w).andThen fun a w₁=>((loadVar ty a).run P w₁).andThen fun x w₂ => .ok (.tuple #[x,tmps.getD u undef,tmps.getD v undef]) w₂:=by
 simp only[results,h]
 simp[Sem.run_bind,Result.andThen]
theorem qhfo{fn:Func}{R:Ending→World→Prop}{a:Act}{W:World}{p u v:Tmp}{B:Nat}{cs:Array Value}{x y:Value}(h:fn.results=#[.cell p 25,.tmp u,.tmp v])(hp:a.tmps.getD p undef = .pointer (some ⟨B,0,none⟩))(hu:a.tmps.getD u undef=x)(hv:a.tmps.getD v undef=y)(hd:a.defers=[])(hcs:cs.size=4)
 (hg:W.heap[B]? = some (.cells cs 25 (0,0))) (hR:R (.returned (.tuple #[.agg cs,x,y])) W):bodyPost Tryz.prog fn R .ret a W:=by
 refine bodyPost_ret (v := .tuple #[.agg cs,x,y]) ?_ hd hR
 rw[qit4 h,hp,hu,hv]
 have:=run_loadVar_row (P:=Tryz.prog) W B 25 25 cs (0,0) _ hg Tryz.underlying25 rfl (by rw[hcs];kernel_rfl)
 simp[asAddr,this,Result.andThen]
def NtB(w W:World):Prop:=Below w.heap.size w W∧W.heap[w.heap.size]? = some (.cells #[.int .i64 0,.int .u32 0,.string ⟨#[]⟩,.string ⟨#[]⟩] 25 (0,0))
theorem NtB.alloc{w W:World}(h:NtB w W)(o:Obj):NtB w (W.alloc o):=⟨h.1.alloc h.1.size o,(heap_alloc_old _ _ (lt_of_block h.2)).trans h.2⟩
theorem NtB.setP{w W:World}(h:NtB w W)(j:Nat)(v:Value):NtB w (W.setCell ⟨w.heap.size+1,j,none⟩ v):=
 ⟨⟨h.1.os,h.1.tape,h.1.output,by have:=h.1.size;simpa [World.setCell] using this,fun k hk=>(Below.heap_setCell _ _ _ _ (show k≠w.heap.size+1 by omega)).trans (h.1.block k hk)⟩,(Below.heap_setCell _ _ _ _ (show w.heap.size≠w.heap.size+1 by omega)).trans h.2⟩
theorem NtB.fin{w W:World}(h:NtB w W)(a b c d:Value):(set4 W w.heap.size a b c d).heap[w.heap.size]? = some (.cells #[a,b,c,d] 25 (0,0))∧Below w.heap.size w (set4 W w.heap.size a b c d):=
 ⟨qgwu h.2 a b c d,qden h.1 (Nat.le_refl _) a b c d⟩
theorem qq1t(w:World)(x:Int):RowKit.Hid (((w.alloc (.cells #[.int .i64 0,.int .u32 0,.string ⟨#[]⟩,.string ⟨#[]⟩] 25)).alloc (.cells #[.int .i64 x,.int .u32 0,.string ⟨#[]⟩,.string ⟨#[]⟩] 25)).heap[w.heap.size+1]? = some (.cells #[.int .i64 x,.int .u32 0,.string ⟨#[]⟩,.string ⟨#[]⟩] 25 (0,0)))∧RowKit.Hid (((w.alloc (.cells #[.int .i64 0,.int .u32 0,.string ⟨#[]⟩,.string ⟨#[]⟩] 25)).alloc (.cells #[.int .i64 x,.int .u32 0,.string ⟨#[]⟩,.string ⟨#[]⟩] 25)).heap[w.heap.size]? = some (.cells #[.int .i64 0,.int .u32 0,.string ⟨#[]⟩,.string ⟨#[]⟩] 25 (0,0)))∧RowKit.Hid (Below w.heap.size w ((w.alloc (.cells #[.int .i64 0,.int .u32 0,.string ⟨#[]⟩,.string ⟨#[]⟩] 25)).alloc (.cells #[.int .i64 x,.int .u32 0,.string ⟨#[]⟩,.string ⟨#[]⟩] 25))):=by
 have PH0:((w.alloc (.cells #[.int .i64 0,.int .u32 0,.string ⟨#[]⟩,.string ⟨#[]⟩] 25)).alloc (.cells #[.int .i64 x,.int .u32 0,.string ⟨#[]⟩,.string ⟨#[]⟩] 25)).heap[w.heap.size+1]? = some (.cells #[.int .i64 x,.int .u32 0,.string ⟨#[]⟩,.string ⟨#[]⟩] 25 (0,0)):=by
  have:=heap_alloc_new (w.alloc (.cells #[.int .i64 0,.int .u32 0,.string ⟨#[]⟩,.string ⟨#[]⟩] 25)) (.cells #[.int .i64 x,.int .u32 0,.string ⟨#[]⟩,.string ⟨#[]⟩] 25)
  rwa [World.size_alloc] at this
 have RH0:((w.alloc (.cells #[.int .i64 0,.int .u32 0,.string ⟨#[]⟩,.string ⟨#[]⟩] 25)).alloc (.cells #[.int .i64 x,.int .u32 0,.string ⟨#[]⟩,.string ⟨#[]⟩] 25)).heap[w.heap.size]? = some (.cells #[.int .i64 0,.int .u32 0,.string ⟨#[]⟩,.string ⟨#[]⟩] 25 (0,0)):=(heap_alloc_old _ _ (by simp)).trans (heap_alloc_new w _)
 have BH0:Below w.heap.size w ((w.alloc (.cells #[.int .i64 0,.int .u32 0,.string ⟨#[]⟩,.string ⟨#[]⟩] 25)).alloc (.cells #[.int .i64 x,.int .u32 0,.string ⟨#[]⟩,.string ⟨#[]⟩] 25)):=((Below.refl _ _).alloc (Nat.le_refl _) _).alloc (by simp) _
 have PH1:=Lib.hid PH0
 have RH1:=Lib.hid RH0
 have BH:=Lib.hid BH0
 exact⟨PH1,RH1,BH⟩
theorem qker{w w2:World}{x:Int}(RQ:w2.heap[w.heap.size]? = some (.cells #[.int .i64 0,.int .u32 0,.string ⟨#[]⟩,.string ⟨#[]⟩] 25 (0,0)))(PQ:w2.heap[w.heap.size+1]? = some (.cells #[.int .i64 x,.int .u32 0,.string ⟨#[]⟩,.string ⟨#[]⟩] 25 (0,0))) :
 (∀o,(w2.alloc o).cell? ⟨w.heap.size,0,none⟩=(#[.int .i64 0,.int .u32 0,.string ⟨#[]⟩,.string ⟨#[]⟩]:Array Value)[0]?)∧(∀o,(w2.alloc o).frozen? ⟨w.heap.size,0,none⟩=false)∧(∀o,(w2.alloc o).cell? ⟨w.heap.size,1,none⟩=(#[.int .i64 0,.int .u32 0,.string ⟨#[]⟩,.string ⟨#[]⟩]:Array Value)[1]?)∧(∀o,(w2.alloc o).frozen? ⟨w.heap.size,1,none⟩=false)∧(∀o,(w2.alloc o).cell? ⟨w.heap.size,2,none⟩=(#[.int .i64 0,.int .u32 0,.string ⟨#[]⟩,.string ⟨#[]⟩]:Array Value)[2]?)∧(∀o,(w2.alloc o).frozen? ⟨w.heap.size,2,none⟩=false)∧(∀o,(w2.alloc o).cell? ⟨w.heap.size,3,none⟩=(#[.int .i64 0,.int .u32 0,.string ⟨#[]⟩,.string ⟨#[]⟩]:Array Value)[3]?)∧(∀o,(w2.alloc o).frozen? ⟨w.heap.size,3,none⟩=false)∧(∀o,(w2.alloc o).cell? ⟨w.heap.size+1,0,none⟩=(#[.int .i64 x,.int .u32 0,.string ⟨#[]⟩,.string ⟨#[]⟩]:Array Value)[0]?)∧(∀o,(w2.alloc o).frozen? ⟨w.heap.size+1,0,none⟩=false)∧(∀o,(w2.alloc o).cell? ⟨w.heap.size+1,1,none⟩=(#[.int .i64 x,.int .u32 0,.string ⟨#[]⟩,.string ⟨#[]⟩]:Array Value)[1]?)∧(∀o,(w2.alloc o).frozen? ⟨w.heap.size+1,1,none⟩=false)∧(∀o,(w2.alloc o).cell? ⟨w.heap.size+1,2,none⟩=(#[.int .i64 x,.int .u32 0,.string ⟨#[]⟩,.string ⟨#[]⟩]:Array Value)[2]?)∧(∀o,(w2.alloc o).frozen? ⟨w.heap.size+1,2,none⟩=false)∧(∀o,(w2.alloc o).cell? ⟨w.heap.size+1,3,none⟩=(#[.int .i64 x,.int .u32 0,.string ⟨#[]⟩,.string ⟨#[]⟩]:Array Value)[3]?)∧(∀o,(w2.alloc o).frozen? ⟨w.heap.size+1,3,none⟩=false):=by
 have RH:=fun o=>(heap_alloc_old w2 o (lt_of_block RQ)).trans RQ
 have PH:=fun o=>(heap_alloc_old w2 o (lt_of_block PQ)).trans PQ
 exact⟨fun o=>cell_of_row _ _ _ _ _ _ (RH o),fun o=>frozen_of_row _ _ _ _ _ (RH o),fun o=>cell_of_row _ _ _ _ _ _ (RH o),fun o=>frozen_of_row _ _ _ _ _ (RH o),fun o=>cell_of_row _ _ _ _ _ _ (RH o),fun o=>frozen_of_row _ _ _ _ _ (RH o),fun o=>cell_of_row _ _ _ _ _ _ (RH o),fun o=>frozen_of_row _ _ _ _ _ (RH o),fun o=>cell_of_row _ _ _ _ _ _ (PH o),fun o=>frozen_of_row _ _ _ _ _ (PH o),fun o=>cell_of_row _ _ _ _ _ _ (PH o),fun o=>frozen_of_row _ _ _ _ _ (PH o),fun o=>cell_of_row _ _ _ _ _ _ (PH o),fun o=>frozen_of_row _ _ _ _ _ (PH o),fun o=>cell_of_row _ _ _ _ _ _ (PH o),fun o=>frozen_of_row _ _ _ _ _ (PH o)⟩
theorem qv0q{w w2:World}{x:Int}(RQ:w2.heap[w.heap.size]? = some (.cells #[.int .i64 0,.int .u32 0,.string ⟨#[]⟩,.string ⟨#[]⟩] 25 (0,0)))(PQ:w2.heap[w.heap.size+1]? = some (.cells #[.int .i64 x,.int .u32 0,.string ⟨#[]⟩,.string ⟨#[]⟩] 25 (0,0))) :
 (w2.cell? ⟨w.heap.size,0,none⟩=(#[.int .i64 0,.int .u32 0,.string ⟨#[]⟩,.string ⟨#[]⟩]:Array Value)[0]?)∧(w2.frozen? ⟨w.heap.size,0,none⟩=false)∧(w2.cell? ⟨w.heap.size,1,none⟩=(#[.int .i64 0,.int .u32 0,.string ⟨#[]⟩,.string ⟨#[]⟩]:Array Value)[1]?)∧(w2.frozen? ⟨w.heap.size,1,none⟩=false)∧(w2.cell? ⟨w.heap.size,2,none⟩=(#[.int .i64 0,.int .u32 0,.string ⟨#[]⟩,.string ⟨#[]⟩]:Array Value)[2]?)∧(w2.frozen? ⟨w.heap.size,2,none⟩=false)∧(w2.cell? ⟨w.heap.size,3,none⟩=(#[.int .i64 0,.int .u32 0,.string ⟨#[]⟩,.string ⟨#[]⟩]:Array Value)[3]?)∧(w2.frozen? ⟨w.heap.size,3,none⟩=false)∧(w2.cell? ⟨w.heap.size+1,0,none⟩=(#[.int .i64 x,.int .u32 0,.string ⟨#[]⟩,.string ⟨#[]⟩]:Array Value)[0]?)∧(w2.frozen? ⟨w.heap.size+1,0,none⟩=false)∧(w2.cell? ⟨w.heap.size+1,1,none⟩=(#[.int .i64 x,.int .u32 0,.string ⟨#[]⟩,.string ⟨#[]⟩]:Array Value)[1]?)∧(w2.frozen? ⟨w.heap.size+1,1,none⟩=false)∧(w2.cell? ⟨w.heap.size+1,2,none⟩=(#[.int .i64 x,.int .u32 0,.string ⟨#[]⟩,.string ⟨#[]⟩]:Array Value)[2]?)∧(w2.frozen? ⟨w.heap.size+1,2,none⟩=false)∧(w2.cell? ⟨w.heap.size+1,3,none⟩=(#[.int .i64 x,.int .u32 0,.string ⟨#[]⟩,.string ⟨#[]⟩]:Array Value)[3]?)∧(w2.frozen? ⟨w.heap.size+1,3,none⟩=false):=
 ⟨cell_of_row _ _ _ _ _ _ RQ,frozen_of_row _ _ _ _ _ RQ,cell_of_row _ _ _ _ _ _ RQ,frozen_of_row _ _ _ _ _ RQ,cell_of_row _ _ _ _ _ _ RQ,frozen_of_row _ _ _ _ _ RQ,cell_of_row _ _ _ _ _ _ RQ,frozen_of_row _ _ _ _ _ RQ,cell_of_row _ _ _ _ _ _ PQ,frozen_of_row _ _ _ _ _ PQ,cell_of_row _ _ _ _ _ _ PQ,frozen_of_row _ _ _ _ _ PQ,cell_of_row _ _ _ _ _ _ PQ,frozen_of_row _ _ _ _ _ PQ,cell_of_row _ _ _ _ _ _ PQ,frozen_of_row _ _ _ _ _ PQ⟩
section
variable{x:Int}{s:ByteArray}
theorem qvsf(LK:∀W,Calls Tryz.prog 107 #[.int .i64 x] W fun e w'=>∃A m y z,e = .returned (.agg #[.int .i64 1,.slice A m m,.int .u32 y,.int .u32 z])∧Below W.heap.size W w')(h0:0 < s.size)(hx:(((s[0]'h0).toNat:Nat):Int)=x)(wx:IntKind.i64.wrap x=x){y:Nat}(q1:IntKind.i64.wrap ((s.size:Int) - 1)=(y:Int))(q2:(y:Int) < 1)(w:World) :
 Calls Tryz.prog 129 #[.string s] w fun e w'=>e = .returned (.tuple #[.agg #[.int .i64 x,.int .u32 0,.string ⟨#[]⟩,.string ⟨#[]⟩],.int .i64 0,.int .i64 5])∧Below w.heap.size w w':=by
 have LK:=Lib.hid LK
 have g0:(0:Int) < (s.size:Int):=by omega
 have e0:¬s=ByteArray.empty:=fun e=>by rw[e] at h0;exact absurd h0 (by decide)
 obtain⟨PH1,RH1,BH⟩:=qq1t w x
 go_enter Tryz.func129,Tryz.ntmps129
 go_wp2_with fail
 refine(LK.out _).mono ?_
 rintro e w2 ⟨A,m,y,z,rfl,hb⟩
 have RQ:=Lib.hid ((hb.block w.heap.size (lt_of_block RH1.out)).trans RH1.out)
 have PQ:=Lib.hid ((hb.block (w.heap.size+1) (lt_of_block PH1.out)).trans PH1.out)
 have NB:=Lib.hid (show NtB w w2 from⟨BH.out.trans (hb.mono BH.out.size),RQ.out⟩)
 have F0:=qkrp 1 A m m y z
 clear hb
 obtain⟨r0,rf0,r1,rf1,r2,rf2,r3,rf3,p0,pf0,p1,pf1,p2,pf2,p3,pf3⟩:=qker RQ.out PQ.out
 go_wp2_with fail
 obtain⟨k1,k2⟩:=(NB.out.alloc (.cells #[.int .i64 0,.int .i64 1,.int .i64 2,.int .i64 4] 3)).fin (.int .i64 x) (.int .u32 0) (.string ⟨#[]⟩) (.string ⟨#[]⟩)
 exact qhfo rfl rfl rfl rfl rfl rfl k1 ⟨rfl,k2⟩
theorem qb19(LK:∀W,Calls Tryz.prog 107 #[.int .i64 x] W fun e w'=>∃A m y z,e = .returned (.agg #[.int .i64 1,.slice A m m,.int .u32 y,.int .u32 z])∧Below W.heap.size W w')(h0:0 < s.size)(hx:(((s[0]'h0).toNat:Nat):Int)=x)(wx:IntKind.i64.wrap x=x){y V:Nat}(q1:IntKind.i64.wrap ((s.size:Int) - 1)=(y:Int))(q2:¬(y:Int) < 1)(q3:(2:Int)≤(s.size:Int))(hw:IntKind.u32.wrap (V:Int)=(V:Int))(GT:∀W,Calls Tryz.prog 102 #[.string (s.extract 1 2)] W fun e w'=>e = .returned (.int .u64 V)∧W=w')(w:World) :
 Calls Tryz.prog 129 #[.string s] w fun e w'=>e = .returned (.tuple #[.agg #[.int .i64 x,.int .u32 V,.string ⟨#[]⟩,.string ⟨#[]⟩],.int .i64 2,.int .i64 0])∧Below w.heap.size w w':=by
 have LK:=Lib.hid LK
 have GT:=Lib.hid GT
 have g0:(0:Int) < (s.size:Int):=by omega
 have e0:¬s=ByteArray.empty:=fun e=>by rw[e] at h0;exact absurd h0 (by decide)
 obtain⟨PH1,RH1,BH⟩:=qq1t w x
 go_enter Tryz.func129,Tryz.ntmps129
 go_wp2_with fail
 refine(LK.out _).mono ?_
 rintro e w2 ⟨A,m,y,z,rfl,hb⟩
 have RQ:=Lib.hid ((hb.block w.heap.size (lt_of_block RH1.out)).trans RH1.out)
 have PQ:=Lib.hid ((hb.block (w.heap.size+1) (lt_of_block PH1.out)).trans PH1.out)
 have NB:=Lib.hid (show NtB w w2 from⟨BH.out.trans (hb.mono BH.out.size),RQ.out⟩)
 have F0:=qkrp 1 A m m y z
 clear hb
 obtain⟨r0,rf0,r1,rf1,r2,rf2,r3,rf3,p0,pf0,p1,pf1,p2,pf2,p3,pf3⟩:=qker RQ.out PQ.out
 go_wp2_with fail
 refine(GT.out _).mono ?_
 rintro e w3 ⟨rfl,rfl⟩
 go_wp2_with fail
 obtain⟨k1,k2⟩:=((NB.out.alloc (.cells #[.int .i64 0,.int .i64 1,.int .i64 2,.int .i64 4] 3)).setP 1 (.int .u32 V)).fin (.int .i64 x) (.int .u32 V) (.string ⟨#[]⟩) (.string ⟨#[]⟩)
 exact qhfo rfl rfl rfl rfl rfl rfl k1 ⟨rfl,k2⟩
theorem q9m3(LK:∀W,Calls Tryz.prog 107 #[.int .i64 x] W fun e w'=>∃A m y z,e = .returned (.agg #[.int .i64 2,.slice A m m,.int .u32 y,.int .u32 z])∧Below W.heap.size W w')(h0:0 < s.size)(hx:(((s[0]'h0).toNat:Nat):Int)=x)(wx:IntKind.i64.wrap x=x){y:Nat}(q1:IntKind.i64.wrap ((s.size:Int) - 1)=(y:Int))(q2:(y:Int) < 2)(w:World) :
 Calls Tryz.prog 129 #[.string s] w fun e w'=>e = .returned (.tuple #[.agg #[.int .i64 x,.int .u32 0,.string ⟨#[]⟩,.string ⟨#[]⟩],.int .i64 0,.int .i64 5])∧Below w.heap.size w w':=by
 have LK:=Lib.hid LK
 have g0:(0:Int) < (s.size:Int):=by omega
 have e0:¬s=ByteArray.empty:=fun e=>by rw[e] at h0;exact absurd h0 (by decide)
 obtain⟨PH1,RH1,BH⟩:=qq1t w x
 go_enter Tryz.func129,Tryz.ntmps129
 go_wp2_with fail
 refine(LK.out _).mono ?_
 rintro e w2 ⟨A,m,y,z,rfl,hb⟩
 have RQ:=Lib.hid ((hb.block w.heap.size (lt_of_block RH1.out)).trans RH1.out)
 have PQ:=Lib.hid ((hb.block (w.heap.size+1) (lt_of_block PH1.out)).trans PH1.out)
 have NB:=Lib.hid (show NtB w w2 from⟨BH.out.trans (hb.mono BH.out.size),RQ.out⟩)
 have F0:=qkrp 2 A m m y z
 clear hb
 obtain⟨r0,rf0,r1,rf1,r2,rf2,r3,rf3,p0,pf0,p1,pf1,p2,pf2,p3,pf3⟩:=qker RQ.out PQ.out
 go_wp2_with fail
 obtain⟨k1,k2⟩:=(NB.out.alloc (.cells #[.int .i64 0,.int .i64 1,.int .i64 2,.int .i64 4] 3)).fin (.int .i64 x) (.int .u32 0) (.string ⟨#[]⟩) (.string ⟨#[]⟩)
 exact qhfo rfl rfl rfl rfl rfl rfl k1 ⟨rfl,k2⟩
theorem q7q4(LK:∀W,Calls Tryz.prog 107 #[.int .i64 x] W fun e w'=>∃A m y z,e = .returned (.agg #[.int .i64 2,.slice A m m,.int .u32 y,.int .u32 z])∧Below W.heap.size W w')(h0:0 < s.size)(hx:(((s[0]'h0).toNat:Nat):Int)=x)(wx:IntKind.i64.wrap x=x){y V:Nat}(q1:IntKind.i64.wrap ((s.size:Int) - 1)=(y:Int))(q2:¬(y:Int) < 2)(q3:(3:Int)≤(s.size:Int))(hw:IntKind.u32.wrap (V:Int)=(V:Int))(GT:∀W,Calls Tryz.prog 102 #[.string (s.extract 1 3)] W fun e w'=>e = .returned (.int .u64 V)∧W=w')(w:World) :
 Calls Tryz.prog 129 #[.string s] w fun e w'=>e = .returned (.tuple #[.agg #[.int .i64 x,.int .u32 V,.string ⟨#[]⟩,.string ⟨#[]⟩],.int .i64 3,.int .i64 0])∧Below w.heap.size w w':=by
 have LK:=Lib.hid LK
 have GT:=Lib.hid GT
 have g0:(0:Int) < (s.size:Int):=by omega
 have e0:¬s=ByteArray.empty:=fun e=>by rw[e] at h0;exact absurd h0 (by decide)
 obtain⟨PH1,RH1,BH⟩:=qq1t w x
 go_enter Tryz.func129,Tryz.ntmps129
 go_wp2_with fail
 refine(LK.out _).mono ?_
 rintro e w2 ⟨A,m,y,z,rfl,hb⟩
 have RQ:=Lib.hid ((hb.block w.heap.size (lt_of_block RH1.out)).trans RH1.out)
 have PQ:=Lib.hid ((hb.block (w.heap.size+1) (lt_of_block PH1.out)).trans PH1.out)
 have NB:=Lib.hid (show NtB w w2 from⟨BH.out.trans (hb.mono BH.out.size),RQ.out⟩)
 have F0:=qkrp 2 A m m y z
 clear hb
 obtain⟨r0,rf0,r1,rf1,r2,rf2,r3,rf3,p0,pf0,p1,pf1,p2,pf2,p3,pf3⟩:=qker RQ.out PQ.out
 go_wp2_with fail
 refine(GT.out _).mono ?_
 rintro e w3 ⟨rfl,rfl⟩
 go_wp2_with fail
 obtain⟨k1,k2⟩:=((NB.out.alloc (.cells #[.int .i64 0,.int .i64 1,.int .i64 2,.int .i64 4] 3)).setP 1 (.int .u32 V)).fin (.int .i64 x) (.int .u32 V) (.string ⟨#[]⟩) (.string ⟨#[]⟩)
 exact qhfo rfl rfl rfl rfl rfl rfl k1 ⟨rfl,k2⟩
theorem q4cs(LK:∀W,Calls Tryz.prog 107 #[.int .i64 x] W fun e w'=>∃A m y z,e = .returned (.agg #[.int .i64 3,.slice A m m,.int .u32 y,.int .u32 z])∧Below W.heap.size W w')(h0:0 < s.size)(hx:(((s[0]'h0).toNat:Nat):Int)=x)(wx:IntKind.i64.wrap x=x){y:Nat}(q1:IntKind.i64.wrap ((s.size:Int) - 1)=(y:Int))(q2:(y:Int) < 4)(w:World) :
 Calls Tryz.prog 129 #[.string s] w fun e w'=>e = .returned (.tuple #[.agg #[.int .i64 x,.int .u32 0,.string ⟨#[]⟩,.string ⟨#[]⟩],.int .i64 0,.int .i64 5])∧Below w.heap.size w w':=by
 have LK:=Lib.hid LK
 have g0:(0:Int) < (s.size:Int):=by omega
 have e0:¬s=ByteArray.empty:=fun e=>by rw[e] at h0;exact absurd h0 (by decide)
 obtain⟨PH1,RH1,BH⟩:=qq1t w x
 go_enter Tryz.func129,Tryz.ntmps129
 go_wp2_with fail
 refine(LK.out _).mono ?_
 rintro e w2 ⟨A,m,y,z,rfl,hb⟩
 have RQ:=Lib.hid ((hb.block w.heap.size (lt_of_block RH1.out)).trans RH1.out)
 have PQ:=Lib.hid ((hb.block (w.heap.size+1) (lt_of_block PH1.out)).trans PH1.out)
 have NB:=Lib.hid (show NtB w w2 from⟨BH.out.trans (hb.mono BH.out.size),RQ.out⟩)
 have F0:=qkrp 3 A m m y z
 clear hb
 obtain⟨r0,rf0,r1,rf1,r2,rf2,r3,rf3,p0,pf0,p1,pf1,p2,pf2,p3,pf3⟩:=qker RQ.out PQ.out
 go_wp2_with fail
 obtain⟨k1,k2⟩:=(NB.out.alloc (.cells #[.int .i64 0,.int .i64 1,.int .i64 2,.int .i64 4] 3)).fin (.int .i64 x) (.int .u32 0) (.string ⟨#[]⟩) (.string ⟨#[]⟩)
 exact qhfo rfl rfl rfl rfl rfl rfl k1 ⟨rfl,k2⟩
theorem qv8u(LK:∀W,Calls Tryz.prog 107 #[.int .i64 x] W fun e w'=>∃A m y z,e = .returned (.agg #[.int .i64 3,.slice A m m,.int .u32 y,.int .u32 z])∧Below W.heap.size W w')(h0:0 < s.size)(hx:(((s[0]'h0).toNat:Nat):Int)=x)(wx:IntKind.i64.wrap x=x){y V:Nat}(q1:IntKind.i64.wrap ((s.size:Int) - 1)=(y:Int))(q2:¬(y:Int) < 4)(q3:(5:Int)≤(s.size:Int))(hw:IntKind.u32.wrap (V:Int)=(V:Int))(GT:∀W,Calls Tryz.prog 102 #[.string (s.extract 1 5)] W fun e w'=>e = .returned (.int .u64 V)∧W=w')(w:World) :
 Calls Tryz.prog 129 #[.string s] w fun e w'=>e = .returned (.tuple #[.agg #[.int .i64 x,.int .u32 V,.string ⟨#[]⟩,.string ⟨#[]⟩],.int .i64 5,.int .i64 0])∧Below w.heap.size w w':=by
 have LK:=Lib.hid LK
 have GT:=Lib.hid GT
 have g0:(0:Int) < (s.size:Int):=by omega
 have e0:¬s=ByteArray.empty:=fun e=>by rw[e] at h0;exact absurd h0 (by decide)
 obtain⟨PH1,RH1,BH⟩:=qq1t w x
 go_enter Tryz.func129,Tryz.ntmps129
 go_wp2_with fail
 refine(LK.out _).mono ?_
 rintro e w2 ⟨A,m,y,z,rfl,hb⟩
 have RQ:=Lib.hid ((hb.block w.heap.size (lt_of_block RH1.out)).trans RH1.out)
 have PQ:=Lib.hid ((hb.block (w.heap.size+1) (lt_of_block PH1.out)).trans PH1.out)
 have NB:=Lib.hid (show NtB w w2 from⟨BH.out.trans (hb.mono BH.out.size),RQ.out⟩)
 have F0:=qkrp 3 A m m y z
 clear hb
 obtain⟨r0,rf0,r1,rf1,r2,rf2,r3,rf3,p0,pf0,p1,pf1,p2,pf2,p3,pf3⟩:=qker RQ.out PQ.out
 go_wp2_with fail
 refine(GT.out _).mono ?_
 rintro e w3 ⟨rfl,rfl⟩
 go_wp2_with fail
 obtain⟨k1,k2⟩:=((NB.out.alloc (.cells #[.int .i64 0,.int .i64 1,.int .i64 2,.int .i64 4] 3)).setP 1 (.int .u32 V)).fin (.int .i64 x) (.int .u32 V) (.string ⟨#[]⟩) (.string ⟨#[]⟩)
 exact qhfo rfl rfl rfl rfl rfl rfl k1 ⟨rfl,k2⟩
theorem qmk8(LK:∀W,Calls Tryz.prog 107 #[.int .i64 x] W fun e w'=>∃A m y z,e = .returned (.agg #[.int .i64 4,.slice A m m,.int .u32 y,.int .u32 z])∧Below W.heap.size W w')(h0:0 < s.size)(hx:(((s[0]'h0).toNat:Nat):Int)=x)(wx:IntKind.i64.wrap x=x){V k z:Int}(nz:(z != 0)=true)(q3:(1:Int)≤(s.size:Int))(RD:∀W,Calls Tryz.prog 128 #[.string (s.extract 1 s.size)] W fun e w'=>e = .returned (.tuple #[.int .i64 V,.int .i64 k,.int .i64 z])∧W=w')(w:World) :
 Calls Tryz.prog 129 #[.string s] w fun e w'=>e = .returned (.tuple #[.agg #[.int .i64 x,.int .u32 0,.string ⟨#[]⟩,.string ⟨#[]⟩],.int .i64 0,.int .i64 5])∧Below w.heap.size w w':=by
 have LK:=Lib.hid LK
 have RD:=Lib.hid RD
 have g0:(0:Int) < (s.size:Int):=by omega
 have e0:¬s=ByteArray.empty:=fun e=>by rw[e] at h0;exact absurd h0 (by decide)
 obtain⟨PH1,RH1,BH⟩:=qq1t w x
 go_enter Tryz.func129,Tryz.ntmps129
 go_wp2_with fail
 refine(LK.out _).mono ?_
 rintro e w2 ⟨A,m,y,z,rfl,hb⟩
 have RQ:=Lib.hid ((hb.block w.heap.size (lt_of_block RH1.out)).trans RH1.out)
 have PQ:=Lib.hid ((hb.block (w.heap.size+1) (lt_of_block PH1.out)).trans PH1.out)
 have NB:=Lib.hid (show NtB w w2 from⟨BH.out.trans (hb.mono BH.out.size),RQ.out⟩)
 have F0:=qkrp 4 A m m y z
 clear hb
 obtain⟨r0,rf0,r1,rf1,r2,rf2,r3,rf3,p0,pf0,p1,pf1,p2,pf2,p3,pf3⟩:=qv0q RQ.out PQ.out
 go_wp2_with fail
 refine(RD.out _).mono ?_
 rintro e w3 ⟨rfl,rfl⟩
 go_wp2_with fail
 obtain⟨k1,k2⟩:=NB.out.fin (.int .i64 x) (.int .u32 0) (.string ⟨#[]⟩) (.string ⟨#[]⟩)
 exact qhfo rfl rfl rfl rfl rfl rfl k1 ⟨rfl,k2⟩
theorem qur3(LK:∀W,Calls Tryz.prog 107 #[.int .i64 x] W fun e w'=>∃A m y z,e = .returned (.agg #[.int .i64 4,.slice A m m,.int .u32 y,.int .u32 z])∧Below W.heap.size W w')(h0:0 < s.size)(hx:(((s[0]'h0).toNat:Nat):Int)=x)(wx:IntKind.i64.wrap x=x){V k k1:Int}(hw:IntKind.u32.wrap V=V)(q3:(1:Int)≤(s.size:Int))(q4:IntKind.i64.wrap (1+k)=k1)(RD:∀W,Calls Tryz.prog 128 #[.string (s.extract 1 s.size)] W fun e w'=>e = .returned (.tuple #[.int .i64 V,.int .i64 k,.int .i64 0])∧W=w')(w:World) :
 Calls Tryz.prog 129 #[.string s] w fun e w'=>e = .returned (.tuple #[.agg #[.int .i64 x,.int .u32 V,.string ⟨#[]⟩,.string ⟨#[]⟩],.int .i64 k1,.int .i64 0])∧Below w.heap.size w w':=by
 have LK:=Lib.hid LK
 have RD:=Lib.hid RD
 have g0:(0:Int) < (s.size:Int):=by omega
 have e0:¬s=ByteArray.empty:=fun e=>by rw[e] at h0;exact absurd h0 (by decide)
 obtain⟨PH1,RH1,BH⟩:=qq1t w x
 go_enter Tryz.func129,Tryz.ntmps129
 go_wp2_with fail
 refine(LK.out _).mono ?_
 rintro e w2 ⟨A,m,y,z,rfl,hb⟩
 have RQ:=Lib.hid ((hb.block w.heap.size (lt_of_block RH1.out)).trans RH1.out)
 have PQ:=Lib.hid ((hb.block (w.heap.size+1) (lt_of_block PH1.out)).trans PH1.out)
 have NB:=Lib.hid (show NtB w w2 from⟨BH.out.trans (hb.mono BH.out.size),RQ.out⟩)
 have F0:=qkrp 4 A m m y z
 clear hb
 obtain⟨r0,rf0,r1,rf1,r2,rf2,r3,rf3,p0,pf0,p1,pf1,p2,pf2,p3,pf3⟩:=qv0q RQ.out PQ.out
 go_wp2_with fail
 refine(RD.out _).mono ?_
 rintro e w3 ⟨rfl,rfl⟩
 go_wp2_with fail
 obtain⟨k1,k2⟩:=(NB.out.setP 1 (.int .u32 V)).fin (.int .i64 x) (.int .u32 V) (.string ⟨#[]⟩) (.string ⟨#[]⟩)
 exact qhfo rfl rfl rfl rfl rfl rfl k1 ⟨rfl,k2⟩
theorem qu2k(LK:∀W,Calls Tryz.prog 107 #[.int .i64 x] W fun e w'=>∃A m y z,e = .returned (.agg #[.int .i64 5,.slice A m m,.int .u32 y,.int .u32 z])∧Below W.heap.size W w')(h0:0 < s.size)(hx:(((s[0]'h0).toNat:Nat):Int)=x)(wx:IntKind.i64.wrap x=x){T:ByteArray}{k z:Int}{bz:Bool}(hz:(z==0)=bz)(TT:∀W,Calls Tryz.prog 157 #[.string s,.int .i64 1,.int .i64 5] W fun e w'=>e = .returned (.tuple #[.string T,.int .i64 k,.int .i64 z])∧w'=W)(w:World) :
 Calls Tryz.prog 129 #[.string s] w fun e w'=>e = .returned (.tuple #[.agg #[.int .i64 x,.int .u32 0,.string T,.string ⟨#[]⟩],.int .i64 k,.int .i64 z])∧Below w.heap.size w w':=by
 have LK:=Lib.hid LK
 have TT:=Lib.hid TT
 have g0:(0:Int) < (s.size:Int):=by omega
 have e0:¬s=ByteArray.empty:=fun e=>by rw[e] at h0;exact absurd h0 (by decide)
 obtain⟨PH1,RH1,BH⟩:=qq1t w x
 go_enter Tryz.func129,Tryz.ntmps129
 go_wp2_with fail
 refine(LK.out _).mono ?_
 rintro e w2 ⟨A,m,y,z,rfl,hb⟩
 have RQ:=Lib.hid ((hb.block w.heap.size (lt_of_block RH1.out)).trans RH1.out)
 have PQ:=Lib.hid ((hb.block (w.heap.size+1) (lt_of_block PH1.out)).trans PH1.out)
 have NB:=Lib.hid (show NtB w w2 from⟨BH.out.trans (hb.mono BH.out.size),RQ.out⟩)
 have F0:=qkrp 5 A m m y z
 clear hb
 obtain⟨r0,rf0,r1,rf1,r2,rf2,r3,rf3,p0,pf0,p1,pf1,p2,pf2,p3,pf3⟩:=qv0q RQ.out PQ.out
 cases bz<;>
 ·go_wp2_with fail
  refine(TT.out _).mono ?_
  rintro e w3 ⟨rfl,rfl⟩
  go_wp2_with fail
  obtain⟨k1,k2⟩:=(NB.out.setP 2 (.string T)).fin (.int .i64 x) (.int .u32 0) (.string T) (.string ⟨#[]⟩)
  exact qhfo rfl rfl rfl rfl rfl rfl k1 ⟨rfl,k2⟩
theorem q4qj(LK:∀W,Calls Tryz.prog 107 #[.int .i64 x] W fun e w'=>∃A m y z,e = .returned (.agg #[.int .i64 6,.slice A m m,.int .u32 y,.int .u32 z])∧Below W.heap.size W w')(h0:0 < s.size)(hx:(((s[0]'h0).toNat:Nat):Int)=x)(wx:IntKind.i64.wrap x=x){T:ByteArray}{k z:Int}{bz:Bool}(hz:(z==0)=bz)(TT:∀W,Calls Tryz.prog 157 #[.string s,.int .i64 1,.int .i64 6] W fun e w'=>e = .returned (.tuple #[.string T,.int .i64 k,.int .i64 z])∧w'=W)(w:World) :
 Calls Tryz.prog 129 #[.string s] w fun e w'=>e = .returned (.tuple #[.agg #[.int .i64 x,.int .u32 0,.string T,.string ⟨#[]⟩],.int .i64 k,.int .i64 z])∧Below w.heap.size w w':=by
 have LK:=Lib.hid LK
 have TT:=Lib.hid TT
 have g0:(0:Int) < (s.size:Int):=by omega
 have e0:¬s=ByteArray.empty:=fun e=>by rw[e] at h0;exact absurd h0 (by decide)
 obtain⟨PH1,RH1,BH⟩:=qq1t w x
 go_enter Tryz.func129,Tryz.ntmps129
 go_wp2_with fail
 refine(LK.out _).mono ?_
 rintro e w2 ⟨A,m,y,z,rfl,hb⟩
 have RQ:=Lib.hid ((hb.block w.heap.size (lt_of_block RH1.out)).trans RH1.out)
 have PQ:=Lib.hid ((hb.block (w.heap.size+1) (lt_of_block PH1.out)).trans PH1.out)
 have NB:=Lib.hid (show NtB w w2 from⟨BH.out.trans (hb.mono BH.out.size),RQ.out⟩)
 have F0:=qkrp 6 A m m y z
 clear hb
 obtain⟨r0,rf0,r1,rf1,r2,rf2,r3,rf3,p0,pf0,p1,pf1,p2,pf2,p3,pf3⟩:=qv0q RQ.out PQ.out
 cases bz<;>
 ·go_wp2_with fail
  refine(TT.out _).mono ?_
  rintro e w3 ⟨rfl,rfl⟩
  go_wp2_with fail
  obtain⟨k1,k2⟩:=(NB.out.setP 2 (.string T)).fin (.int .i64 x) (.int .u32 0) (.string T) (.string ⟨#[]⟩)
  exact qhfo rfl rfl rfl rfl rfl rfl k1 ⟨rfl,k2⟩
theorem qyei(LK:∀W,Calls Tryz.prog 107 #[.int .i64 x] W fun e w'=>∃A m y z,e = .returned (.agg #[.int .i64 7,.slice A m m,.int .u32 y,.int .u32 z])∧Below W.heap.size W w')(h0:0 < s.size)(hx:(((s[0]'h0).toNat:Nat):Int)=x)(wx:IntKind.i64.wrap x=x){T:ByteArray}{k z:Int}(hz:(z==0)=false)(TT:∀W,Calls Tryz.prog 157 #[.string s,.int .i64 1,.int .i64 7] W fun e w'=>e = .returned (.tuple #[.string T,.int .i64 k,.int .i64 z])∧w'=W)(w:World) :
 Calls Tryz.prog 129 #[.string s] w fun e w'=>e = .returned (.tuple #[.agg #[.int .i64 x,.int .u32 0,.string T,.string ⟨#[]⟩],.int .i64 k,.int .i64 z])∧Below w.heap.size w w':=by
 have LK:=Lib.hid LK
 have TT:=Lib.hid TT
 have g0:(0:Int) < (s.size:Int):=by omega
 have e0:¬s=ByteArray.empty:=fun e=>by rw[e] at h0;exact absurd h0 (by decide)
 obtain⟨PH1,RH1,BH⟩:=qq1t w x
 go_enter Tryz.func129,Tryz.ntmps129
 go_wp2_with fail
 refine(LK.out _).mono ?_
 rintro e w2 ⟨A,m,y,z,rfl,hb⟩
 have RQ:=Lib.hid ((hb.block w.heap.size (lt_of_block RH1.out)).trans RH1.out)
 have PQ:=Lib.hid ((hb.block (w.heap.size+1) (lt_of_block PH1.out)).trans PH1.out)
 have NB:=Lib.hid (show NtB w w2 from⟨BH.out.trans (hb.mono BH.out.size),RQ.out⟩)
 have F0:=qkrp 7 A m m y z
 clear hb
 obtain⟨r0,rf0,r1,rf1,r2,rf2,r3,rf3,p0,pf0,p1,pf1,p2,pf2,p3,pf3⟩:=qv0q RQ.out PQ.out
 go_wp2_with fail
 refine(TT.out _).mono ?_
 rintro e w3 ⟨rfl,rfl⟩
 go_wp2_with fail
 obtain⟨k1,k2⟩:=(NB.out.setP 2 (.string T)).fin (.int .i64 x) (.int .u32 0) (.string T) (.string ⟨#[]⟩)
 exact qhfo rfl rfl rfl rfl rfl rfl k1 ⟨rfl,k2⟩
theorem quzf(LK:∀W,Calls Tryz.prog 107 #[.int .i64 x] W fun e w'=>∃A m y z,e = .returned (.agg #[.int .i64 7,.slice A m m,.int .u32 y,.int .u32 z])∧Below W.heap.size W w')(h0:0 < s.size)(hx:(((s[0]'h0).toNat:Nat):Int)=x)(wx:IntKind.i64.wrap x=x){T U:ByteArray}{k j z:Int}(TT:∀W,Calls Tryz.prog 157 #[.string s,.int .i64 1,.int .i64 7] W fun e w'=>e = .returned (.tuple #[.string T,.int .i64 k,.int .i64 0])∧w'=W)(TU:∀W,Calls Tryz.prog 157 #[.string s,.int .i64 k,.int .i64 7] W fun e w'=>e = .returned (.tuple #[.string U,.int .i64 j,.int .i64 z])∧w'=W)(w:World) :
 Calls Tryz.prog 129 #[.string s] w fun e w'=>e = .returned (.tuple #[.agg #[.int .i64 x,.int .u32 0,.string T,.string U],.int .i64 j,.int .i64 z])∧Below w.heap.size w w':=by
 have LK:=Lib.hid LK
 have TT:=Lib.hid TT
 have TU:=Lib.hid TU
 have g0:(0:Int) < (s.size:Int):=by omega
 have e0:¬s=ByteArray.empty:=fun e=>by rw[e] at h0;exact absurd h0 (by decide)
 obtain⟨PH1,RH1,BH⟩:=qq1t w x
 go_enter Tryz.func129,Tryz.ntmps129
 go_wp2_with fail
 refine(LK.out _).mono ?_
 rintro e w2 ⟨A,m,y,z,rfl,hb⟩
 have RQ:=Lib.hid ((hb.block w.heap.size (lt_of_block RH1.out)).trans RH1.out)
 have PQ:=Lib.hid ((hb.block (w.heap.size+1) (lt_of_block PH1.out)).trans PH1.out)
 have NB:=Lib.hid (show NtB w w2 from⟨BH.out.trans (hb.mono BH.out.size),RQ.out⟩)
 have F0:=qkrp 7 A m m y z
 clear hb
 obtain⟨r0,rf0,r1,rf1,r2,rf2,r3,rf3,p0,pf0,p1,pf1,p2,pf2,p3,pf3⟩:=qv0q RQ.out PQ.out
 go_wp2_with fail
 refine(TT.out _).mono ?_
 rintro e w3 ⟨rfl,rfl⟩
 go_wp2_with fail
 refine(TU.out _).mono ?_
 rintro e w3 ⟨rfl,rfl⟩
 go_wp2_with fail
 obtain⟨k1,k2⟩:=((NB.out.setP 2 (.string T)).setP 3 (.string U)).fin (.int .i64 x) (.int .u32 0) (.string T) (.string U)
 exact qhfo rfl rfl rfl rfl rfl rfl k1 ⟨rfl,k2⟩
end
theorem qjai(d:Bool)(r:List UInt8):(q91e d r).2.1≤r.length:=by
 have h:=(q3gm r).1
 rcases q7jb d r with ⟨_,h2⟩ | ⟨_,_,_,h2⟩ | ⟨_,_,h2⟩
 ·rw[h2];exact Nat.zero_le _
 ·rw[h2];exact Nat.zero_le _
 ·rw[h2];exact h
def NtP(w:World)(x:UInt8)(r:List UInt8)(e:Ending)(W:World):Prop:=
 ∃(p:Pr) (n:Int) (E:Nat),e = .returned (.tuple #[qbhk p,.int .i64 n,.int .i64 (E:Nat)])∧Below w.heap.size w W∧E=(qij7 x.toNat r).2.2∧(E=0→p=(qij7 x.toNat r).1∧n=((1+(qij7 x.toNat r).2.1:Nat):Int)∧(qij7 x.toNat r).2.1≤r.length)
theorem qvny(s:ByteArray)(x:UInt8)(r:List UInt8)(hx:s.data.toList=x::r)(hs:s.size≤70000)(h1:1≤qwgc x.toNat)(h7:qwgc x.toNat≤7)(w:World) :
 Calls Tryz.prog 129 #[.string s] w (NtP w x r):=by
 have hlen:s.size=r.length+1:=by rw[q4ad,hx,List.length_cons]
 have h0:0 < s.size:=by omega
 have hsx:s[0]'h0=x:=by
  have e:s.data.toList[0]? = some (s[0]'h0):=by rw[List.getElem?_eq_getElem (by rw[←q4ad];exact h0)];rfl
  rw[hx] at e
  exact(Option.some.inj e).symm
 have hxx:(((s[0]'h0).toNat:Nat):Int)=((x.toNat:Nat):Int):=by rw[hsx]
 have hlt:x.toNat < 256:=x.toNat_lt
 have wx:IntKind.i64.wrap ((x.toNat:Nat):Int)=((x.toNat:Nat):Int):=by simp only[IntKind.wrap_i64];omega
 have hd:s.data.toList.drop 1=r:=by rw[hx];rfl
 have LK:=fun W=>(q43i ((x.toNat:Nat):Int) W).mono (R':=fun e w'=>∃A m y z,e = .returned (.agg #[.int .i64 ((qwgc x.toNat:Nat):Int),.slice A m m,.int .u32 y,.int .u32 z])∧Below W.heap.size W w') (fun e w' ⟨A,h1,h2,_⟩=>⟨A,_,_,_,h1,h2⟩)
 have q1:IntKind.i64.wrap ((s.size:Int) - 1)=(r.length:Int):=by simp only[IntKind.wrap_i64];omega
 have q3:(1:Int)≤(s.size:Int):=by omega
 have numc:∀(c:Nat),c≤4→1≤c→qij7 x.toNat r=numP x.toNat c r→
  (r.length < c→Calls Tryz.prog 129 #[.string s] w fun e w'=>e = .returned (.tuple #[.agg #[.int .i64 x.toNat,.int .u32 0,.string ⟨#[]⟩,.string ⟨#[]⟩],.int .i64 0,.int .i64 5])∧Below w.heap.size w w')→
  (c≤r.length→Calls Tryz.prog 129 #[.string s] w fun e w'=>e = .returned (.tuple #[.agg #[.int .i64 x.toNat,.int .u32 (num (r.take c):Nat),.string ⟨#[]⟩,.string ⟨#[]⟩],.int .i64 ((c+1:Nat):Int),.int .i64 0])∧Below w.heap.size w w')→
  Calls Tryz.prog 129 #[.string s] w (NtP w x r):=by
  intro c hc hc1 hn hno hyes
  by_cases hl:r.length < c
  ·refine(hno hl).mono fun e W ⟨he,hb⟩=>⟨⟨x.toNat,0,[],[]⟩,0,5,he,hb,?_,fun h=>by cases h⟩
   rw[hn];unfold numP;rw[if_pos hl]
  ·refine(hyes (by omega)).mono fun e W ⟨he,hb⟩=>⟨⟨x.toNat,num (r.take c),[],[]⟩,_,0,he,hb,?_,fun _=>?_⟩
   ·rw[hn];unfold numP;rw[if_neg hl]
   ·rw[hn];unfold numP;rw[if_neg hl];exact⟨rfl,by rw[Nat.add_comm],by show c≤_;omega⟩
 have GT:∀(c:Nat),c≤4→c≤r.length→∀W,Calls Tryz.prog 102 #[.string (s.extract 1 (c+1))] W fun e w'=>e = .returned (.int .u64 (num (r.take c):Nat))∧W=w':=by
  intro c hc hl W
  have:=q2jg (s.extract 1 (c+1)) W (by simp;omega)
  rw[Nat.add_comm c 1] at this ⊢
  rw[qelx s 1 c (by omega) (by omega),hd] at this
  exact this
 have wr:∀(c:Nat),c≤4→IntKind.u32.wrap ((num (r.take c):Nat):Int)=((num (r.take c):Nat):Int):=by
  intro c hc
  have h1:=qn9h (r.take c)
  have h2:256^(r.take c).length≤256^4:=Nat.pow_le_pow_right (by decide) (by rw[List.length_take];omega)
  have h3:256^4=4294967296:=by decide
  simp only[IntKind.wrap_u32];omega
 have hh:qwgc x.toNat=1∨qwgc x.toNat=2∨qwgc x.toNat=3∨qwgc x.toNat=4∨qwgc x.toNat=5∨qwgc x.toNat=6∨qwgc x.toNat=7:=by omega
 rcases hh with e | e | e | e | e | e | e
 ·rw[e] at LK
  exact numc 1 (by decide) (by decide) (by unfold qij7;rw[if_pos e]) (fun hl=>qvsf LK h0 hxx wx q1 (by omega) w) (fun hl=>qb19 LK h0 hxx wx q1 (by omega) (by omega) (wr 1 (by decide)) (GT 1 (by decide) hl) w)
 ·rw[e] at LK
  exact numc 2 (by decide) (by decide) (by unfold qij7;rw[if_neg (by omega),if_pos e]) (fun hl=>q9m3 LK h0 hxx wx q1 (by omega) w) (fun hl=>q7q4 LK h0 hxx wx q1 (by omega) (by omega) (wr 2 (by decide)) (GT 2 (by decide) hl) w)
 ·rw[e] at LK
  exact numc 4 (by decide) (by decide) (by unfold qij7;rw[if_neg (by omega),if_neg (by omega),if_pos e]) (fun hl=>q4cs LK h0 hxx wx q1 (by omega) w) (fun hl=>qv8u LK h0 hxx wx q1 (by omega) (by omega) (wr 4 (by decide)) (GT 4 (by decide) hl) w)
 ·rw[e] at LK
  have hn:qij7 x.toNat r=if rdE r≠0 then(⟨x.toNat,0,[],[]⟩,0,5) else(⟨x.toNat,rdV r,[],[]⟩,rdN r,0):=by unfold qij7;rw[if_neg (by omega),if_neg (by omega),if_neg (by omega),if_pos e]
  have RD:=fun W=>qtpo (s.extract 1 s.size) W (by simp;omega)
  unfold qwlf q51h at RD
  rw[qh3u,hd] at RD
  obtain⟨b1,b2,b3⟩:=qips r
  by_cases hz:rdE r=0
  ·rw[hz] at RD
   refine(qur3 (V:=(rdV r:Nat)) (k:=(rdN r:Nat)) (k1:=((1+rdN r:Nat):Int)) LK h0 hxx wx (by simp only[IntKind.wrap_u32];omega) q3 (by simp only[IntKind.wrap_i64];omega) RD w).mono fun e W ⟨he,hb⟩=>⟨⟨x.toNat,rdV r,[],[]⟩,_,0,he,hb,?_,fun _=>?_⟩
   ·rw[hn,if_neg (by simp[hz])]
   ·rw[hn,if_neg (by simp[hz])];exact⟨rfl,rfl,b1⟩
  ·refine(qmk8 (V:=(rdV r:Nat)) (k:=(rdN r:Nat)) (z:=(rdE r:Nat)) LK h0 hxx wx (by rw[bne_iff_ne];omega) q3 RD w).mono fun e W ⟨he,hb⟩=>⟨⟨x.toNat,0,[],[]⟩,0,5,he,hb,?_,fun h=>by cases h⟩
   rw[hn,if_pos hz]
 ·rw[e] at LK
  have hn:qij7 x.toNat r=if (q91e false r).2.2≠0 then(⟨x.toNat,0,[],[]⟩,0,(q91e false r).2.2) else(⟨x.toNat,0,(q91e false r).1,[]⟩,(q91e false r).2.1,0):=by
   unfold qij7;rw[if_neg (by omega),if_neg (by omega),if_neg (by omega),if_neg (by omega),if_neg (by omega),e];rfl
  have TT:=fun W=>qs5r s 1 5 W hs (by omega) (by decide)
  rw[hd,show((5:Nat)==6)=false from rfl] at TT
  have tl:=qjai false r
  refine(qu2k (T:=bs (q91e false r).1) LK h0 hxx wx rfl TT w).mono fun e W ⟨he,hb⟩=>⟨⟨x.toNat,0,(q91e false r).1,[]⟩,_,(q91e false r).2.2,he,hb,?_,fun h=>?_⟩
  ·rw[hn];exact(qzpi _ _ _ _).symm
  ·rw[hn,h];exact⟨by rw[if_neg (by simp)],by rw[if_pos rfl,if_neg (by simp)],by rw[if_neg (by simp)];exact tl⟩
 ·rw[e] at LK
  have hn:qij7 x.toNat r=if (q91e true r).2.2≠0 then(⟨x.toNat,0,[],[]⟩,0,(q91e true r).2.2) else(⟨x.toNat,0,(q91e true r).1,[]⟩,(q91e true r).2.1,0):=by
   unfold qij7;rw[if_neg (by omega),if_neg (by omega),if_neg (by omega),if_neg (by omega),if_neg (by omega),e];rfl
  have TT:=fun W=>qs5r s 1 6 W hs (by omega) (by decide)
  rw[hd,show((6:Nat)==6)=true from rfl] at TT
  have tl:=qjai true r
  refine(q4qj (T:=bs (q91e true r).1) LK h0 hxx wx rfl TT w).mono fun e W ⟨he,hb⟩=>⟨⟨x.toNat,0,(q91e true r).1,[]⟩,_,(q91e true r).2.2,he,hb,?_,fun h=>?_⟩
  ·rw[hn];exact(qzpi _ _ _ _).symm
  ·rw[hn,h];exact⟨by rw[if_neg (by simp)],by rw[if_pos rfl,if_neg (by simp)],by rw[if_neg (by simp)];exact tl⟩
 ·rw[e] at LK
  have hn:qij7 x.toNat r=(if (q91e false r).2.2≠0 then(⟨x.toNat,0,[],[]⟩,0,(q91e false r).2.2)
   else if (q91e false (r.drop (q91e false r).2.1)).2.2≠0 then(⟨x.toNat,0,[],[]⟩,0,(q91e false (r.drop (q91e false r).2.1)).2.2)
   else(⟨x.toNat,0,(q91e false r).1,(q91e false (r.drop (q91e false r).2.1)).1⟩,(q91e false r).2.1+(q91e false (r.drop (q91e false r).2.1)).2.1,0)):=by
    unfold qij7;rw[if_neg (by omega),if_neg (by omega),if_neg (by omega),if_neg (by omega),if_pos e]
  have TT:=fun W=>qs5r s 1 7 W hs (by omega) (by decide)
  rw[hd,show((7:Nat)==6)=false from rfl] at TT
  have tl:=qjai false r
  by_cases hz:(q91e false r).2.2=0
  ·rw[hz,if_pos rfl] at TT
   rw[if_neg (by simp[hz])] at hn
   have TU:=fun W=>qs5r s (1+(q91e false r).2.1) 7 W hs (by omega) (by decide)
   rw[←List.drop_drop,hd,show((7:Nat)==6)=false from rfl] at TU
   have tu:=qjai false (r.drop (q91e false r).2.1)
   rw[List.length_drop] at tu
   refine(quzf (T:=bs (q91e false r).1) (U:=bs (q91e false (r.drop (q91e false r).2.1)).1) LK h0 hxx wx TT TU w).mono fun e W ⟨he,hb⟩=>⟨⟨x.toNat,0,(q91e false r).1,(q91e false (r.drop (q91e false r).2.1)).1⟩,_,(q91e false (r.drop (q91e false r).2.1)).2.2,he,hb,?_,fun h=>?_⟩
   ·rw[hn];exact(qzpi _ _ _ _).symm
   ·rw[hn,h];exact⟨by rw[if_neg (by simp)],by rw[if_pos rfl,if_neg (by simp)];show _=((1+(_+_):Nat):Int);rw[Nat.add_assoc],by rw[if_neg (by simp)];show _+_≤_;omega⟩
  ·rw[if_pos hz] at hn
   rw[if_neg hz] at TT
   refine(qyei (T:=bs (q91e false r).1) (z:=((q91e false r).2.2:Nat)) LK h0 hxx wx (by rw[beq_eq_false_iff_ne];omega) TT w).mono fun e W ⟨he,hb⟩=>⟨⟨x.toNat,0,(q91e false r).1,[]⟩,_,(q91e false r).2.2,he,hb,?_,fun h=>absurd h hz⟩
   rw[hn]
structure DnS(w:World)(cb:Nat)(s:ByteArray)(p:Pk)(a:Ad)(y:Cs)(W:World):Prop where
 gr:w.grownBy W (some cb)
 box:W.heap[w.heap.size]? = some (.cells (pkC p a) 35 (0,0))
 res:W.heap[w.heap.size+1]? = some (.cells pkZ 35 (0,0))
 cs:RsAt W cb s y
section
variable{w W W':World}{cb:Nat}{s:ByteArray}{x y:Cs}{p:Pk}{a:Ad}
theorem RsAt.err(h:RsAt W cb s x):W.cell? ⟨cb,2,none⟩=some (.int .i64 ((x.e:Nat):Int)):=by obtain⟨i,_,hc,_⟩:=h;exact hc.c2
theorem DnS.call(h:DnS w cb s p a x W)(hcb:cb < w.heap.size)(hg:W.grownBy W' (some cb))(hy:RsAt W' cb s y):DnS w cb s p a y W':=
 ⟨qo6d h.gr hg,(hg.block _ (lt_of_block h.box) (by intro e;cases e;omega)).trans h.box,(hg.block _ (lt_of_block h.res) (by intro e;cases e;omega)).trans h.res,hy⟩
theorem DnS.made(h:RsAt w cb s x):DnS w cb s p a x ((w.alloc (.cells (pkC p a) 35)).alloc (.cells pkZ 35)):=
 ⟨qo6d (World.grownBy_alloc _ _ _) (World.grownBy_alloc _ _ _),heap_alloc2_old _ _ _,heap_alloc2_new _ _ _,(h.below (qybm _)).below (qybm _)⟩
theorem DnS.zero(h:DnS w cb s p a x W)(hcb:cb < w.heap.size):DnS w cb s p a x (W.setRow (w.heap.size+1) pkZ):=
 ⟨qacl h.gr (by omega) _,(setRow_other _ _ _ _ (by omega)).trans h.box,setRow_heap _ _ _ _ _ _ h.res,h.cs.of_block (setRow_other _ _ _ _ (by omega))⟩
theorem qeyg(f:Nat)(hm:s.size≤9223372036854775807)(h:RsAt w cb s x) :
 Calls Tryz.prog 37 #[.pointer (some ⟨cb,0,none⟩),.agg (pkC p a),.int .i64 (f:Int)] w fun e w'=>e = .returned (.tuple #[.agg (if (qveh x f).e≠0 then pkZ else pkC p a),.int .i64 (((qveh x f).e:Nat):Int)])∧w.grownBy w' (some cb):=by
 have S0:=Lib.hid (DnS.made (p:=p) (a:=a) h)
 have CB:=Lib.hid h.lt
 have C1:=Lib.hid (qwmp p a)
 have P2:=Lib.hid (qmz0 p a)
 have HZ:=Lib.hid qbwp
 have ZO:pkZ.all (·.oneCell')=true:=qmz0 Pk.zero adZ
 have hzv:=qrai
 have hne:¬pkZ=#[]:=by intro h;have:=qbwp;rw[h] at this;cases this
 have LE:=fun W (h:RsAt W cb s x)=>q5u4 hm h
 have F5:=fun W (h:RsAt W cb s x)=>qw3h 5 h
 obtain⟨y,hy⟩:∃y,(if x.e=0∧x.r≠[] then x.fail 5 else x)=y:=⟨_,rfl⟩
 have FF:=fun W (h:RsAt W cb s y)=>qw3h f h
 unfold qveh
 rw[hy]
 obtain⟨z,hz⟩:∃z,y.fail f=z:=⟨_,rfl⟩
 rw[hz] at FF ⊢
 obtain⟨V,hV⟩:∃V,(if z.e≠0 then pkZ else pkC p a)=V:=⟨_,rfl⟩
 rw[hV]
 have HV:=Lib.hid hV
 clear hV
 have HY:=Lib.hid hy
 have LE:=Lib.hid LE
 have F5:=Lib.hid F5
 have FF:=Lib.hid FF
 have k2:((w.alloc (.cells (pkC p a) 35)).alloc (.cells pkZ 35)).cell? ⟨cb,2,none⟩=some (.int .i64 ((x.e:Nat):Int)):=S0.out.cs.err
 clear h hy hz
 go_enter Tryz.func37,Tryz.ntmps37
 go_upto_region 1 with fail
 generalize (w.alloc (.cells (pkC p a) 35)).alloc (.cells pkZ 35)=W at *
 have S1:=Lib.hid S0.out
 clear S0
 obtain⟨b,hb⟩:∃b,decide (x.e=0∧x.r≠[])=b:=⟨_,rfl⟩
 have HB:=Lib.hid hb
 clear hb
 go_cut [17] (fun s17 wx=>s17 = .bool b∧DnS w cb s p a x wx)
 case first=>
  by_cases he:x.e=0
  ·have hl2:decide (0 < x.r.length)=b:=by
    rw[←HB.out,decide_eq_decide]
    cases x.r<;>simp[he]
   rw[he] at k2
   generalize x.r.length=n at *
   have LE:=Lib.hid LE.out
   have HL2:=Lib.hid hl2
   clear he HY HB hl2
   go_wp2_with fail
   refine(LE.out _ S1.out.cs).mono ?_
   rintro e W2 ⟨rfl,hc,hg⟩
   have S2:=Lib.hid (S1.out.call CB.out hg hc)
   clear hc hg
   go_wp2_with fail
   go_meet
   exact⟨congrArg Value.bool HL2.out,S2.out⟩
  ·have HT:=Lib.hid (show false=b by rw[←HB.out,decide_eq_false (by simp[he])])
   have he2:(((x.e:Nat):Int)==0)=false:=by simp;omega
   clear he HY HB
   go_wp2_with fail
   go_meet
   exact⟨congrArg Value.bool HT.out,S1.out⟩
 case rest=>
  clear S1 k2 LE
  obtain⟨rfl,hS⟩:=hcut
  have S1:=Lib.hid hS
  clear hS
  go_upto_if 17 with fail
  go_cut [] (fun wx=>DnS w cb s p a y wx)
  case first=>
   cases b with
   | false=>
    have HT:=Lib.hid (show x=y by rw[←HY.out,if_neg (of_decide_eq_false HB.out)])
    clear HY HB
    go_wp2_with fail
    go_meet
    rw[←HT.out];exact S1.out
   | true=>
    have HT:=Lib.hid (show x.fail 5=y by rw[←HY.out,if_pos (of_decide_eq_true HB.out)])
    clear HY HB
    go_wp2_with fail
    refine(F5.out _ S1.out.cs).mono ?_
    rintro e W3 ⟨rfl,hc,hg⟩
    have S3:=Lib.hid (S1.out.call CB.out hg hc)
    clear hc hg
    go_wp2_with fail
    go_meet
    rw[←HT.out];exact S3.out
  case rest=>
   have S2:=Lib.hid hcut
   clear hcut S1 F5 HY HB
   go_wp2_with fail
   refine(FF.out _ S2.out.cs).mono ?_
   rintro e W3 ⟨rfl,hc,hg⟩
   have S3:=Lib.hid (S2.out.call CB.out hg hc)
   have k2:W3.cell? ⟨cb,2,none⟩=some (.int .i64 ((z.e:Nat):Int)):=hc.err
   have GB:=Lib.hid S3.out.box
   have GR:=Lib.hid S3.out.res
   clear hc hg FF S2
   by_cases hz:z.e=0
   ·have RT:=Lib.hid (show Ending.returned (.tuple #[.agg (pkC p a),.int .i64 0]) = .returned (.tuple #[.agg V,.int .i64 ((z.e:Nat):Int)]) by rw[←HV.out,if_neg (by simpa using hz),hz];rfl)
    rw[hz] at k2
    have LO:=Lib.hid (qacl S3.out.gr (show w.heap.size≤w.heap.size+1 by omega) (pkC p a))
    clear hz S3
    go_wp2_with (first
     | (refine wpList_load_row rfl _ _ rfl w.heap.size rfl 35 (pkC p a) (0,0) _ GB.out Tryz.underlying35 rfl (by rw[C1.out];exact q5nr) ?_)
     | (refine wpList_store_row rfl _ _ _ rfl (w.heap.size+1) (pkC p a) rfl rfl 35 _ GR.out (by rw[C1.out];exact q5nr) (by rw[HZ.out,C1.out]) P2.out ?_))
    exact q8iy (cs:=pkC p a) rfl rfl rfl rfl Tryz.underlying35 rfl (by rw[C1.out];exact q5nr) (setRow_heap _ _ _ _ _ _ GR.out) ⟨RT.out,LO.out⟩
   ·have RT:=Lib.hid (show Ending.returned (.tuple #[.agg pkZ,.int .i64 ((z.e:Nat):Int)]) = .returned (.tuple #[.agg V,.int .i64 ((z.e:Nat):Int)]) by rw[←HV.out,if_pos hz])
    have he2:(((z.e:Nat):Int)==0)=false:=by simp;omega
    have he3:(((z.e:Nat):Int) != 0)=true:=by simp;omega
    have LO:=Lib.hid (qacl S3.out.gr (show w.heap.size≤w.heap.size+1 by omega) pkZ)
    clear hz
    go_upto_region 5 with fail
    refine qy7c (T:=DnS w cb s p a z) (B:=w.heap.size+1) (cb:=cb) (z:=((z.e:Nat):Int)) ⟨S3.out.gr.trans ⟨rfl,rfl,rfl,Nat.le_refl _,fun _ _ _=>rfl⟩,S3.out.box,S3.out.res,S3.out.cs⟩ (fun W h=>h.cs.err) (fun W h=>h.res) (fun W h=>h.zero CB.out) ?_
    intro W h
    have GR:=Lib.hid h.res
    have LO:=Lib.hid h.gr
    clear h
    go_wp2_with fail
    exact q8iy (cs:=pkZ) rfl rfl rfl rfl Tryz.underlying35 rfl (by rw[HZ.out];exact q5nr) GR.out ⟨RT.out,LO.out⟩
end
end Go.Proofs.YtbklidpadffpgaaGreat
