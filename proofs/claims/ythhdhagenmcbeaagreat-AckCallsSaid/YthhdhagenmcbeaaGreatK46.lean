/- The contract of polyglotref05.next. Condition: at most 70,000 bytes. -/
import Derived.Test.YthhdhagenmcbeaaGreatK45
set_option maxRecDepth 100000
set_option maxHeartbeats 1000000
namespace Go.Proofs.YthhdhagenmcbeaaGreat
open Go.RowKit
theorem qit4{fn:Func}{p u v:Tmp}{ty:TypeId}(h:fn.results=#[.cell p ty,.tmp u,.tmp v])(tmps:Array Value)(P:Program)(w:World) :
 (results fn tmps).run P w=
  ((asAddr (tmps.getD p undef)).run P w).andThen fun a w₁=>((loadVar ty a).run P w₁).andThen fun x w₂ => .ok (.tuple #[x,tmps.getD u undef,tmps.getD v undef]) w₂:=by
 simp only[results,h]
 simp[Sem.run_bind,Result.andThen]
theorem qhfo{fn:Func}{R:Ending→World→Prop}{a:Act}{W:World}{p u v:Tmp}{B:Nat}{cs:Array Value}{x y:Value}(h:fn.results=#[.cell p 25,.tmp u,.tmp v])(hp:a.tmps.getD p undef = .pointer (some ⟨B,0,none⟩))(hu:a.tmps.getD u undef=x)(hv:a.tmps.getD v undef=y)(hd:a.defers=[])(hcs:cs.size=4)
 (hg:W.heap[B]? = some (.cells cs 25 (0,0))) (hR:R (.returned (.tuple #[.agg cs,x,y])) W):bodyPost Tryz.prog fn R .ret a W:=by
 refine bodyPost_ret (v := .tuple #[.agg cs,x,y]) ?_ hd hR
 rw[qit4 h,hp,hu,hv]
 have:=run_loadVar_row (P:=Tryz.prog) W B 25 25 cs (0,0) _ hg Tryz.underlying25 rfl (by rw[hcs];kernel_rfl)
 simp[asAddr,this,Result.andThen]
def NtB(w W:World):Prop:=Below w.heap.size w W∧W.heap[w.heap.size]? = some (.cells #[.int .i64 0,.int .u32 0,.string ⟨#[]⟩,.string ⟨#[]⟩] 25 (0,0))
theorem NtB.alloc{w W:World}(h:NtB w W)(o:Obj):NtB w (W.alloc o):=⟨h.1.alloc h.1.size o,(heap_alloc_old _ _ (lt_of_block h.2)).trans h.2⟩
theorem NtB.setP{w W:World}(h:NtB w W)(j:Nat)(v:Value):NtB w (W.setCell ⟨w.heap.size+1,j,none⟩ v):=
 ⟨⟨h.1.os,h.1.tape,h.1.output,by have:=h.1.size;simpa [World.setCell] using this,fun k hk=>(Below.heap_setCell _ _ _ _ (show k≠w.heap.size+1 by omega)).trans (h.1.block k hk)⟩,(Below.heap_setCell _ _ _ _ (show w.heap.size≠w.heap.size+1 by omega)).trans h.2⟩
theorem NtB.fin{w W:World}(h:NtB w W)(a b c d:Value):(set4 W w.heap.size a b c d).heap[w.heap.size]? = some (.cells #[a,b,c,d] 25 (0,0))∧Below w.heap.size w (set4 W w.heap.size a b c d):=
 ⟨qgwu h.2 a b c d,qden h.1 (Nat.le_refl _) a b c d⟩
theorem qq1t(w:World)(x:Int):RowKit.Hid (((w.alloc (.cells #[.int .i64 0,.int .u32 0,.string ⟨#[]⟩,.string ⟨#[]⟩] 25)).alloc (.cells #[.int .i64 x,.int .u32 0,.string ⟨#[]⟩,.string ⟨#[]⟩] 25)).heap[w.heap.size+1]? = some (.cells #[.int .i64 x,.int .u32 0,.string ⟨#[]⟩,.string ⟨#[]⟩] 25 (0,0)))∧RowKit.Hid (((w.alloc (.cells #[.int .i64 0,.int .u32 0,.string ⟨#[]⟩,.string ⟨#[]⟩] 25)).alloc (.cells #[.int .i64 x,.int .u32 0,.string ⟨#[]⟩,.string ⟨#[]⟩] 25)).heap[w.heap.size]? = some (.cells #[.int .i64 0,.int .u32 0,.string ⟨#[]⟩,.string ⟨#[]⟩] 25 (0,0)))∧RowKit.Hid (Below w.heap.size w ((w.alloc (.cells #[.int .i64 0,.int .u32 0,.string ⟨#[]⟩,.string ⟨#[]⟩] 25)).alloc (.cells #[.int .i64 x,.int .u32 0,.string ⟨#[]⟩,.string ⟨#[]⟩] 25))):=by
 have PH0:((w.alloc (.cells #[.int .i64 0,.int .u32 0,.string ⟨#[]⟩,.string ⟨#[]⟩] 25)).alloc (.cells #[.int .i64 x,.int .u32 0,.string ⟨#[]⟩,.string ⟨#[]⟩] 25)).heap[w.heap.size+1]? = some (.cells #[.int .i64 x,.int .u32 0,.string ⟨#[]⟩,.string ⟨#[]⟩] 25 (0,0)):=by
  have:=heap_alloc_new (w.alloc (.cells #[.int .i64 0,.int .u32 0,.string ⟨#[]⟩,.string ⟨#[]⟩] 25)) (.cells #[.int .i64 x,.int .u32 0,.string ⟨#[]⟩,.string ⟨#[]⟩] 25)
  rwa [World.size_alloc] at this
 have RH0:((w.alloc (.cells #[.int .i64 0,.int .u32 0,.string ⟨#[]⟩,.string ⟨#[]⟩] 25)).alloc (.cells #[.int .i64 x,.int .u32 0,.string ⟨#[]⟩,.string ⟨#[]⟩] 25)).heap[w.heap.size]? = some (.cells #[.int .i64 0,.int .u32 0,.string ⟨#[]⟩,.string ⟨#[]⟩] 25 (0,0)):=(heap_alloc_old _ _ (by simp)).trans (heap_alloc_new w _)
 have BH0:Below w.heap.size w ((w.alloc (.cells #[.int .i64 0,.int .u32 0,.string ⟨#[]⟩,.string ⟨#[]⟩] 25)).alloc (.cells #[.int .i64 x,.int .u32 0,.string ⟨#[]⟩,.string ⟨#[]⟩] 25)):=((Below.refl _ _).alloc (Nat.le_refl _) _).alloc (by simp) _
 have PH1:=Lib.hid PH0
 have RH1:=Lib.hid RH0
 have BH:=Lib.hid BH0
 exact⟨PH1,RH1,BH⟩
theorem qker{w w2:World}{x:Int}(RQ:w2.heap[w.heap.size]? = some (.cells #[.int .i64 0,.int .u32 0,.string ⟨#[]⟩,.string ⟨#[]⟩] 25 (0,0)))(PQ:w2.heap[w.heap.size+1]? = some (.cells #[.int .i64 x,.int .u32 0,.string ⟨#[]⟩,.string ⟨#[]⟩] 25 (0,0))) :
 (∀o,(w2.alloc o).cell? ⟨w.heap.size,0,none⟩=(#[.int .i64 0,.int .u32 0,.string ⟨#[]⟩,.string ⟨#[]⟩]:Array Value)[0]?)∧(∀o,(w2.alloc o).frozen? ⟨w.heap.size,0,none⟩=false)∧(∀o,(w2.alloc o).cell? ⟨w.heap.size,1,none⟩=(#[.int .i64 0,.int .u32 0,.string ⟨#[]⟩,.string ⟨#[]⟩]:Array Value)[1]?)∧(∀o,(w2.alloc o).frozen? ⟨w.heap.size,1,none⟩=false)∧(∀o,(w2.alloc o).cell? ⟨w.heap.size,2,none⟩=(#[.int .i64 0,.int .u32 0,.string ⟨#[]⟩,.string ⟨#[]⟩]:Array Value)[2]?)∧(∀o,(w2.alloc o).frozen? ⟨w.heap.size,2,none⟩=false)∧(∀o,(w2.alloc o).cell? ⟨w.heap.size,3,none⟩=(#[.int .i64 0,.int .u32 0,.string ⟨#[]⟩,.string ⟨#[]⟩]:Array Value)[3]?)∧(∀o,(w2.alloc o).frozen? ⟨w.heap.size,3,none⟩=false)∧(∀o,(w2.alloc o).cell? ⟨w.heap.size+1,0,none⟩=(#[.int .i64 x,.int .u32 0,.string ⟨#[]⟩,.string ⟨#[]⟩]:Array Value)[0]?)∧(∀o,(w2.alloc o).frozen? ⟨w.heap.size+1,0,none⟩=false)∧(∀o,(w2.alloc o).cell? ⟨w.heap.size+1,1,none⟩=(#[.int .i64 x,.int .u32 0,.string ⟨#[]⟩,.string ⟨#[]⟩]:Array Value)[1]?)∧(∀o,(w2.alloc o).frozen? ⟨w.heap.size+1,1,none⟩=false)∧(∀o,(w2.alloc o).cell? ⟨w.heap.size+1,2,none⟩=(#[.int .i64 x,.int .u32 0,.string ⟨#[]⟩,.string ⟨#[]⟩]:Array Value)[2]?)∧(∀o,(w2.alloc o).frozen? ⟨w.heap.size+1,2,none⟩=false)∧(∀o,(w2.alloc o).cell? ⟨w.heap.size+1,3,none⟩=(#[.int .i64 x,.int .u32 0,.string ⟨#[]⟩,.string ⟨#[]⟩]:Array Value)[3]?)∧(∀o,(w2.alloc o).frozen? ⟨w.heap.size+1,3,none⟩=false):=by
 have RH:=fun o=>(heap_alloc_old w2 o (lt_of_block RQ)).trans RQ
 have PH:=fun o=>(heap_alloc_old w2 o (lt_of_block PQ)).trans PQ
 exact⟨fun o=>cell_of_row _ _ _ _ _ _ (RH o),fun o=>frozen_of_row _ _ _ _ _ (RH o),fun o=>cell_of_row _ _ _ _ _ _ (RH o),fun o=>frozen_of_row _ _ _ _ _ (RH o),fun o=>cell_of_row _ _ _ _ _ _ (RH o),fun o=>frozen_of_row _ _ _ _ _ (RH o),fun o=>cell_of_row _ _ _ _ _ _ (RH o),fun o=>frozen_of_row _ _ _ _ _ (RH o),fun o=>cell_of_row _ _ _ _ _ _ (PH o),fun o=>frozen_of_row _ _ _ _ _ (PH o),fun o=>cell_of_row _ _ _ _ _ _ (PH o),fun o=>frozen_of_row _ _ _ _ _ (PH o),fun o=>cell_of_row _ _ _ _ _ _ (PH o),fun o=>frozen_of_row _ _ _ _ _ (PH o),fun o=>cell_of_row _ _ _ _ _ _ (PH o),fun o=>frozen_of_row _ _ _ _ _ (PH o)⟩
theorem qv0q{w w2:World}{x:Int}(RQ:w2.heap[w.heap.size]? = some (.cells #[.int .i64 0,.int .u32 0,.string ⟨#[]⟩,.string ⟨#[]⟩] 25 (0,0)))(PQ:w2.heap[w.heap.size+1]? = some (.cells #[.int .i64 x,.int .u32 0,.string ⟨#[]⟩,.string ⟨#[]⟩] 25 (0,0))) :
 (w2.cell? ⟨w.heap.size,0,none⟩=(#[.int .i64 0,.int .u32 0,.string ⟨#[]⟩,.string ⟨#[]⟩]:Array Value)[0]?)∧(w2.frozen? ⟨w.heap.size,0,none⟩=false)∧(w2.cell? ⟨w.heap.size,1,none⟩=(#[.int .i64 0,.int .u32 0,.string ⟨#[]⟩,.string ⟨#[]⟩]:Array Value)[1]?)∧(w2.frozen? ⟨w.heap.size,1,none⟩=false)∧(w2.cell? ⟨w.heap.size,2,none⟩=(#[.int .i64 0,.int .u32 0,.string ⟨#[]⟩,.string ⟨#[]⟩]:Array Value)[2]?)∧(w2.frozen? ⟨w.heap.size,2,none⟩=false)∧(w2.cell? ⟨w.heap.size,3,none⟩=(#[.int .i64 0,.int .u32 0,.string ⟨#[]⟩,.string ⟨#[]⟩]:Array Value)[3]?)∧(w2.frozen? ⟨w.heap.size,3,none⟩=false)∧(w2.cell? ⟨w.heap.size+1,0,none⟩=(#[.int .i64 x,.int .u32 0,.string ⟨#[]⟩,.string ⟨#[]⟩]:Array Value)[0]?)∧(w2.frozen? ⟨w.heap.size+1,0,none⟩=false)∧(w2.cell? ⟨w.heap.size+1,1,none⟩=(#[.int .i64 x,.int .u32 0,.string ⟨#[]⟩,.string ⟨#[]⟩]:Array Value)[1]?)∧(w2.frozen? ⟨w.heap.size+1,1,none⟩=false)∧(w2.cell? ⟨w.heap.size+1,2,none⟩=(#[.int .i64 x,.int .u32 0,.string ⟨#[]⟩,.string ⟨#[]⟩]:Array Value)[2]?)∧(w2.frozen? ⟨w.heap.size+1,2,none⟩=false)∧(w2.cell? ⟨w.heap.size+1,3,none⟩=(#[.int .i64 x,.int .u32 0,.string ⟨#[]⟩,.string ⟨#[]⟩]:Array Value)[3]?)∧(w2.frozen? ⟨w.heap.size+1,3,none⟩=false):=
 ⟨cell_of_row _ _ _ _ _ _ RQ,frozen_of_row _ _ _ _ _ RQ,cell_of_row _ _ _ _ _ _ RQ,frozen_of_row _ _ _ _ _ RQ,cell_of_row _ _ _ _ _ _ RQ,frozen_of_row _ _ _ _ _ RQ,cell_of_row _ _ _ _ _ _ RQ,frozen_of_row _ _ _ _ _ RQ,cell_of_row _ _ _ _ _ _ PQ,frozen_of_row _ _ _ _ _ PQ,cell_of_row _ _ _ _ _ _ PQ,frozen_of_row _ _ _ _ _ PQ,cell_of_row _ _ _ _ _ _ PQ,frozen_of_row _ _ _ _ _ PQ,cell_of_row _ _ _ _ _ _ PQ,frozen_of_row _ _ _ _ _ PQ⟩
section
variable{x:Int}{s:ByteArray}
theorem qvsf(LK:∀W,Calls Tryz.prog 121 #[.int .i64 x] W fun e w'=>∃A m y z,e = .returned (.agg #[.int .i64 1,.slice A m m,.int .u32 y,.int .u32 z])∧Below W.heap.size W w')(h0:0 < s.size)(hx:(((s[0]'h0).toNat:Nat):Int)=x)(wx:IntKind.i64.wrap x=x){y:Nat}(q1:IntKind.i64.wrap ((s.size:Int) - 1)=(y:Int))(q2:(y:Int) < 1)(w:World) :
 Calls Tryz.prog 119 #[.string s] w fun e w'=>e = .returned (.tuple #[.agg #[.int .i64 x,.int .u32 0,.string ⟨#[]⟩,.string ⟨#[]⟩],.int .i64 0,.int .i64 5])∧Below w.heap.size w w':=by
 have LK:=Lib.hid LK
 have g0:(0:Int) < (s.size:Int):=by omega
 have e0:¬s=ByteArray.empty:=fun e=>by rw[e] at h0;exact absurd h0 (by decide)
 obtain⟨PH1,RH1,BH⟩:=qq1t w x
 go_enter Tryz.func119,Tryz.ntmps119
 go_wp2_with fail
 refine(LK.out _).mono ?_
 rintro e w2 ⟨A,m,y,z,rfl,hb⟩
 have RQ:=Lib.hid ((hb.block w.heap.size (lt_of_block RH1.out)).trans RH1.out)
 have PQ:=Lib.hid ((hb.block (w.heap.size+1) (lt_of_block PH1.out)).trans PH1.out)
 have NB:=Lib.hid (show NtB w w2 from⟨BH.out.trans (hb.mono BH.out.size),RQ.out⟩)
 have F0:=qkrp 1 A m m y z
 clear hb
 obtain⟨r0,rf0,r1,rf1,r2,rf2,r3,rf3,p0,pf0,p1,pf1,p2,pf2,p3,pf3⟩:=qker RQ.out PQ.out
 go_wp2_with fail
 obtain⟨k1,k2⟩:=(NB.out.alloc (.cells #[.int .i64 0,.int .i64 1,.int .i64 2,.int .i64 4] 3)).fin (.int .i64 x) (.int .u32 0) (.string ⟨#[]⟩) (.string ⟨#[]⟩)
 exact qhfo rfl rfl rfl rfl rfl rfl k1 ⟨rfl,k2⟩
theorem qb19(LK:∀W,Calls Tryz.prog 121 #[.int .i64 x] W fun e w'=>∃A m y z,e = .returned (.agg #[.int .i64 1,.slice A m m,.int .u32 y,.int .u32 z])∧Below W.heap.size W w')(h0:0 < s.size)(hx:(((s[0]'h0).toNat:Nat):Int)=x)(wx:IntKind.i64.wrap x=x){y V:Nat}(q1:IntKind.i64.wrap ((s.size:Int) - 1)=(y:Int))(q2:¬(y:Int) < 1)(q3:(2:Int)≤(s.size:Int))(hw:IntKind.u32.wrap (V:Int)=(V:Int))(GT:∀W,Calls Tryz.prog 59 #[.string (s.extract 1 2)] W fun e w'=>e = .returned (.int .u64 V)∧W=w')(w:World) :
 Calls Tryz.prog 119 #[.string s] w fun e w'=>e = .returned (.tuple #[.agg #[.int .i64 x,.int .u32 V,.string ⟨#[]⟩,.string ⟨#[]⟩],.int .i64 2,.int .i64 0])∧Below w.heap.size w w':=by
 have LK:=Lib.hid LK
 have GT:=Lib.hid GT
 have g0:(0:Int) < (s.size:Int):=by omega
 have e0:¬s=ByteArray.empty:=fun e=>by rw[e] at h0;exact absurd h0 (by decide)
 obtain⟨PH1,RH1,BH⟩:=qq1t w x
 go_enter Tryz.func119,Tryz.ntmps119
 go_wp2_with fail
 refine(LK.out _).mono ?_
 rintro e w2 ⟨A,m,y,z,rfl,hb⟩
 have RQ:=Lib.hid ((hb.block w.heap.size (lt_of_block RH1.out)).trans RH1.out)
 have PQ:=Lib.hid ((hb.block (w.heap.size+1) (lt_of_block PH1.out)).trans PH1.out)
 have NB:=Lib.hid (show NtB w w2 from⟨BH.out.trans (hb.mono BH.out.size),RQ.out⟩)
 have F0:=qkrp 1 A m m y z
 clear hb
 obtain⟨r0,rf0,r1,rf1,r2,rf2,r3,rf3,p0,pf0,p1,pf1,p2,pf2,p3,pf3⟩:=qker RQ.out PQ.out
 go_wp2_with fail
 refine(GT.out _).mono ?_
 rintro e w3 ⟨rfl,rfl⟩
 go_wp2_with fail
 obtain⟨k1,k2⟩:=((NB.out.alloc (.cells #[.int .i64 0,.int .i64 1,.int .i64 2,.int .i64 4] 3)).setP 1 (.int .u32 V)).fin (.int .i64 x) (.int .u32 V) (.string ⟨#[]⟩) (.string ⟨#[]⟩)
 exact qhfo rfl rfl rfl rfl rfl rfl k1 ⟨rfl,k2⟩
theorem q9m3(LK:∀W,Calls Tryz.prog 121 #[.int .i64 x] W fun e w'=>∃A m y z,e = .returned (.agg #[.int .i64 2,.slice A m m,.int .u32 y,.int .u32 z])∧Below W.heap.size W w')(h0:0 < s.size)(hx:(((s[0]'h0).toNat:Nat):Int)=x)(wx:IntKind.i64.wrap x=x){y:Nat}(q1:IntKind.i64.wrap ((s.size:Int) - 1)=(y:Int))(q2:(y:Int) < 2)(w:World) :
 Calls Tryz.prog 119 #[.string s] w fun e w'=>e = .returned (.tuple #[.agg #[.int .i64 x,.int .u32 0,.string ⟨#[]⟩,.string ⟨#[]⟩],.int .i64 0,.int .i64 5])∧Below w.heap.size w w':=by
 have LK:=Lib.hid LK
 have g0:(0:Int) < (s.size:Int):=by omega
 have e0:¬s=ByteArray.empty:=fun e=>by rw[e] at h0;exact absurd h0 (by decide)
 obtain⟨PH1,RH1,BH⟩:=qq1t w x
 go_enter Tryz.func119,Tryz.ntmps119
 go_wp2_with fail
 refine(LK.out _).mono ?_
 rintro e w2 ⟨A,m,y,z,rfl,hb⟩
 have RQ:=Lib.hid ((hb.block w.heap.size (lt_of_block RH1.out)).trans RH1.out)
 have PQ:=Lib.hid ((hb.block (w.heap.size+1) (lt_of_block PH1.out)).trans PH1.out)
 have NB:=Lib.hid (show NtB w w2 from⟨BH.out.trans (hb.mono BH.out.size),RQ.out⟩)
 have F0:=qkrp 2 A m m y z
 clear hb
 obtain⟨r0,rf0,r1,rf1,r2,rf2,r3,rf3,p0,pf0,p1,pf1,p2,pf2,p3,pf3⟩:=qker RQ.out PQ.out
 go_wp2_with fail
 obtain⟨k1,k2⟩:=(NB.out.alloc (.cells #[.int .i64 0,.int .i64 1,.int .i64 2,.int .i64 4] 3)).fin (.int .i64 x) (.int .u32 0) (.string ⟨#[]⟩) (.string ⟨#[]⟩)
 exact qhfo rfl rfl rfl rfl rfl rfl k1 ⟨rfl,k2⟩
theorem q7q4(LK:∀W,Calls Tryz.prog 121 #[.int .i64 x] W fun e w'=>∃A m y z,e = .returned (.agg #[.int .i64 2,.slice A m m,.int .u32 y,.int .u32 z])∧Below W.heap.size W w')(h0:0 < s.size)(hx:(((s[0]'h0).toNat:Nat):Int)=x)(wx:IntKind.i64.wrap x=x){y V:Nat}(q1:IntKind.i64.wrap ((s.size:Int) - 1)=(y:Int))(q2:¬(y:Int) < 2)(q3:(3:Int)≤(s.size:Int))(hw:IntKind.u32.wrap (V:Int)=(V:Int))(GT:∀W,Calls Tryz.prog 59 #[.string (s.extract 1 3)] W fun e w'=>e = .returned (.int .u64 V)∧W=w')(w:World) :
 Calls Tryz.prog 119 #[.string s] w fun e w'=>e = .returned (.tuple #[.agg #[.int .i64 x,.int .u32 V,.string ⟨#[]⟩,.string ⟨#[]⟩],.int .i64 3,.int .i64 0])∧Below w.heap.size w w':=by
 have LK:=Lib.hid LK
 have GT:=Lib.hid GT
 have g0:(0:Int) < (s.size:Int):=by omega
 have e0:¬s=ByteArray.empty:=fun e=>by rw[e] at h0;exact absurd h0 (by decide)
 obtain⟨PH1,RH1,BH⟩:=qq1t w x
 go_enter Tryz.func119,Tryz.ntmps119
 go_wp2_with fail
 refine(LK.out _).mono ?_
 rintro e w2 ⟨A,m,y,z,rfl,hb⟩
 have RQ:=Lib.hid ((hb.block w.heap.size (lt_of_block RH1.out)).trans RH1.out)
 have PQ:=Lib.hid ((hb.block (w.heap.size+1) (lt_of_block PH1.out)).trans PH1.out)
 have NB:=Lib.hid (show NtB w w2 from⟨BH.out.trans (hb.mono BH.out.size),RQ.out⟩)
 have F0:=qkrp 2 A m m y z
 clear hb
 obtain⟨r0,rf0,r1,rf1,r2,rf2,r3,rf3,p0,pf0,p1,pf1,p2,pf2,p3,pf3⟩:=qker RQ.out PQ.out
 go_wp2_with fail
 refine(GT.out _).mono ?_
 rintro e w3 ⟨rfl,rfl⟩
 go_wp2_with fail
 obtain⟨k1,k2⟩:=((NB.out.alloc (.cells #[.int .i64 0,.int .i64 1,.int .i64 2,.int .i64 4] 3)).setP 1 (.int .u32 V)).fin (.int .i64 x) (.int .u32 V) (.string ⟨#[]⟩) (.string ⟨#[]⟩)
 exact qhfo rfl rfl rfl rfl rfl rfl k1 ⟨rfl,k2⟩
theorem q4cs(LK:∀W,Calls Tryz.prog 121 #[.int .i64 x] W fun e w'=>∃A m y z,e = .returned (.agg #[.int .i64 3,.slice A m m,.int .u32 y,.int .u32 z])∧Below W.heap.size W w')(h0:0 < s.size)(hx:(((s[0]'h0).toNat:Nat):Int)=x)(wx:IntKind.i64.wrap x=x){y:Nat}(q1:IntKind.i64.wrap ((s.size:Int) - 1)=(y:Int))(q2:(y:Int) < 4)(w:World) :
 Calls Tryz.prog 119 #[.string s] w fun e w'=>e = .returned (.tuple #[.agg #[.int .i64 x,.int .u32 0,.string ⟨#[]⟩,.string ⟨#[]⟩],.int .i64 0,.int .i64 5])∧Below w.heap.size w w':=by
 have LK:=Lib.hid LK
 have g0:(0:Int) < (s.size:Int):=by omega
 have e0:¬s=ByteArray.empty:=fun e=>by rw[e] at h0;exact absurd h0 (by decide)
 obtain⟨PH1,RH1,BH⟩:=qq1t w x
 go_enter Tryz.func119,Tryz.ntmps119
 go_wp2_with fail
 refine(LK.out _).mono ?_
 rintro e w2 ⟨A,m,y,z,rfl,hb⟩
 have RQ:=Lib.hid ((hb.block w.heap.size (lt_of_block RH1.out)).trans RH1.out)
 have PQ:=Lib.hid ((hb.block (w.heap.size+1) (lt_of_block PH1.out)).trans PH1.out)
 have NB:=Lib.hid (show NtB w w2 from⟨BH.out.trans (hb.mono BH.out.size),RQ.out⟩)
 have F0:=qkrp 3 A m m y z
 clear hb
 obtain⟨r0,rf0,r1,rf1,r2,rf2,r3,rf3,p0,pf0,p1,pf1,p2,pf2,p3,pf3⟩:=qker RQ.out PQ.out
 go_wp2_with fail
 obtain⟨k1,k2⟩:=(NB.out.alloc (.cells #[.int .i64 0,.int .i64 1,.int .i64 2,.int .i64 4] 3)).fin (.int .i64 x) (.int .u32 0) (.string ⟨#[]⟩) (.string ⟨#[]⟩)
 exact qhfo rfl rfl rfl rfl rfl rfl k1 ⟨rfl,k2⟩
theorem qv8u(LK:∀W,Calls Tryz.prog 121 #[.int .i64 x] W fun e w'=>∃A m y z,e = .returned (.agg #[.int .i64 3,.slice A m m,.int .u32 y,.int .u32 z])∧Below W.heap.size W w')(h0:0 < s.size)(hx:(((s[0]'h0).toNat:Nat):Int)=x)(wx:IntKind.i64.wrap x=x){y V:Nat}(q1:IntKind.i64.wrap ((s.size:Int) - 1)=(y:Int))(q2:¬(y:Int) < 4)(q3:(5:Int)≤(s.size:Int))(hw:IntKind.u32.wrap (V:Int)=(V:Int))(GT:∀W,Calls Tryz.prog 59 #[.string (s.extract 1 5)] W fun e w'=>e = .returned (.int .u64 V)∧W=w')(w:World) :
 Calls Tryz.prog 119 #[.string s] w fun e w'=>e = .returned (.tuple #[.agg #[.int .i64 x,.int .u32 V,.string ⟨#[]⟩,.string ⟨#[]⟩],.int .i64 5,.int .i64 0])∧Below w.heap.size w w':=by
 have LK:=Lib.hid LK
 have GT:=Lib.hid GT
 have g0:(0:Int) < (s.size:Int):=by omega
 have e0:¬s=ByteArray.empty:=fun e=>by rw[e] at h0;exact absurd h0 (by decide)
 obtain⟨PH1,RH1,BH⟩:=qq1t w x
 go_enter Tryz.func119,Tryz.ntmps119
 go_wp2_with fail
 refine(LK.out _).mono ?_
 rintro e w2 ⟨A,m,y,z,rfl,hb⟩
 have RQ:=Lib.hid ((hb.block w.heap.size (lt_of_block RH1.out)).trans RH1.out)
 have PQ:=Lib.hid ((hb.block (w.heap.size+1) (lt_of_block PH1.out)).trans PH1.out)
 have NB:=Lib.hid (show NtB w w2 from⟨BH.out.trans (hb.mono BH.out.size),RQ.out⟩)
 have F0:=qkrp 3 A m m y z
 clear hb
 obtain⟨r0,rf0,r1,rf1,r2,rf2,r3,rf3,p0,pf0,p1,pf1,p2,pf2,p3,pf3⟩:=qker RQ.out PQ.out
 go_wp2_with fail
 refine(GT.out _).mono ?_
 rintro e w3 ⟨rfl,rfl⟩
 go_wp2_with fail
 obtain⟨k1,k2⟩:=((NB.out.alloc (.cells #[.int .i64 0,.int .i64 1,.int .i64 2,.int .i64 4] 3)).setP 1 (.int .u32 V)).fin (.int .i64 x) (.int .u32 V) (.string ⟨#[]⟩) (.string ⟨#[]⟩)
 exact qhfo rfl rfl rfl rfl rfl rfl k1 ⟨rfl,k2⟩
theorem qmk8(LK:∀W,Calls Tryz.prog 121 #[.int .i64 x] W fun e w'=>∃A m y z,e = .returned (.agg #[.int .i64 4,.slice A m m,.int .u32 y,.int .u32 z])∧Below W.heap.size W w')(h0:0 < s.size)(hx:(((s[0]'h0).toNat:Nat):Int)=x)(wx:IntKind.i64.wrap x=x){V k z:Int}(nz:(z != 0)=true)(q3:(1:Int)≤(s.size:Int))(RD:∀W,Calls Tryz.prog 117 #[.string (s.extract 1 s.size)] W fun e w'=>e = .returned (.tuple #[.int .i64 V,.int .i64 k,.int .i64 z])∧W=w')(w:World) :
 Calls Tryz.prog 119 #[.string s] w fun e w'=>e = .returned (.tuple #[.agg #[.int .i64 x,.int .u32 0,.string ⟨#[]⟩,.string ⟨#[]⟩],.int .i64 0,.int .i64 5])∧Below w.heap.size w w':=by
 have LK:=Lib.hid LK
 have RD:=Lib.hid RD
 have g0:(0:Int) < (s.size:Int):=by omega
 have e0:¬s=ByteArray.empty:=fun e=>by rw[e] at h0;exact absurd h0 (by decide)
 obtain⟨PH1,RH1,BH⟩:=qq1t w x
 go_enter Tryz.func119,Tryz.ntmps119
 go_wp2_with fail
 refine(LK.out _).mono ?_
 rintro e w2 ⟨A,m,y,z,rfl,hb⟩
 have RQ:=Lib.hid ((hb.block w.heap.size (lt_of_block RH1.out)).trans RH1.out)
 have PQ:=Lib.hid ((hb.block (w.heap.size+1) (lt_of_block PH1.out)).trans PH1.out)
 have NB:=Lib.hid (show NtB w w2 from⟨BH.out.trans (hb.mono BH.out.size),RQ.out⟩)
 have F0:=qkrp 4 A m m y z
 clear hb
 obtain⟨r0,rf0,r1,rf1,r2,rf2,r3,rf3,p0,pf0,p1,pf1,p2,pf2,p3,pf3⟩:=qv0q RQ.out PQ.out
 go_wp2_with fail
 refine(RD.out _).mono ?_
 rintro e w3 ⟨rfl,rfl⟩
 go_wp2_with fail
 obtain⟨k1,k2⟩:=NB.out.fin (.int .i64 x) (.int .u32 0) (.string ⟨#[]⟩) (.string ⟨#[]⟩)
 exact qhfo rfl rfl rfl rfl rfl rfl k1 ⟨rfl,k2⟩
theorem qur3(LK:∀W,Calls Tryz.prog 121 #[.int .i64 x] W fun e w'=>∃A m y z,e = .returned (.agg #[.int .i64 4,.slice A m m,.int .u32 y,.int .u32 z])∧Below W.heap.size W w')(h0:0 < s.size)(hx:(((s[0]'h0).toNat:Nat):Int)=x)(wx:IntKind.i64.wrap x=x){V k k1:Int}(hw:IntKind.u32.wrap V=V)(q3:(1:Int)≤(s.size:Int))(q4:IntKind.i64.wrap (1+k)=k1)(RD:∀W,Calls Tryz.prog 117 #[.string (s.extract 1 s.size)] W fun e w'=>e = .returned (.tuple #[.int .i64 V,.int .i64 k,.int .i64 0])∧W=w')(w:World) :
 Calls Tryz.prog 119 #[.string s] w fun e w'=>e = .returned (.tuple #[.agg #[.int .i64 x,.int .u32 V,.string ⟨#[]⟩,.string ⟨#[]⟩],.int .i64 k1,.int .i64 0])∧Below w.heap.size w w':=by
 have LK:=Lib.hid LK
 have RD:=Lib.hid RD
 have g0:(0:Int) < (s.size:Int):=by omega
 have e0:¬s=ByteArray.empty:=fun e=>by rw[e] at h0;exact absurd h0 (by decide)
 obtain⟨PH1,RH1,BH⟩:=qq1t w x
 go_enter Tryz.func119,Tryz.ntmps119
 go_wp2_with fail
 refine(LK.out _).mono ?_
 rintro e w2 ⟨A,m,y,z,rfl,hb⟩
 have RQ:=Lib.hid ((hb.block w.heap.size (lt_of_block RH1.out)).trans RH1.out)
 have PQ:=Lib.hid ((hb.block (w.heap.size+1) (lt_of_block PH1.out)).trans PH1.out)
 have NB:=Lib.hid (show NtB w w2 from⟨BH.out.trans (hb.mono BH.out.size),RQ.out⟩)
 have F0:=qkrp 4 A m m y z
 clear hb
 obtain⟨r0,rf0,r1,rf1,r2,rf2,r3,rf3,p0,pf0,p1,pf1,p2,pf2,p3,pf3⟩:=qv0q RQ.out PQ.out
 go_wp2_with fail
 refine(RD.out _).mono ?_
 rintro e w3 ⟨rfl,rfl⟩
 go_wp2_with fail
 obtain⟨k1,k2⟩:=(NB.out.setP 1 (.int .u32 V)).fin (.int .i64 x) (.int .u32 V) (.string ⟨#[]⟩) (.string ⟨#[]⟩)
 exact qhfo rfl rfl rfl rfl rfl rfl k1 ⟨rfl,k2⟩
theorem qu2k(LK:∀W,Calls Tryz.prog 121 #[.int .i64 x] W fun e w'=>∃A m y z,e = .returned (.agg #[.int .i64 5,.slice A m m,.int .u32 y,.int .u32 z])∧Below W.heap.size W w')(h0:0 < s.size)(hx:(((s[0]'h0).toNat:Nat):Int)=x)(wx:IntKind.i64.wrap x=x){T:ByteArray}{k z:Int}{bz:Bool}(hz:(z==0)=bz)(TT:∀W,Calls Tryz.prog 141 #[.string s,.int .i64 1,.int .i64 5] W fun e w'=>e = .returned (.tuple #[.string T,.int .i64 k,.int .i64 z])∧w'=W)(w:World) :
 Calls Tryz.prog 119 #[.string s] w fun e w'=>e = .returned (.tuple #[.agg #[.int .i64 x,.int .u32 0,.string T,.string ⟨#[]⟩],.int .i64 k,.int .i64 z])∧Below w.heap.size w w':=by
 have LK:=Lib.hid LK
 have TT:=Lib.hid TT
 have g0:(0:Int) < (s.size:Int):=by omega
 have e0:¬s=ByteArray.empty:=fun e=>by rw[e] at h0;exact absurd h0 (by decide)
 obtain⟨PH1,RH1,BH⟩:=qq1t w x
 go_enter Tryz.func119,Tryz.ntmps119
 go_wp2_with fail
 refine(LK.out _).mono ?_
 rintro e w2 ⟨A,m,y,z,rfl,hb⟩
 have RQ:=Lib.hid ((hb.block w.heap.size (lt_of_block RH1.out)).trans RH1.out)
 have PQ:=Lib.hid ((hb.block (w.heap.size+1) (lt_of_block PH1.out)).trans PH1.out)
 have NB:=Lib.hid (show NtB w w2 from⟨BH.out.trans (hb.mono BH.out.size),RQ.out⟩)
 have F0:=qkrp 5 A m m y z
 clear hb
 obtain⟨r0,rf0,r1,rf1,r2,rf2,r3,rf3,p0,pf0,p1,pf1,p2,pf2,p3,pf3⟩:=qv0q RQ.out PQ.out
 cases bz<;>
 ·go_wp2_with fail
  refine(TT.out _).mono ?_
  rintro e w3 ⟨rfl,rfl⟩
  go_wp2_with fail
  obtain⟨k1,k2⟩:=(NB.out.setP 2 (.string T)).fin (.int .i64 x) (.int .u32 0) (.string T) (.string ⟨#[]⟩)
  exact qhfo rfl rfl rfl rfl rfl rfl k1 ⟨rfl,k2⟩
theorem q4qj(LK:∀W,Calls Tryz.prog 121 #[.int .i64 x] W fun e w'=>∃A m y z,e = .returned (.agg #[.int .i64 6,.slice A m m,.int .u32 y,.int .u32 z])∧Below W.heap.size W w')(h0:0 < s.size)(hx:(((s[0]'h0).toNat:Nat):Int)=x)(wx:IntKind.i64.wrap x=x){T:ByteArray}{k z:Int}{bz:Bool}(hz:(z==0)=bz)(TT:∀W,Calls Tryz.prog 141 #[.string s,.int .i64 1,.int .i64 6] W fun e w'=>e = .returned (.tuple #[.string T,.int .i64 k,.int .i64 z])∧w'=W)(w:World) :
 Calls Tryz.prog 119 #[.string s] w fun e w'=>e = .returned (.tuple #[.agg #[.int .i64 x,.int .u32 0,.string T,.string ⟨#[]⟩],.int .i64 k,.int .i64 z])∧Below w.heap.size w w':=by
 have LK:=Lib.hid LK
 have TT:=Lib.hid TT
 have g0:(0:Int) < (s.size:Int):=by omega
 have e0:¬s=ByteArray.empty:=fun e=>by rw[e] at h0;exact absurd h0 (by decide)
 obtain⟨PH1,RH1,BH⟩:=qq1t w x
 go_enter Tryz.func119,Tryz.ntmps119
 go_wp2_with fail
 refine(LK.out _).mono ?_
 rintro e w2 ⟨A,m,y,z,rfl,hb⟩
 have RQ:=Lib.hid ((hb.block w.heap.size (lt_of_block RH1.out)).trans RH1.out)
 have PQ:=Lib.hid ((hb.block (w.heap.size+1) (lt_of_block PH1.out)).trans PH1.out)
 have NB:=Lib.hid (show NtB w w2 from⟨BH.out.trans (hb.mono BH.out.size),RQ.out⟩)
 have F0:=qkrp 6 A m m y z
 clear hb
 obtain⟨r0,rf0,r1,rf1,r2,rf2,r3,rf3,p0,pf0,p1,pf1,p2,pf2,p3,pf3⟩:=qv0q RQ.out PQ.out
 cases bz<;>
 ·go_wp2_with fail
  refine(TT.out _).mono ?_
  rintro e w3 ⟨rfl,rfl⟩
  go_wp2_with fail
  obtain⟨k1,k2⟩:=(NB.out.setP 2 (.string T)).fin (.int .i64 x) (.int .u32 0) (.string T) (.string ⟨#[]⟩)
  exact qhfo rfl rfl rfl rfl rfl rfl k1 ⟨rfl,k2⟩
theorem qyei(LK:∀W,Calls Tryz.prog 121 #[.int .i64 x] W fun e w'=>∃A m y z,e = .returned (.agg #[.int .i64 7,.slice A m m,.int .u32 y,.int .u32 z])∧Below W.heap.size W w')(h0:0 < s.size)(hx:(((s[0]'h0).toNat:Nat):Int)=x)(wx:IntKind.i64.wrap x=x){T:ByteArray}{k z:Int}(hz:(z==0)=false)(TT:∀W,Calls Tryz.prog 141 #[.string s,.int .i64 1,.int .i64 7] W fun e w'=>e = .returned (.tuple #[.string T,.int .i64 k,.int .i64 z])∧w'=W)(w:World) :
 Calls Tryz.prog 119 #[.string s] w fun e w'=>e = .returned (.tuple #[.agg #[.int .i64 x,.int .u32 0,.string T,.string ⟨#[]⟩],.int .i64 k,.int .i64 z])∧Below w.heap.size w w':=by
 have LK:=Lib.hid LK
 have TT:=Lib.hid TT
 have g0:(0:Int) < (s.size:Int):=by omega
 have e0:¬s=ByteArray.empty:=fun e=>by rw[e] at h0;exact absurd h0 (by decide)
 obtain⟨PH1,RH1,BH⟩:=qq1t w x
 go_enter Tryz.func119,Tryz.ntmps119
 go_wp2_with fail
 refine(LK.out _).mono ?_
 rintro e w2 ⟨A,m,y,z,rfl,hb⟩
 have RQ:=Lib.hid ((hb.block w.heap.size (lt_of_block RH1.out)).trans RH1.out)
 have PQ:=Lib.hid ((hb.block (w.heap.size+1) (lt_of_block PH1.out)).trans PH1.out)
 have NB:=Lib.hid (show NtB w w2 from⟨BH.out.trans (hb.mono BH.out.size),RQ.out⟩)
 have F0:=qkrp 7 A m m y z
 clear hb
 obtain⟨r0,rf0,r1,rf1,r2,rf2,r3,rf3,p0,pf0,p1,pf1,p2,pf2,p3,pf3⟩:=qv0q RQ.out PQ.out
 go_wp2_with fail
 refine(TT.out _).mono ?_
 rintro e w3 ⟨rfl,rfl⟩
 go_wp2_with fail
 obtain⟨k1,k2⟩:=(NB.out.setP 2 (.string T)).fin (.int .i64 x) (.int .u32 0) (.string T) (.string ⟨#[]⟩)
 exact qhfo rfl rfl rfl rfl rfl rfl k1 ⟨rfl,k2⟩
theorem quzf(LK:∀W,Calls Tryz.prog 121 #[.int .i64 x] W fun e w'=>∃A m y z,e = .returned (.agg #[.int .i64 7,.slice A m m,.int .u32 y,.int .u32 z])∧Below W.heap.size W w')(h0:0 < s.size)(hx:(((s[0]'h0).toNat:Nat):Int)=x)(wx:IntKind.i64.wrap x=x){T U:ByteArray}{k j z:Int}(TT:∀W,Calls Tryz.prog 141 #[.string s,.int .i64 1,.int .i64 7] W fun e w'=>e = .returned (.tuple #[.string T,.int .i64 k,.int .i64 0])∧w'=W)(TU:∀W,Calls Tryz.prog 141 #[.string s,.int .i64 k,.int .i64 7] W fun e w'=>e = .returned (.tuple #[.string U,.int .i64 j,.int .i64 z])∧w'=W)(w:World) :
 Calls Tryz.prog 119 #[.string s] w fun e w'=>e = .returned (.tuple #[.agg #[.int .i64 x,.int .u32 0,.string T,.string U],.int .i64 j,.int .i64 z])∧Below w.heap.size w w':=by
 have LK:=Lib.hid LK
 have TT:=Lib.hid TT
 have TU:=Lib.hid TU
 have g0:(0:Int) < (s.size:Int):=by omega
 have e0:¬s=ByteArray.empty:=fun e=>by rw[e] at h0;exact absurd h0 (by decide)
 obtain⟨PH1,RH1,BH⟩:=qq1t w x
 go_enter Tryz.func119,Tryz.ntmps119
 go_wp2_with fail
 refine(LK.out _).mono ?_
 rintro e w2 ⟨A,m,y,z,rfl,hb⟩
 have RQ:=Lib.hid ((hb.block w.heap.size (lt_of_block RH1.out)).trans RH1.out)
 have PQ:=Lib.hid ((hb.block (w.heap.size+1) (lt_of_block PH1.out)).trans PH1.out)
 have NB:=Lib.hid (show NtB w w2 from⟨BH.out.trans (hb.mono BH.out.size),RQ.out⟩)
 have F0:=qkrp 7 A m m y z
 clear hb
 obtain⟨r0,rf0,r1,rf1,r2,rf2,r3,rf3,p0,pf0,p1,pf1,p2,pf2,p3,pf3⟩:=qv0q RQ.out PQ.out
 go_wp2_with fail
 refine(TT.out _).mono ?_
 rintro e w3 ⟨rfl,rfl⟩
 go_wp2_with fail
 refine(TU.out _).mono ?_
 rintro e w3 ⟨rfl,rfl⟩
 go_wp2_with fail
 obtain⟨k1,k2⟩:=((NB.out.setP 2 (.string T)).setP 3 (.string U)).fin (.int .i64 x) (.int .u32 0) (.string T) (.string U)
 exact qhfo rfl rfl rfl rfl rfl rfl k1 ⟨rfl,k2⟩
end
end Go.Proofs.YthhdhagenmcbeaaGreat
