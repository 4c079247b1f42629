/- The contract of mstream.New. No condition. -/
import Derived.Test.YtefmhbioggcfaaaGreatDoorK47
import Derived.Test.YtefmhbioggcfaaaGreatDoorK17
namespace Go.Proofs.YtefmhbioggcfaaaGreatDoor
open Lib(hid)
open Go.RowKit
def limB(m d:Int):Bool:=decide (16<=m)&&decide (m<=1048576)&&decide (0<=d)&&decide (d<=32)
theorem qd2c(m d:Int)(w:World):Calls Tryz.prog 22 #[.agg #[.int .i64 m,.int .i64 d]] w fun e w'=>e=.returned (.bool (limB m d))/\Below w.heap.size w w':=by
 obtain⟨b,hb⟩:∃b,limB m d=b:=⟨_,rfl⟩
 have HB:=hid hb;rw[hb];clear hb
 go_in
 go_wp2_with fail
 all_goals
  go_ret;refine⟨?_,(Below.refl _ _).alloc (Nat.le_refl _) _⟩;rw[<-HB.out];unfold limB;simp
  try omega
def qyzr(w:World)(v m d:Int)(e:Ending)(w':World):Prop:=
 Below w.heap.size w w'/\((verH v&&limB m d)=false->e=.returned (.tuple #[.pointer none,.int .i64 2]))/\
  ((verH v&&limB m d)=true->∃g,e=.returned (.tuple #[.pointer (some ⟨g,0,none⟩),.int .i64 0])/\w.heap.size<=g/\Stm w' g v m.toNat (.slice none 0 0) 0 (nxV g 0) 0 0 0)
theorem qn5h(v m d:Int)(w:World):Calls Tryz.prog 12 #[.int .i64 v,.agg #[.int .i64 m,.int .i64 d]] w (qyzr w v m d):=by
 have FIT:=hid (qd2c m d (w.alloc (.cells #[.int .i64 m,.int .i64 d] 24)));have hm:limB m d=true->16<=m:=fun h=>by unfold limB at h;simp at h;omega
 cases hv:verH v with
 |false=>
  have hn:=q25y hv;have e4:(v != 4)=true:=by simp;exact hn.1
  have e5:(v != 5)=true:=by simp;exact hn.2
  have R:∀W,Below w.heap.size w W->qyzr w v m d (.returned (.tuple #[.pointer none,.int .i64 2])) W:=fun W hW=>⟨hW,fun _=>rfl,fun h=>by rw[hv] at h;cases h⟩
  replace R:=hid R;obtain⟨Q,hQ⟩:∃Q,qyzr w v m d=Q:=⟨_,rfl⟩
  rw[hQ] at R ⊢;clear hv hn hm FIT
  go_in
  go_wp2_with fail;exact R.out _ ((Below.refl _ _).alloc (Nat.le_refl _) _)
 |true=>
  obtain⟨b,hb⟩:∃b,limB m d=b:=⟨_,rfl⟩
  rw[hb] at FIT hm;cases b with
  |false=>
   have R:∀W,Below w.heap.size w W->qyzr w v m d (.returned (.tuple #[.pointer none,.int .i64 2])) W:=fun W hW=>⟨hW,fun _=>rfl,fun h=>by rw[hv,hb] at h;cases h⟩
   replace R:=hid R;obtain⟨Q,hQ⟩:∃Q,qyzr w v m d=Q:=⟨_,rfl⟩
   rw[hQ] at R ⊢;have L:=hid (fun W' (h:Below (w.alloc (.cells #[.int .i64 m,.int .i64 d] 24)).heap.size (w.alloc (.cells #[.int .i64 m,.int .i64 d] 24)) W')=>qxh2 ((Below.refl w.heap.size w).alloc (Nat.le_refl _) (.cells #[.int .i64 m,.int .i64 d] 24)) h);rcases q53g hv with rfl|rfl
   all_goals
    clear hv hm hb
    go_in
    go_wp2_with fail;refine FIT.out.mono ?_;rintro e w' ⟨rfl,hl⟩;have hl:=hid (L.out _ hl);go_wp2_with fail;exact R.out _ hl.out
  |true=>
   obtain⟨n,rfl⟩:∃n:Nat,m=(n:Int):=⟨m.toNat,by have:=hm rfl;omega⟩
   have R:∀W g,Below w.heap.size w W->w.heap.size<=g->Stm W g v n (.slice none 0 0) 0 (nxV g 0) 0 0 0->qyzr w v n d (.returned (.tuple #[.pointer (some ⟨g,0,none⟩),.int .i64 0])) W:=fun W g hW hg hS=>⟨hW,fun h=>(by rw[hv,hb] at h;cases h),fun _=>⟨g,rfl,hg,hS⟩⟩
   replace R:=hid R;obtain⟨Q,hQ⟩:∃Q,qyzr w v n d=Q:=⟨_,rfl⟩
   rw[hQ] at R ⊢;have hst:=q0gg;have L:=hid (fun W' (h:Below (w.alloc (.cells #[.int .i64 n,.int .i64 d] 24)).heap.size (w.alloc (.cells #[.int .i64 n,.int .i64 d] 24)) W')=>qxh2 ((Below.refl w.heap.size w).alloc (Nat.le_refl _) (.cells #[.int .i64 n,.int .i64 d] 24)) h);have CB:=hid (fun W' (h:Below (w.alloc (.cells #[.int .i64 n,.int .i64 d] 24)).heap.size (w.alloc (.cells #[.int .i64 n,.int .i64 d] 24)) W')=>(show W'.cell? ⟨w.heap.size,0,none⟩=some (.int .i64 n) from(World.cell?_of_block (h.block _ (by simp))).trans (cell_of_row _ _ 0 _ _ _ (heap_alloc_new w _))));rcases q53g hv with rfl|rfl
   all_goals
    clear hv hm hb
    go_in
    go_wp2_with fail;refine FIT.out.mono ?_;rintro e w' ⟨rfl,hl⟩;have c0:=CB.out _ hl;have hl:=hid (L.out _ hl);go_wp2_with fail;exact R.out _ w'.heap.size (hl.out.alloc hl.out.size _) hl.out.size (heap_alloc_new w' _)
end Go.Proofs.YtefmhbioggcfaaaGreatDoor
