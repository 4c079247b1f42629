/- The contract of polyglotref05.Check. Condition: strings of up to 200,000 bytes. -/
import Derived.Test.YtbklidpadffpgaaGreatK34
import Derived.Test.YtbklidpadffpgaaGreatK32
set_option maxRecDepth 100000
set_option maxHeartbeats 1000000
namespace Go.Proofs.YtbklidpadffpgaaGreat
open Go.RowKit
theorem qgxa:qecx []=true:=by
 have e:cbs []=[]:=rfl
 have h:=qc22 (cs:=[]) (fun c hc=>by simp at hc) (by rw[e];decide)
 rwa [e] at h
theorem q9ay(kind:Int)(p:Pr)(w:World)(ht:p.text.length≤200000) :
 Calls Tryz.prog 68 #[.int .i64 kind,qbhk p] w fun e w'=>e = .returned (.int .i64 ((qr4y kind p:Nat):Int))∧Below w.heap.size w w':=by
 have MY:=q9my kind p.id
 have LK:=fun W=>(q43i p.id W).mono (R':=fun e w'=>∃A m,e = .returned (.agg #[.int .i64 ((qwgc p.id:Nat):Int),.slice A m m,.int .u32 (((prow p.id).least:Nat):Int),.int .u32 (((prow p.id).most:Nat):Int)])∧Below W.heap.size W w') (fun e w' ⟨A,h1,h2,_⟩=>⟨A,_,h1,h2⟩)
 have VT:=qcip (bs p.text)
 have VV:=qcip (bs p.value)
 have NM:=fun W=>qxw2 (bs p.text) W (by rw[q5zk];exact ht)
 rw[qkd1] at VT VV NM
 have hst:=qh7y p.text
 have hsv:=qh7y p.value
 have kst:(bs p.text).toList.isEmpty=decide (p.text=[]):=by rw[q0c6];cases p.text<;>simp
 have ksv:(bs p.value).toList.isEmpty=decide (p.value=[]):=by rw[q0c6];cases p.value<;>simp
 have hsz:(bs p.text).size=p.text.length:=q5zk _
 unfold qbhk
 cases hm:mayP kind p.id with
 | false=>
  rw[hm] at MY
  have hV:qr4y kind p=9:=by unfold qr4y;rw[if_pos hm]
  rw[hV]
  exact qi4l MY w
 | true=>
  rw[hm] at MY
  obtain⟨r1,r2,_,_,_,_,r8⟩:=qznl hm
  have hcp:qr4y kind p=(if qwgc p.id≤4 then
   if p.text≠[]∨p.value≠[] then 2 else if p.n < (prow p.id).least∨(prow p.id).most < p.n then 9 else 0
   else if p.n≠0∨(qwgc p.id≠7∧p.value≠[]) then 2
   else if qwgc p.id=6 then(if 65535 < p.text.length then 2 else 0)
   else if qecx p.text=false∨qecx p.value=false then 6
   else if p.id=8∧q95c p.text=false then 9 else 0):=by unfold qr4y;rw[if_neg (by simp[hm])]
  by_cases h4:qwgc p.id≤4
  ·rw[hcp,if_pos h4]
   have q4:((qwgc p.id:Nat):Int)≤4:=by omega
   have e5:(((qwgc p.id:Nat):Int)==5)=false:=by rw[beq_eq_false_iff_ne];omega
   have e6:(((qwgc p.id:Nat):Int)==6)=false:=by rw[beq_eq_false_iff_ne];omega
   have e7:(((qwgc p.id:Nat):Int)==7)=false:=by rw[beq_eq_false_iff_ne];omega
   have e7n:(((qwgc p.id:Nat):Int) != 7)=true:=by rw[bne_iff_ne];omega
   by_cases h1:p.text=[]
   ·rw[decide_eq_true h1] at hst kst
    by_cases h2:p.value=[]
    ·rw[decide_eq_true h2] at hsv ksv
     rw[if_neg (by simp[h1,h2])]
     by_cases h3:p.n < (prow p.id).least
     ·rw[if_pos (.inl h3)]
      exact q2er MY LK q4 e5 e6 e7 e7n hst kst hsv ksv (by omega) w
     ·by_cases h5:(prow p.id).most < p.n
      ·rw[if_pos (.inr h5)]
       exact qjv2 MY LK q4 e5 e6 e7 e7n hst kst hsv ksv (by omega) (by omega) w
      ·rw[if_neg (by omega)]
       exact q2ka MY LK q4 e5 e6 e7 e7n hst kst hsv ksv (by omega) (by omega) (by rw[beq_eq_false_iff_ne];intro h;have:=r8 h;omega) w
    ·rw[decide_eq_false h2] at hsv ksv
     rw[if_pos (.inr h2)]
     exact q55o MY LK q4 e5 e6 e7 e7n hst kst hsv ksv w
   ·rw[decide_eq_false h1] at hst kst
    rw[if_pos (.inl h1)]
    exact qzd1 MY LK q4 e5 e6 e7 e7n hst kst w
  ·have hs:qwgc p.id=5∨qwgc p.id=6∨qwgc p.id=7:=by omega
   by_cases h0:p.n=0
   ·have n0:(((p.n:Nat):Int) != 0)=false:=by rw[h0];rfl
    rcases hs with s | s | s
    ·rw[s,show((5:Nat):Int)=5 from rfl] at LK
     have hx:qr4y kind p=(if p.value≠[] then 2 else if qecx p.text=false∨qecx p.value=false then 6 else if p.id=8∧q95c p.text=false then 9 else 0):=by
      rw[hcp,if_neg h4,s,h0]
      by_cases hv:p.value=[]<;>simp[hv]
     rw[hx]
     by_cases h2:p.value=[]
     ·rw[decide_eq_true h2] at hsv ksv
      rw[if_neg (by simp[h2])]
      have hvv:qecx p.value=true:=by rw[h2];exact qgxa
      rw[hvv] at VV ⊢
      cases ht':qecx p.text with
      | false=>rw[ht'] at VT;rw[if_pos (.inl rfl)];exact qnq4 MY LK VT n0 hsv ksv w
      | true=>
       rw[ht'] at VT
       rw[if_neg (by simp)]
       by_cases h8:p.id=8
       ·have e8:(p.id==8)=true:=by simpa using h8
        cases hnm:q95c p.text with
        | false=>rw[hnm] at NM;rw[if_pos ⟨h8,rfl⟩];exact q04y MY LK VT VV NM n0 hsv ksv e8 w
        | true=>rw[hnm] at NM;rw[if_neg (by simp)];exact qciu MY LK VT VV NM n0 hsv ksv e8 w
       ·have e8:(p.id==8)=false:=by simpa using h8
        rw[if_neg (fun h=>h8 h.1)]
        exact qjx7 MY LK VT VV n0 hsv ksv e8 w
     ·rw[decide_eq_false h2] at hsv ksv
      rw[if_pos h2]
      exact qrri MY LK n0 hsv ksv w
    ·rw[s,show((6:Nat):Int)=6 from rfl] at LK
     have e8:(p.id==8)=false:=by rw[beq_eq_false_iff_ne];intro h;have:=r8 h;omega
     have hx:qr4y kind p=(if p.value≠[] then 2 else if 65535 < p.text.length then 2 else 0):=by
      rw[hcp,if_neg h4,s,h0]
      by_cases hv:p.value=[]<;>simp[hv]
     rw[hx]
     by_cases h2:p.value=[]
     ·rw[decide_eq_true h2] at hsv ksv
      rw[if_neg (by simp[h2])]
      by_cases hb:65535 < p.text.length
      ·rw[if_pos hb];exact qlqa MY LK n0 hsv ksv e8 (by rw[hsz];omega) w
      ·rw[if_neg hb];exact q9o2 MY LK n0 hsv ksv e8 (by rw[hsz];omega) w
     ·rw[decide_eq_false h2] at hsv ksv
      rw[if_pos h2]
      exact qeju MY LK n0 hsv ksv w
    ·rw[s,show((7:Nat):Int)=7 from rfl] at LK
     have e8:(p.id==8)=false:=by rw[beq_eq_false_iff_ne];intro h;have:=r8 h;omega
     have h8:¬p.id=8:=by simpa using e8
     have hx:qr4y kind p=(if qecx p.text=false∨qecx p.value=false then 6 else if p.id=8∧q95c p.text=false then 9 else 0):=by
      rw[hcp,if_neg h4,s,h0]
      simp
     rw[hx]
     cases ht':qecx p.text with
     | false=>rw[ht'] at VT;rw[if_pos (.inl rfl)];exact qfgx MY LK VT n0 w
     | true=>
      rw[ht'] at VT
      cases hv':qecx p.value with
      | false=>rw[hv'] at VV;rw[if_pos (.inr rfl)];exact q9lq MY LK VT VV n0 w
      | true=>
       rw[hv'] at VV
       rw[if_neg (by simp),if_neg (fun h=>h8 h.1)]
       exact qwvr MY LK VT VV n0 e8 w
   ·have n0:(((p.n:Nat):Int) != 0)=true:=by rw[bne_iff_ne];omega
    rw[hcp,if_neg h4,if_pos (.inl h0)]
    rcases hs with s | s | s
    ·rw[s,show((5:Nat):Int)=5 from rfl] at LK;exact qfon MY LK n0 w
    ·rw[s,show((6:Nat):Int)=6 from rfl] at LK;exact q60w MY LK n0 w
    ·rw[s,show((7:Nat):Int)=7 from rfl] at LK;exact qdtt MY LK n0 w
end Go.Proofs.YtbklidpadffpgaaGreat
