/- The contract of the reference's Same (layer 7): whether two packets are equal. Condition: at most 70,000 elements a list. -/
import Derived.Deep.DeepCutAuto
import Derived.Deep.RegionWith
import Derived.Test.YtbklidpadffpgaaGreatK21
import Derived.Test.YtbklidpadffpgaaGreatK19
set_option maxHeartbeats 8000000
set_option maxRecDepth 100000
namespace Go.Proofs.YtbklidpadffpgaaGreat
open Go.RowKit
def q2v7(p:Pk)(a:Ad):Array Value:=#[.string (bs p.wTopic),.string (bs p.wPayload),.int .i64 p.wQos,.bool p.wRetain,.slice a.w p.wProps.length a.wc]
theorem qfa9{p q:Pk}{α:Type}(f:Pk→α)(h:f p≠f q):decide (p=q)=false:=decide_eq_false fun e=>h (by rw[e])
theorem qkl7(p q:Pk)(a b:Ad)(w:World)(hp:PkAt w p a)(hq:PkAt w q b)(sp:q21o p)(sq:q21o q) :
 Calls Tryz.prog 38 #[pkV p a,pkV q b] w fun e w'=>e = .returned (.bool (decide (p=q)))∧Below w.heap.size w w':=by
 have S0:SmS w p a q b ((w.alloc (.cells (pkC p a) 35)).alloc (.cells (pkC q b) 35)):=⟨qxh2 (qybm _) (qybm _),heap_alloc2_old _ _ _,heap_alloc2_new _ _ _⟩
 unfold q21o at sp sq
 have WP:=Lib.hid (fun W (h:SmS w p a q b W)=>q8eh a.w b.w _ _ a.wc b.wc p.wProps q.wProps W (hp.w.below h.low) (hq.w.below h.low) rfl rfl (by omega) (by omega))
 have CP:=Lib.hid (fun W (h:SmS w p a q b W)=>qjlq a.cs b.cs _ _ a.cc b.cc p.codes q.codes W (hp.cs.below h.low) (hq.cs.below h.low) rfl rfl (by omega) (by omega))
 have FP:=Lib.hid (fun W (h:SmS w p a q b W)=>qogp a.fs b.fs _ _ a.fc b.fc p.filters q.filters W (hp.fs.below h.low) (hq.fs.below h.low) rfl rfl (by omega) (by omega))
 have PP:=Lib.hid (fun W (h:SmS w p a q b W)=>q8eh a.ps b.ps _ _ a.pc b.pc p.props q.props W (hp.ps.below h.low) (hq.ps.below h.low) rfl rfl (by omega) (by omega))
 have CC:=Lib.hid (show ∀(x:Pk) (c:Ad) (B:Nat) (j:Nat) (u:Value) (W:World),W.heap[B]? = some (.cells (pkC x c) 35 (0,0))→(pkC x c)[j]? = some u→W.cell? ⟨B,j,none⟩=some u from fun x c B j u W h hu=>(cell_of_row _ _ j _ _ _ h).trans hu)
 have HS0:=Lib.hid S0
 have HI:=Lib.hid (fun(h:p.nums=q.nums∧p.marks=q.marks∧p.texts=q.texts∧p.codes=q.codes∧p.filters=q.filters∧p.props=q.props∧p.wProps=q.wProps)=>(qpgn p q).2 h)
 clear S0 hp hq sp sq
 obtain⟨D,hD⟩:∃D,decide (p=q)=D:=⟨_,rfl⟩
 rw[hD]
 have HD:=Lib.hid hD
 clear hD
 unfold pkV
 have P0:((w.alloc (.cells (pkC p a) 35)).alloc (.cells (pkC q b) 35)).cell? ⟨w.heap.size,15,none⟩=some (.string (bs p.wTopic)):=CC.out p a _ 15 _ _ HS0.out.p rfl
 have P1:((w.alloc (.cells (pkC p a) 35)).alloc (.cells (pkC q b) 35)).cell? ⟨w.heap.size,16,none⟩=some (.string (bs p.wPayload)):=CC.out p a _ 16 _ _ HS0.out.p rfl
 have P2:((w.alloc (.cells (pkC p a) 35)).alloc (.cells (pkC q b) 35)).cell? ⟨w.heap.size,17,none⟩=some (.int .i64 p.wQos):=CC.out p a _ 17 _ _ HS0.out.p rfl
 have P3:((w.alloc (.cells (pkC p a) 35)).alloc (.cells (pkC q b) 35)).cell? ⟨w.heap.size,18,none⟩=some (.bool p.wRetain):=CC.out p a _ 18 _ _ HS0.out.p rfl
 have P4:((w.alloc (.cells (pkC p a) 35)).alloc (.cells (pkC q b) 35)).cell? ⟨w.heap.size,19,none⟩=some (.slice a.w p.wProps.length a.wc):=CC.out p a _ 19 _ _ HS0.out.p rfl
 have Q0:((w.alloc (.cells (pkC p a) 35)).alloc (.cells (pkC q b) 35)).cell? ⟨w.heap.size+1,15,none⟩=some (.string (bs q.wTopic)):=CC.out q b _ 15 _ _ HS0.out.q rfl
 have Q1:((w.alloc (.cells (pkC p a) 35)).alloc (.cells (pkC q b) 35)).cell? ⟨w.heap.size+1,16,none⟩=some (.string (bs q.wPayload)):=CC.out q b _ 16 _ _ HS0.out.q rfl
 have Q2:((w.alloc (.cells (pkC p a) 35)).alloc (.cells (pkC q b) 35)).cell? ⟨w.heap.size+1,17,none⟩=some (.int .i64 q.wQos):=CC.out q b _ 17 _ _ HS0.out.q rfl
 have Q3:((w.alloc (.cells (pkC p a) 35)).alloc (.cells (pkC q b) 35)).cell? ⟨w.heap.size+1,18,none⟩=some (.bool q.wRetain):=CC.out q b _ 18 _ _ HS0.out.q rfl
 have Q4:((w.alloc (.cells (pkC p a) 35)).alloc (.cells (pkC q b) 35)).cell? ⟨w.heap.size+1,19,none⟩=some (.slice b.w q.wProps.length b.wc):=CC.out q b _ 19 _ _ HS0.out.q rfl
 have hsz:((w.alloc (.cells (pkC p a) 35)).alloc (.cells (pkC q b) 35)).heap.size=w.heap.size+2:=by simp
 have HSZ:=Lib.hid hsz
 clear hsz
 generalize hw0:(w.alloc (.cells (pkC p a) 35)).alloc (.cells (pkC q b) 35)=w0 at *
 have HW:=Lib.hid hw0
 clear hw0
 have g1:w.heap.size+1 < w0.heap.size:=by have:=HSZ.out;omega
 have g0:w.heap.size < w0.heap.size:=by have:=HSZ.out;omega
 go_enter Tryz.func38,Tryz.ntmps38
 go_upto_region 1 with fail
 rw[HW.out]
 go_cut [5,6] (fun s5 s6 wx=>∃X Y:Nat,s5 = .pointer (some ⟨X,0,none⟩)∧s6 = .pointer (some ⟨Y,0,none⟩)∧wx.heap[X]? = some (.cells (q2v7 p a) 31 (0,0))∧wx.heap[Y]? = some (.cells (q2v7 q b) 31 (0,0))∧SmS w p a q b wx)
 case first=>
  have SX:∀o o' n,SmS w p a q b (((w0.alloc o).alloc o').drewN n):=fun o o' n=>HS0.out.call (qnpu (qxh2 (qybm _) (qybm _)) n)
  have HX:=Lib.hid SX
  clear SX
  go_region
  ·go_wp2_with fail
   go_meet
   exact⟨_,_,rfl,rfl,heap_alloc2_old w0 _ _,heap_alloc2_new w0 _ _,HX.out _ _ 1⟩
  ·go_wp2_with fail
   go_meet
   exact⟨_,_,rfl,rfl,heap_alloc2_new w0 _ _,heap_alloc2_old w0 _ _,HX.out _ _ 1⟩
 case rest=>
  obtain⟨X,Y,rfl,rfl,hX,hY,hS⟩:=hcut
  have GX:=Lib.hid hX
  have GY:=Lib.hid hY
  have SS:=Lib.hid hS
  clear P0 P1 P2 P3 P4 Q0 Q1 Q2 Q3 Q4 g0 g1 hX hY hS
  have x0:wc.cell? ⟨X,0,none⟩=some (.string (bs p.wTopic)):=cell_of_row _ _ 0 _ _ _ GX.out
  have y0:wc.cell? ⟨Y,0,none⟩=some (.string (bs q.wTopic)):=cell_of_row _ _ 0 _ _ _ GY.out
  have x1:wc.cell? ⟨X,1,none⟩=some (.string (bs p.wPayload)):=cell_of_row _ _ 1 _ _ _ GX.out
  have y1:wc.cell? ⟨Y,1,none⟩=some (.string (bs q.wPayload)):=cell_of_row _ _ 1 _ _ _ GY.out
  have x2:wc.cell? ⟨X,2,none⟩=some (.int .i64 p.wQos):=cell_of_row _ _ 2 _ _ _ GX.out
  have y2:wc.cell? ⟨Y,2,none⟩=some (.int .i64 q.wQos):=cell_of_row _ _ 2 _ _ _ GY.out
  have x3:wc.cell? ⟨X,3,none⟩=some (.bool p.wRetain):=cell_of_row _ _ 3 _ _ _ GX.out
  have y3:wc.cell? ⟨Y,3,none⟩=some (.bool q.wRetain):=cell_of_row _ _ 3 _ _ _ GY.out
  have x4:wc.cell? ⟨X,4,none⟩=some (.slice a.w p.wProps.length a.wc):=cell_of_row _ _ 4 _ _ _ GX.out
  have y4:wc.cell? ⟨Y,4,none⟩=some (.slice b.w q.wProps.length b.wc):=cell_of_row _ _ 4 _ _ _ GY.out
  by_cases e_wTopic:p.wTopic=q.wTopic
  ·rw[←e_wTopic] at y0
   have E_wTopic:=Lib.hid e_wTopic
   clear e_wTopic
   by_cases e_wPayload:p.wPayload=q.wPayload
   ·rw[←e_wPayload] at y1
    have E_wPayload:=Lib.hid e_wPayload
    clear e_wPayload
    by_cases e_wQos:p.wQos=q.wQos
    ·rw[←e_wQos] at y2
     have E_wQos:=Lib.hid e_wQos
     clear e_wQos
     by_cases e_wRetain:p.wRetain=q.wRetain
     ·rw[←e_wRetain] at y3
      have E_wRetain:=Lib.hid e_wRetain
      clear e_wRetain
      by_cases e_wProps:p.wProps=q.wProps
      ·have WQ:=Lib.hid (WP.out _ SS.out)
       rw[decide_eq_true e_wProps] at WQ
       have E_wProps:=Lib.hid e_wProps
       clear e_wProps
       have L0:=Lib.hid SS.out
       generalize bs p.wTopic=u_wTopic at x0 y0
       generalize bs p.wPayload=u_wPayload at x1 y1
       generalize p.wQos=u_wQos at x2 y2
       generalize p.wRetain=u_wRetain at x3 y3
       go_wp2_with fail
       refine(WQ.out).mono ?_
       rintro e w1 ⟨rfl,m,hw1⟩
       have S1:=Lib.hid (show SmS w p a q b w1 by rw[hw1];exact SS.out.call (qnpu (Below.refl _ _) m))
       clear hw1 x0 x1 x2 x3 x4 y0 y1 y2 y3 y4
       have x0:w1.cell? ⟨w.heap.size,0,none⟩=some (.int .i64 p.kind):=CC.out p a _ 0 _ _ S1.out.p rfl
       have y0:w1.cell? ⟨w.heap.size+1,0,none⟩=some (.int .i64 q.kind):=CC.out q b _ 0 _ _ S1.out.q rfl
       have x1:w1.cell? ⟨w.heap.size,1,none⟩=some (.bool p.dup):=CC.out p a _ 1 _ _ S1.out.p rfl
       have y1:w1.cell? ⟨w.heap.size+1,1,none⟩=some (.bool q.dup):=CC.out q b _ 1 _ _ S1.out.q rfl
       have x2:w1.cell? ⟨w.heap.size,2,none⟩=some (.bool p.retain):=CC.out p a _ 2 _ _ S1.out.p rfl
       have y2:w1.cell? ⟨w.heap.size+1,2,none⟩=some (.bool q.retain):=CC.out q b _ 2 _ _ S1.out.q rfl
       have x3:w1.cell? ⟨w.heap.size,3,none⟩=some (.int .i64 p.qos):=CC.out p a _ 3 _ _ S1.out.p rfl
       have y3:w1.cell? ⟨w.heap.size+1,3,none⟩=some (.int .i64 q.qos):=CC.out q b _ 3 _ _ S1.out.q rfl
       have x4:w1.cell? ⟨w.heap.size,4,none⟩=some (.int .i64 p.id):=CC.out p a _ 4 _ _ S1.out.p rfl
       have y4:w1.cell? ⟨w.heap.size+1,4,none⟩=some (.int .i64 q.id):=CC.out q b _ 4 _ _ S1.out.q rfl
       have x5:w1.cell? ⟨w.heap.size,5,none⟩=some (.string (bs p.topic)):=CC.out p a _ 5 _ _ S1.out.p rfl
       have y5:w1.cell? ⟨w.heap.size+1,5,none⟩=some (.string (bs q.topic)):=CC.out q b _ 5 _ _ S1.out.q rfl
       have x6:w1.cell? ⟨w.heap.size,6,none⟩=some (.string (bs p.payload)):=CC.out p a _ 6 _ _ S1.out.p rfl
       have y6:w1.cell? ⟨w.heap.size+1,6,none⟩=some (.string (bs q.payload)):=CC.out q b _ 6 _ _ S1.out.q rfl
       have x7:w1.cell? ⟨w.heap.size,7,none⟩=some (.bool p.clean):=CC.out p a _ 7 _ _ S1.out.p rfl
       have y7:w1.cell? ⟨w.heap.size+1,7,none⟩=some (.bool q.clean):=CC.out q b _ 7 _ _ S1.out.q rfl
       have x8:w1.cell? ⟨w.heap.size,8,none⟩=some (.int .i64 p.keep):=CC.out p a _ 8 _ _ S1.out.p rfl
       have y8:w1.cell? ⟨w.heap.size+1,8,none⟩=some (.int .i64 q.keep):=CC.out q b _ 8 _ _ S1.out.q rfl
       have x9:w1.cell? ⟨w.heap.size,9,none⟩=some (.string (bs p.client)):=CC.out p a _ 9 _ _ S1.out.p rfl
       have y9:w1.cell? ⟨w.heap.size+1,9,none⟩=some (.string (bs q.client)):=CC.out q b _ 9 _ _ S1.out.q rfl
       have x10:w1.cell? ⟨w.heap.size,10,none⟩=some (.bool p.hasUser):=CC.out p a _ 10 _ _ S1.out.p rfl
       have y10:w1.cell? ⟨w.heap.size+1,10,none⟩=some (.bool q.hasUser):=CC.out q b _ 10 _ _ S1.out.q rfl
       have x11:w1.cell? ⟨w.heap.size,11,none⟩=some (.string (bs p.user)):=CC.out p a _ 11 _ _ S1.out.p rfl
       have y11:w1.cell? ⟨w.heap.size+1,11,none⟩=some (.string (bs q.user)):=CC.out q b _ 11 _ _ S1.out.q rfl
       have x12:w1.cell? ⟨w.heap.size,12,none⟩=some (.bool p.hasPass):=CC.out p a _ 12 _ _ S1.out.p rfl
       have y12:w1.cell? ⟨w.heap.size+1,12,none⟩=some (.bool q.hasPass):=CC.out q b _ 12 _ _ S1.out.q rfl
       have x13:w1.cell? ⟨w.heap.size,13,none⟩=some (.string (bs p.pass)):=CC.out p a _ 13 _ _ S1.out.p rfl
       have y13:w1.cell? ⟨w.heap.size+1,13,none⟩=some (.string (bs q.pass)):=CC.out q b _ 13 _ _ S1.out.q rfl
       have x14:w1.cell? ⟨w.heap.size,14,none⟩=some (.bool p.hasWill):=CC.out p a _ 14 _ _ S1.out.p rfl
       have y14:w1.cell? ⟨w.heap.size+1,14,none⟩=some (.bool q.hasWill):=CC.out q b _ 14 _ _ S1.out.q rfl
       have x20:w1.cell? ⟨w.heap.size,20,none⟩=some (.bool p.session):=CC.out p a _ 20 _ _ S1.out.p rfl
       have y20:w1.cell? ⟨w.heap.size+1,20,none⟩=some (.bool q.session):=CC.out q b _ 20 _ _ S1.out.q rfl
       have x21:w1.cell? ⟨w.heap.size,21,none⟩=some (.int .i64 p.code):=CC.out p a _ 21 _ _ S1.out.p rfl
       have y21:w1.cell? ⟨w.heap.size+1,21,none⟩=some (.int .i64 q.code):=CC.out q b _ 21 _ _ S1.out.q rfl
       have x22:w1.cell? ⟨w.heap.size,22,none⟩=some (.slice a.cs p.codes.length a.cc):=CC.out p a _ 22 _ _ S1.out.p rfl
       have y22:w1.cell? ⟨w.heap.size+1,22,none⟩=some (.slice b.cs q.codes.length b.cc):=CC.out q b _ 22 _ _ S1.out.q rfl
       have x23:w1.cell? ⟨w.heap.size,23,none⟩=some (.slice a.fs p.filters.length a.fc):=CC.out p a _ 23 _ _ S1.out.p rfl
       have y23:w1.cell? ⟨w.heap.size+1,23,none⟩=some (.slice b.fs q.filters.length b.fc):=CC.out q b _ 23 _ _ S1.out.q rfl
       have x24:w1.cell? ⟨w.heap.size,24,none⟩=some (.slice a.ps p.props.length a.pc):=CC.out p a _ 24 _ _ S1.out.p rfl
       have y24:w1.cell? ⟨w.heap.size+1,24,none⟩=some (.slice b.ps q.props.length b.pc):=CC.out q b _ 24 _ _ S1.out.q rfl
       by_cases e_kind:p.kind=q.kind
       ·rw[←e_kind] at y0
        have E_kind:=Lib.hid e_kind
        clear e_kind
        by_cases e_dup:p.dup=q.dup
        ·rw[←e_dup] at y1
         have E_dup:=Lib.hid e_dup
         clear e_dup
         by_cases e_retain:p.retain=q.retain
         ·rw[←e_retain] at y2
          have E_retain:=Lib.hid e_retain
          clear e_retain
          by_cases e_qos:p.qos=q.qos
          ·rw[←e_qos] at y3
           have E_qos:=Lib.hid e_qos
           clear e_qos
           by_cases e_id:p.id=q.id
           ·rw[←e_id] at y4
            have E_id:=Lib.hid e_id
            clear e_id
            by_cases e_topic:p.topic=q.topic
            ·rw[←e_topic] at y5
             have E_topic:=Lib.hid e_topic
             clear e_topic
             by_cases e_payload:p.payload=q.payload
             ·rw[←e_payload] at y6
              have E_payload:=Lib.hid e_payload
              clear e_payload
              by_cases e_clean:p.clean=q.clean
              ·rw[←e_clean] at y7
               have E_clean:=Lib.hid e_clean
               clear e_clean
               by_cases e_keep:p.keep=q.keep
               ·rw[←e_keep] at y8
                have E_keep:=Lib.hid e_keep
                clear e_keep
                by_cases e_client:p.client=q.client
                ·rw[←e_client] at y9
                 have E_client:=Lib.hid e_client
                 clear e_client
                 by_cases e_hasUser:p.hasUser=q.hasUser
                 ·rw[←e_hasUser] at y10
                  have E_hasUser:=Lib.hid e_hasUser
                  clear e_hasUser
                  by_cases e_user:p.user=q.user
                  ·rw[←e_user] at y11
                   have E_user:=Lib.hid e_user
                   clear e_user
                   by_cases e_hasPass:p.hasPass=q.hasPass
                   ·rw[←e_hasPass] at y12
                    have E_hasPass:=Lib.hid e_hasPass
                    clear e_hasPass
                    by_cases e_pass:p.pass=q.pass
                    ·rw[←e_pass] at y13
                     have E_pass:=Lib.hid e_pass
                     clear e_pass
                     by_cases e_hasWill:p.hasWill=q.hasWill
                     ·rw[←e_hasWill] at y14
                      have E_hasWill:=Lib.hid e_hasWill
                      clear e_hasWill
                      by_cases e_session:p.session=q.session
                      ·rw[←e_session] at y20
                       have E_session:=Lib.hid e_session
                       clear e_session
                       by_cases e_code:p.code=q.code
                       ·rw[←e_code] at y21
                        have E_code:=Lib.hid e_code
                        clear e_code
                        have HA:p.codes=q.codes→p.filters=q.filters→p.props=q.props→D=true:=fun h1 h2 h3=>by
                         rw[←HD.out]
                         refine decide_eq_true (HI.out ⟨?_,?_,?_,h1,h2,h3,E_wProps.out⟩)
                         ·simp only[Pk.nums,E_kind.out,E_qos.out,E_id.out,E_keep.out,E_code.out,E_wQos.out]
                         ·simp only[Pk.marks,E_dup.out,E_retain.out,E_clean.out,E_hasUser.out,E_hasPass.out,E_hasWill.out,E_session.out,E_wRetain.out]
                         ·simp only[Pk.texts,E_topic.out,E_payload.out,E_client.out,E_user.out,E_pass.out,E_wTopic.out,E_wPayload.out]
                        have HA:=Lib.hid HA
                        generalize p.kind=u_kind at x0 y0
                        generalize p.dup=u_dup at x1 y1
                        generalize p.retain=u_retain at x2 y2
                        generalize p.qos=u_qos at x3 y3
                        generalize p.id=u_id at x4 y4
                        generalize bs p.topic=u_topic at x5 y5
                        generalize bs p.payload=u_payload at x6 y6
                        generalize p.clean=u_clean at x7 y7
                        generalize p.keep=u_keep at x8 y8
                        generalize bs p.client=u_client at x9 y9
                        generalize p.hasUser=u_hasUser at x10 y10
                        generalize bs p.user=u_user at x11 y11
                        generalize p.hasPass=u_hasPass at x12 y12
                        generalize bs p.pass=u_pass at x13 y13
                        generalize p.hasWill=u_hasWill at x14 y14
                        generalize p.session=u_session at x20 y20
                        generalize p.code=u_code at x21 y21
                        by_cases e_codes:p.codes=q.codes
                        ·have K_codes:=Lib.hid (CP.out _ S1.out)
                         rw[decide_eq_true e_codes] at K_codes
                         have E_codes:=Lib.hid e_codes
                         clear e_codes
                         go_wp2_with fail
                         refine(K_codes.out).mono ?_
                         rintro e w2 ⟨rfl,m2,rfl⟩
                         have S2:=Lib.hid (S1.out.call (qnpu (Below.refl _ _) m2))
                         by_cases e_filters:p.filters=q.filters
                         ·have K_filters:=Lib.hid (FP.out _ S2.out)
                          rw[decide_eq_true e_filters] at K_filters
                          have E_filters:=Lib.hid e_filters
                          clear e_filters
                          go_wp2_with fail
                          refine(K_filters.out).mono ?_
                          rintro e w3 ⟨rfl,m3,rfl⟩
                          have S3:=Lib.hid (S2.out.call (qnpu (Below.refl _ _) m3))
                          by_cases e_props:p.props=q.props
                          ·have hd:D=true:=HA.out E_codes.out E_filters.out e_props
                           subst hd
                           have K_props:=Lib.hid (PP.out _ (S1.out.call (qnpu (Below.refl _ _) (m2+m3))))
                           rw[decide_eq_true e_props] at K_props
                           have E_props:=Lib.hid e_props
                           clear e_props
                           go_wp2_with fail
                           refine(K_props.out).mono ?_
                           rintro e w4 ⟨rfl,m4,rfl⟩
                           have S4:=Lib.hid (S3.out.call (qnpu (Below.refl _ _) m4))
                           go_wp2_with fail
                           go_ret
                           exact⟨rfl,(S1.out.call (qnpu (Below.refl _ _) _)).low⟩
                          ·have K_props:=Lib.hid (PP.out _ (S1.out.call (qnpu (Below.refl _ _) (m2+m3))))
                           rw[decide_eq_false e_props] at K_props
                           have E_props:=Lib.hid e_props
                           clear e_props
                           go_wp2_with fail
                           refine(K_props.out).mono ?_
                           rintro e w4 ⟨rfl,m4,rfl⟩
                           have S4:=Lib.hid (S3.out.call (qnpu (Below.refl _ _) m4))
                           have hd:D=false:=by rw[←HD.out];exact qfa9 (·.props) E_props.out
                           subst hd
                           go_wp2_with fail
                           go_ret
                           exact⟨rfl,(S1.out.call (qnpu (Below.refl _ _) _)).low⟩
                         ·have K_filters:=Lib.hid (FP.out _ S2.out)
                          rw[decide_eq_false e_filters] at K_filters
                          have E_filters:=Lib.hid e_filters
                          clear e_filters
                          go_wp2_with fail
                          refine(K_filters.out).mono ?_
                          rintro e w3 ⟨rfl,m3,rfl⟩
                          have S3:=Lib.hid (S2.out.call (qnpu (Below.refl _ _) m3))
                          have hd:D=false:=by rw[←HD.out];exact qfa9 (·.filters) E_filters.out
                          subst hd
                          go_wp2_with fail
                          go_ret
                          exact⟨rfl,(S1.out.call (qnpu (Below.refl _ _) _)).low⟩
                        ·have K_codes:=Lib.hid (CP.out _ S1.out)
                         rw[decide_eq_false e_codes] at K_codes
                         have E_codes:=Lib.hid e_codes
                         clear e_codes
                         go_wp2_with fail
                         refine(K_codes.out).mono ?_
                         rintro e w2 ⟨rfl,m2,rfl⟩
                         have S2:=Lib.hid (S1.out.call (qnpu (Below.refl _ _) m2))
                         have hd:D=false:=by rw[←HD.out];exact qfa9 (·.codes) E_codes.out
                         subst hd
                         go_wp2_with fail
                         go_ret
                         exact⟨rfl,(S1.out.call (qnpu (Below.refl _ _) _)).low⟩
                       ·have hd:D=false:=by rw[←HD.out];exact qfa9 (·.code) e_code
                        subst hd
                        have n0:(p.code==q.code)=false:=by rw[beq_eq_false_iff_ne];exact e_code
                        have n1:(p.code != q.code)=true:=by rw[bne_iff_ne];exact e_code
                        clear e_code
                        generalize bs p.client=u_client at x9 y9
                        generalize p.hasUser=u_hasUser at x10 y10
                        generalize bs p.user=u_user at x11 y11
                        generalize p.hasPass=u_hasPass at x12 y12
                        generalize bs p.pass=u_pass at x13 y13
                        generalize p.hasWill=u_hasWill at x14 y14
                        generalize p.session=u_session at x20 y20
                        generalize p.code=u_code at x21 n0 n1
                        generalize q.code=v_code at y21 n0 n1
                        go_wp2_with fail
                        go_ret
                        exact⟨rfl,S1.out.low⟩
                      ·have hd:D=false:=by rw[←HD.out];exact qfa9 (·.session) e_session
                       subst hd
                       have n0:(p.session==q.session)=false:=by rw[beq_eq_false_iff_ne];exact e_session
                       have n1:(p.session != q.session)=true:=by rw[bne_iff_ne];exact e_session
                       clear e_session
                       generalize bs p.client=u_client at x9 y9
                       generalize p.hasUser=u_hasUser at x10 y10
                       generalize bs p.user=u_user at x11 y11
                       generalize p.hasPass=u_hasPass at x12 y12
                       generalize bs p.pass=u_pass at x13 y13
                       generalize p.hasWill=u_hasWill at x14 y14
                       generalize p.session=u_session at x20 n0 n1
                       generalize q.session=v_session at y20 n0 n1
                       go_wp2_with fail
                       go_ret
                       exact⟨rfl,S1.out.low⟩
                     ·have hd:D=false:=by rw[←HD.out];exact qfa9 (·.hasWill) e_hasWill
                      subst hd
                      have n0:(p.hasWill==q.hasWill)=false:=by rw[beq_eq_false_iff_ne];exact e_hasWill
                      have n1:(p.hasWill != q.hasWill)=true:=by rw[bne_iff_ne];exact e_hasWill
                      clear e_hasWill
                      generalize bs p.client=u_client at x9 y9
                      generalize p.hasUser=u_hasUser at x10 y10
                      generalize bs p.user=u_user at x11 y11
                      generalize p.hasPass=u_hasPass at x12 y12
                      generalize bs p.pass=u_pass at x13 y13
                      generalize p.hasWill=u_hasWill at x14 n0 n1
                      generalize q.hasWill=v_hasWill at y14 n0 n1
                      go_wp2_with fail
                      go_ret
                      exact⟨rfl,S1.out.low⟩
                    ·have hd:D=false:=by rw[←HD.out];exact qfa9 (·.pass) e_pass
                     subst hd
                     have n0:((bs p.pass).toList==(bs q.pass).toList)=false:=by rw[q0c6,q0c6,beq_eq_false_iff_ne];exact e_pass
                     have n1:((bs p.pass).toList != (bs q.pass).toList)=true:=by rw[q0c6,q0c6,bne_iff_ne];exact e_pass
                     clear e_pass
                     generalize bs p.client=u_client at x9 y9
                     generalize p.hasUser=u_hasUser at x10 y10
                     generalize bs p.user=u_user at x11 y11
                     generalize p.hasPass=u_hasPass at x12 y12
                     generalize bs p.pass=u_pass at x13 n0 n1
                     generalize bs q.pass=v_pass at y13 n0 n1
                     go_wp2_with fail
                     go_ret
                     exact⟨rfl,S1.out.low⟩
                   ·have hd:D=false:=by rw[←HD.out];exact qfa9 (·.hasPass) e_hasPass
                    subst hd
                    have n0:(p.hasPass==q.hasPass)=false:=by rw[beq_eq_false_iff_ne];exact e_hasPass
                    have n1:(p.hasPass != q.hasPass)=true:=by rw[bne_iff_ne];exact e_hasPass
                    clear e_hasPass
                    generalize bs p.client=u_client at x9 y9
                    generalize p.hasUser=u_hasUser at x10 y10
                    generalize bs p.user=u_user at x11 y11
                    generalize p.hasPass=u_hasPass at x12 n0 n1
                    generalize q.hasPass=v_hasPass at y12 n0 n1
                    go_wp2_with fail
                    go_ret
                    exact⟨rfl,S1.out.low⟩
                  ·have hd:D=false:=by rw[←HD.out];exact qfa9 (·.user) e_user
                   subst hd
                   have n0:((bs p.user).toList==(bs q.user).toList)=false:=by rw[q0c6,q0c6,beq_eq_false_iff_ne];exact e_user
                   have n1:((bs p.user).toList != (bs q.user).toList)=true:=by rw[q0c6,q0c6,bne_iff_ne];exact e_user
                   clear e_user
                   generalize bs p.client=u_client at x9 y9
                   generalize p.hasUser=u_hasUser at x10 y10
                   generalize bs p.user=u_user at x11 n0 n1
                   generalize bs q.user=v_user at y11 n0 n1
                   go_wp2_with fail
                   go_ret
                   exact⟨rfl,S1.out.low⟩
                 ·have hd:D=false:=by rw[←HD.out];exact qfa9 (·.hasUser) e_hasUser
                  subst hd
                  have n0:(p.hasUser==q.hasUser)=false:=by rw[beq_eq_false_iff_ne];exact e_hasUser
                  have n1:(p.hasUser != q.hasUser)=true:=by rw[bne_iff_ne];exact e_hasUser
                  clear e_hasUser
                  generalize bs p.client=u_client at x9 y9
                  generalize p.hasUser=u_hasUser at x10 n0 n1
                  generalize q.hasUser=v_hasUser at y10 n0 n1
                  go_wp2_with fail
                  go_ret
                  exact⟨rfl,S1.out.low⟩
                ·have hd:D=false:=by rw[←HD.out];exact qfa9 (·.client) e_client
                 subst hd
                 have n0:((bs p.client).toList==(bs q.client).toList)=false:=by rw[q0c6,q0c6,beq_eq_false_iff_ne];exact e_client
                 have n1:((bs p.client).toList != (bs q.client).toList)=true:=by rw[q0c6,q0c6,bne_iff_ne];exact e_client
                 clear e_client
                 generalize bs p.client=u_client at x9 n0 n1
                 generalize bs q.client=v_client at y9 n0 n1
                 go_wp2_with fail
                 go_ret
                 exact⟨rfl,S1.out.low⟩
               ·have hd:D=false:=by rw[←HD.out];exact qfa9 (·.keep) e_keep
                subst hd
                have n0:(p.keep==q.keep)=false:=by rw[beq_eq_false_iff_ne];exact e_keep
                have n1:(p.keep != q.keep)=true:=by rw[bne_iff_ne];exact e_keep
                clear e_keep
                generalize p.kind=u_kind at x0 y0
                generalize p.dup=u_dup at x1 y1
                generalize p.retain=u_retain at x2 y2
                generalize p.qos=u_qos at x3 y3
                generalize p.id=u_id at x4 y4
                generalize bs p.topic=u_topic at x5 y5
                generalize bs p.payload=u_payload at x6 y6
                generalize p.clean=u_clean at x7 y7
                generalize p.keep=u_keep at x8 n0 n1
                generalize q.keep=v_keep at y8 n0 n1
                go_wp2_with fail
                go_ret
                exact⟨rfl,S1.out.low⟩
              ·have hd:D=false:=by rw[←HD.out];exact qfa9 (·.clean) e_clean
               subst hd
               have n0:(p.clean==q.clean)=false:=by rw[beq_eq_false_iff_ne];exact e_clean
               have n1:(p.clean != q.clean)=true:=by rw[bne_iff_ne];exact e_clean
               clear e_clean
               generalize p.kind=u_kind at x0 y0
               generalize p.dup=u_dup at x1 y1
               generalize p.retain=u_retain at x2 y2
               generalize p.qos=u_qos at x3 y3
               generalize p.id=u_id at x4 y4
               generalize bs p.topic=u_topic at x5 y5
               generalize bs p.payload=u_payload at x6 y6
               generalize p.clean=u_clean at x7 n0 n1
               generalize q.clean=v_clean at y7 n0 n1
               go_wp2_with fail
               go_ret
               exact⟨rfl,S1.out.low⟩
             ·have hd:D=false:=by rw[←HD.out];exact qfa9 (·.payload) e_payload
              subst hd
              have n0:((bs p.payload).toList==(bs q.payload).toList)=false:=by rw[q0c6,q0c6,beq_eq_false_iff_ne];exact e_payload
              have n1:((bs p.payload).toList != (bs q.payload).toList)=true:=by rw[q0c6,q0c6,bne_iff_ne];exact e_payload
              clear e_payload
              generalize p.kind=u_kind at x0 y0
              generalize p.dup=u_dup at x1 y1
              generalize p.retain=u_retain at x2 y2
              generalize p.qos=u_qos at x3 y3
              generalize p.id=u_id at x4 y4
              generalize bs p.topic=u_topic at x5 y5
              generalize bs p.payload=u_payload at x6 n0 n1
              generalize bs q.payload=v_payload at y6 n0 n1
              go_wp2_with fail
              go_ret
              exact⟨rfl,S1.out.low⟩
            ·have hd:D=false:=by rw[←HD.out];exact qfa9 (·.topic) e_topic
             subst hd
             have n0:((bs p.topic).toList==(bs q.topic).toList)=false:=by rw[q0c6,q0c6,beq_eq_false_iff_ne];exact e_topic
             have n1:((bs p.topic).toList != (bs q.topic).toList)=true:=by rw[q0c6,q0c6,bne_iff_ne];exact e_topic
             clear e_topic
             generalize p.kind=u_kind at x0 y0
             generalize p.dup=u_dup at x1 y1
             generalize p.retain=u_retain at x2 y2
             generalize p.qos=u_qos at x3 y3
             generalize p.id=u_id at x4 y4
             generalize bs p.topic=u_topic at x5 n0 n1
             generalize bs q.topic=v_topic at y5 n0 n1
             go_wp2_with fail
             go_ret
             exact⟨rfl,S1.out.low⟩
           ·have hd:D=false:=by rw[←HD.out];exact qfa9 (·.id) e_id
            subst hd
            have n0:(p.id==q.id)=false:=by rw[beq_eq_false_iff_ne];exact e_id
            have n1:(p.id != q.id)=true:=by rw[bne_iff_ne];exact e_id
            clear e_id
            generalize p.kind=u_kind at x0 y0
            generalize p.dup=u_dup at x1 y1
            generalize p.retain=u_retain at x2 y2
            generalize p.qos=u_qos at x3 y3
            generalize p.id=u_id at x4 n0 n1
            generalize q.id=v_id at y4 n0 n1
            go_wp2_with fail
            go_ret
            exact⟨rfl,S1.out.low⟩
          ·have hd:D=false:=by rw[←HD.out];exact qfa9 (·.qos) e_qos
           subst hd
           have n0:(p.qos==q.qos)=false:=by rw[beq_eq_false_iff_ne];exact e_qos
           have n1:(p.qos != q.qos)=true:=by rw[bne_iff_ne];exact e_qos
           clear e_qos
           generalize p.kind=u_kind at x0 y0
           generalize p.dup=u_dup at x1 y1
           generalize p.retain=u_retain at x2 y2
           generalize p.qos=u_qos at x3 n0 n1
           generalize q.qos=v_qos at y3 n0 n1
           go_wp2_with fail
           go_ret
           exact⟨rfl,S1.out.low⟩
         ·have hd:D=false:=by rw[←HD.out];exact qfa9 (·.retain) e_retain
          subst hd
          have n0:(p.retain==q.retain)=false:=by rw[beq_eq_false_iff_ne];exact e_retain
          have n1:(p.retain != q.retain)=true:=by rw[bne_iff_ne];exact e_retain
          clear e_retain
          generalize p.kind=u_kind at x0 y0
          generalize p.dup=u_dup at x1 y1
          generalize p.retain=u_retain at x2 n0 n1
          generalize q.retain=v_retain at y2 n0 n1
          go_wp2_with fail
          go_ret
          exact⟨rfl,S1.out.low⟩
        ·have hd:D=false:=by rw[←HD.out];exact qfa9 (·.dup) e_dup
         subst hd
         have n0:(p.dup==q.dup)=false:=by rw[beq_eq_false_iff_ne];exact e_dup
         have n1:(p.dup != q.dup)=true:=by rw[bne_iff_ne];exact e_dup
         clear e_dup
         generalize p.kind=u_kind at x0 y0
         generalize p.dup=u_dup at x1 n0 n1
         generalize q.dup=v_dup at y1 n0 n1
         go_wp2_with fail
         go_ret
         exact⟨rfl,S1.out.low⟩
       ·have hd:D=false:=by rw[←HD.out];exact qfa9 (·.kind) e_kind
        subst hd
        have n0:(p.kind==q.kind)=false:=by rw[beq_eq_false_iff_ne];exact e_kind
        have n1:(p.kind != q.kind)=true:=by rw[bne_iff_ne];exact e_kind
        clear e_kind
        generalize p.kind=u_kind at x0 n0 n1
        generalize q.kind=v_kind at y0 n0 n1
        go_wp2_with fail
        go_ret
        exact⟨rfl,S1.out.low⟩
      ·have WQ:=Lib.hid (WP.out _ SS.out)
       rw[decide_eq_false e_wProps] at WQ
       have hd:D=false:=by rw[←HD.out];exact qfa9 (·.wProps) e_wProps
       subst hd
       clear e_wProps
       have L0:=Lib.hid SS.out
       generalize bs p.wTopic=u_wTopic at x0 y0
       generalize bs p.wPayload=u_wPayload at x1 y1
       generalize p.wQos=u_wQos at x2 y2
       generalize p.wRetain=u_wRetain at x3 y3
       go_wp2_with fail
       refine(WQ.out).mono ?_
       rintro e w1 ⟨rfl,m,hw1⟩
       have S1:=Lib.hid (show SmS w p a q b w1 by rw[hw1];exact SS.out.call (qnpu (Below.refl _ _) m))
       clear hw1 x0 x1 x2 x3 x4 y0 y1 y2 y3 y4
       go_wp2_with fail
       go_ret
       exact⟨rfl,S1.out.low⟩
     ·have hd:D=false:=by rw[←HD.out];exact qfa9 (·.wRetain) e_wRetain
      subst hd
      have n0:(p.wRetain==q.wRetain)=false:=by rw[beq_eq_false_iff_ne];exact e_wRetain
      have n1:(p.wRetain != q.wRetain)=true:=by rw[bne_iff_ne];exact e_wRetain
      clear e_wRetain
      generalize bs p.wTopic=u_wTopic at x0 y0
      generalize bs p.wPayload=u_wPayload at x1 y1
      generalize p.wQos=u_wQos at x2 y2
      generalize p.wRetain=u_wRetain at x3 n0 n1
      generalize q.wRetain=v_wRetain at y3 n0 n1
      go_wp2_with fail
      go_ret
      exact⟨rfl,SS.out.low⟩
    ·have hd:D=false:=by rw[←HD.out];exact qfa9 (·.wQos) e_wQos
     subst hd
     have n0:(p.wQos==q.wQos)=false:=by rw[beq_eq_false_iff_ne];exact e_wQos
     have n1:(p.wQos != q.wQos)=true:=by rw[bne_iff_ne];exact e_wQos
     clear e_wQos
     generalize bs p.wTopic=u_wTopic at x0 y0
     generalize bs p.wPayload=u_wPayload at x1 y1
     generalize p.wQos=u_wQos at x2 n0 n1
     generalize q.wQos=v_wQos at y2 n0 n1
     go_wp2_with fail
     go_ret
     exact⟨rfl,SS.out.low⟩
   ·have hd:D=false:=by rw[←HD.out];exact qfa9 (·.wPayload) e_wPayload
    subst hd
    have n0:((bs p.wPayload).toList==(bs q.wPayload).toList)=false:=by rw[q0c6,q0c6,beq_eq_false_iff_ne];exact e_wPayload
    have n1:((bs p.wPayload).toList != (bs q.wPayload).toList)=true:=by rw[q0c6,q0c6,bne_iff_ne];exact e_wPayload
    clear e_wPayload
    generalize bs p.wTopic=u_wTopic at x0 y0
    generalize bs p.wPayload=u_wPayload at x1 n0 n1
    generalize bs q.wPayload=v_wPayload at y1 n0 n1
    go_wp2_with fail
    go_ret
    exact⟨rfl,SS.out.low⟩
  ·have hd:D=false:=by rw[←HD.out];exact qfa9 (·.wTopic) e_wTopic
   subst hd
   have n0:((bs p.wTopic).toList==(bs q.wTopic).toList)=false:=by rw[q0c6,q0c6,beq_eq_false_iff_ne];exact e_wTopic
   have n1:((bs p.wTopic).toList != (bs q.wTopic).toList)=true:=by rw[q0c6,q0c6,bne_iff_ne];exact e_wTopic
   clear e_wTopic
   generalize bs p.wTopic=u_wTopic at x0 n0 n1
   generalize bs q.wTopic=v_wTopic at y0 n0 n1
   go_wp2_with fail
   go_ret
   exact⟨rfl,SS.out.low⟩
end Go.Proofs.YtbklidpadffpgaaGreat
