/- The regions of SubscribeOptions. Condition: none. -/
import Derived.Test.YtbecggefmbpnoaaGreatDoorK38
import Derived.Test.YtbecggefmbpnoaaGreatDoorK13
import Derived.Test.YtbecggefmbpnoaaGreatDoorK50
set_option maxRecDepth 100000
set_option maxHeartbeats 8000000
namespace Go.Proofs.YtbecggefmbpnoaaGreatDoor
open Go.RowKit
theorem qip0{Q:Exit→Act→World→Prop}{S:World→Prop}{W:World}{B:Nat}{f:Fi}{sh st:Bool}{x0 x1 x3 x4 x5 x6 x7 x8 x10 x11 x12 x13 x14 x15 x16 x17 x18 x19 x20 x21 x22 x23 x24 x25 x26 x27 x28 x29 x30 x31 x32 x33 x34 x35 x36 x37 x38 x39 x40 x41 x42 x43 x44 x45 x46 x47 x48 x49 x50 x51 x52 x53 x54 x55 x56 x57 x58 x59 x60 x61 x62 x63 x64 x65 x66 x67 x68 x69 x70 x71 x72 x73 x74 x75 x76 x77 x78 x79 x80 x81 x82 x83 x84 x85 x86 x87 x88 x89 x90 x91 x92 x93 x94 x95 x96 x97 x98 x99 x100 x101 x102 x103 x104 x105 x106 x107 x108 x109 x110 x111 x112 x113 x114 x115 x116 x117 x118 x119 x120 x121 x122 x123 x124 x125 x126 x127 x128 x129 x130:Value}
 (hS:S W)
 (K1:∀w,S w→w.cell? ⟨B,1,none⟩=some (.int .i64 f.qos)) (K2:∀w,S w→w.cell? ⟨B,2,none⟩=some (.bool f.noLocal)) (K4:∀w,S w→w.cell? ⟨B,4,none⟩=some (.int .i64 f.handling))
 (hs:sh=st)
 (fin:∀(r:Bool) (w:World),((decide (0≤f.qos))&&(decide (f.qos≤2))&&(decide (0≤f.handling))&&(decide (f.handling≤2))&&!((f.noLocal)&&st))=r→S w→∀x39 x40 x41 x42 x43 x44 x45 x46 x47 x48 x49 x50 x51 x52 x53 x54 x55 x56 x57 x58 x59 x60 x61 x62 x63 x64,Q .normal ⟨#[x0,x1,(.pointer (some ⟨B,0,none⟩)),x3,x4,x5,x6,x7,x8,(.bool sh),(.bool r),x11,x12,x13,x14,x15,x16,x17,x18,x19,x20,x21,x22,x23,x24,x25,x26,x27,x28,x29,x30,x31,x32,x33,x34,x35,x36,x37,x38,x39,x40,x41,x42,x43,x44,x45,x46,x47,x48,x49,x50,x51,x52,x53,x54,x55,x56,x57,x58,x59,x60,x61,x62,x63,x64,x65,x66,x67,x68,x69,x70,x71,x72,x73,x74,x75,x76,x77,x78,x79,x80,x81,x82,x83,x84,x85,x86,x87,x88,x89,x90,x91,x92,x93,x94,x95,x96,x97,x98,x99,x100,x101,x102,x103,x104,x105,x106,x107,x108,x109,x110,x111,x112,x113,x114,x115,x116,x117,x118,x119,x120,x121,x122,x123,x124,x125,x126,x127,x128,x129,x130],[]⟩ w) :
 (Code.region 8 (qfhu.opsAt 8 Tryz.f6.body) false).wp Tryz.prog Q ⟨#[x0,x1,(.pointer (some ⟨B,0,none⟩)),x3,x4,x5,x6,x7,x8,(.bool sh),x10,x11,x12,x13,x14,x15,x16,x17,x18,x19,x20,x21,x22,x23,x24,x25,x26,x27,x28,x29,x30,x31,x32,x33,x34,x35,x36,x37,x38,x39,x40,x41,x42,x43,x44,x45,x46,x47,x48,x49,x50,x51,x52,x53,x54,x55,x56,x57,x58,x59,x60,x61,x62,x63,x64,x65,x66,x67,x68,x69,x70,x71,x72,x73,x74,x75,x76,x77,x78,x79,x80,x81,x82,x83,x84,x85,x86,x87,x88,x89,x90,x91,x92,x93,x94,x95,x96,x97,x98,x99,x100,x101,x102,x103,x104,x105,x106,x107,x108,x109,x110,x111,x112,x113,x114,x115,x116,x117,x118,x119,x120,x121,x122,x123,x124,x125,x126,x127,x128,x129,x130],[]⟩ W:=by
 obtain⟨d0,ed0⟩:∃d,(decide (0≤f.qos))=d:=⟨_,rfl⟩
 obtain⟨d1,ed1⟩:∃d,(decide (f.qos≤2))=d:=⟨_,rfl⟩
 obtain⟨d2,ed2⟩:∃d,(decide (0≤f.handling))=d:=⟨_,rfl⟩
 obtain⟨d3,ed3⟩:∃d,(decide (f.handling≤2))=d:=⟨_,rfl⟩
 obtain⟨d4,ed4⟩:∃d,(f.noLocal)=d:=⟨_,rfl⟩
 obtain⟨d5,ed5⟩:∃d,(st)=d:=⟨_,rfl⟩
 rw[ed0,ed1,ed2,ed3,ed4,ed5] at fin
 rw[ed4] at K2
 cases d0
 case' false=>
  refine qq8x.wp_in (ds:=[39,40,41,42,43,44,45,46,47,48,49,50,51,52,53,54,55,56,57,58,59,60,61,62,63,64,10]) (B:=[x0,x1,(.pointer (some ⟨B,0,none⟩)),x3,x4,x5,x6,x7,x8,(.bool sh),(.bool false),x11,x12,x13,x14,x15,x16,x17,x18,x19,x20,x21,x22,x23,x24,x25,x26,x27,x28,x29,x30,x31,x32,x33,x34,x35,x36,x37,x38,(.pointer (some ⟨B,1,none⟩)),(.int .i64 f.qos),(.bool false),(.bool false),undef,undef,undef,(.bool false),(.bool false),undef,undef,undef,(.bool false),(.bool false),undef,undef,undef,(.bool false),(.bool false),undef,undef,undef,undef,undef,undef,(.bool false),x65,x66,x67,x68,x69,x70,x71,x72,x73,x74,x75,x76,x77,x78,x79,x80,x81,x82,x83,x84,x85,x86,x87,x88,x89,x90,x91,x92,x93,x94,x95,x96,x97,x98,x99,x100,x101,x102,x103,x104,x105,x106,x107,x108,x109,x110,x111,x112,x113,x114,x115,x116,x117,x118,x119,x120,x121,x122,x123,x124,x125,x126,x127,x128,x129,x130]) (D:=[]) (by kernel_rfl) (by kernel_rfl) ?_ hS ?_ (fun w hS=>fin false w rfl hS _ _ _ _ _ _ _ _ _ _ _ _ _ _ _ _ _ _ _ _ _ _ _ _ _ _)
 case' true=>
  cases d1
  case' false=>
   refine qq8x.wp_in (ds:=[39,40,41,42,43,44,45,46,47,48,49,50,51,52,53,54,55,56,57,58,59,60,61,62,63,64,10]) (B:=[x0,x1,(.pointer (some ⟨B,0,none⟩)),x3,x4,x5,x6,x7,x8,(.bool sh),(.bool false),x11,x12,x13,x14,x15,x16,x17,x18,x19,x20,x21,x22,x23,x24,x25,x26,x27,x28,x29,x30,x31,x32,x33,x34,x35,x36,x37,x38,(.pointer (some ⟨B,1,none⟩)),(.int .i64 f.qos),(.bool true),(.bool true),(.pointer (some ⟨B,1,none⟩)),(.int .i64 f.qos),(.bool false),(.bool false),(.bool false),undef,undef,undef,(.bool false),(.bool false),undef,undef,undef,(.bool false),(.bool false),undef,undef,undef,undef,undef,undef,(.bool false),x65,x66,x67,x68,x69,x70,x71,x72,x73,x74,x75,x76,x77,x78,x79,x80,x81,x82,x83,x84,x85,x86,x87,x88,x89,x90,x91,x92,x93,x94,x95,x96,x97,x98,x99,x100,x101,x102,x103,x104,x105,x106,x107,x108,x109,x110,x111,x112,x113,x114,x115,x116,x117,x118,x119,x120,x121,x122,x123,x124,x125,x126,x127,x128,x129,x130]) (D:=[]) (by kernel_rfl) (by kernel_rfl) ?_ hS ?_ (fun w hS=>fin false w rfl hS _ _ _ _ _ _ _ _ _ _ _ _ _ _ _ _ _ _ _ _ _ _ _ _ _ _)
  case' true=>
   cases d2
   case' false=>
    refine qq8x.wp_in (ds:=[39,40,41,42,43,44,45,46,47,48,49,50,51,52,53,54,55,56,57,58,59,60,61,62,63,64,10]) (B:=[x0,x1,(.pointer (some ⟨B,0,none⟩)),x3,x4,x5,x6,x7,x8,(.bool sh),(.bool false),x11,x12,x13,x14,x15,x16,x17,x18,x19,x20,x21,x22,x23,x24,x25,x26,x27,x28,x29,x30,x31,x32,x33,x34,x35,x36,x37,x38,(.pointer (some ⟨B,1,none⟩)),(.int .i64 f.qos),(.bool true),(.bool true),(.pointer (some ⟨B,1,none⟩)),(.int .i64 f.qos),(.bool true),(.bool true),(.bool true),(.pointer (some ⟨B,4,none⟩)),(.int .i64 f.handling),(.bool false),(.bool false),(.bool false),undef,undef,undef,(.bool false),(.bool false),undef,undef,undef,undef,undef,undef,(.bool false),x65,x66,x67,x68,x69,x70,x71,x72,x73,x74,x75,x76,x77,x78,x79,x80,x81,x82,x83,x84,x85,x86,x87,x88,x89,x90,x91,x92,x93,x94,x95,x96,x97,x98,x99,x100,x101,x102,x103,x104,x105,x106,x107,x108,x109,x110,x111,x112,x113,x114,x115,x116,x117,x118,x119,x120,x121,x122,x123,x124,x125,x126,x127,x128,x129,x130]) (D:=[]) (by kernel_rfl) (by kernel_rfl) ?_ hS ?_ (fun w hS=>fin false w rfl hS _ _ _ _ _ _ _ _ _ _ _ _ _ _ _ _ _ _ _ _ _ _ _ _ _ _)
   case' true=>
    cases d3
    case' false=>
     refine qq8x.wp_in (ds:=[39,40,41,42,43,44,45,46,47,48,49,50,51,52,53,54,55,56,57,58,59,60,61,62,63,64,10]) (B:=[x0,x1,(.pointer (some ⟨B,0,none⟩)),x3,x4,x5,x6,x7,x8,(.bool sh),(.bool false),x11,x12,x13,x14,x15,x16,x17,x18,x19,x20,x21,x22,x23,x24,x25,x26,x27,x28,x29,x30,x31,x32,x33,x34,x35,x36,x37,x38,(.pointer (some ⟨B,1,none⟩)),(.int .i64 f.qos),(.bool true),(.bool true),(.pointer (some ⟨B,1,none⟩)),(.int .i64 f.qos),(.bool true),(.bool true),(.bool true),(.pointer (some ⟨B,4,none⟩)),(.int .i64 f.handling),(.bool true),(.bool true),(.bool true),(.pointer (some ⟨B,4,none⟩)),(.int .i64 f.handling),(.bool false),(.bool false),(.bool false),undef,undef,undef,undef,undef,undef,(.bool false),x65,x66,x67,x68,x69,x70,x71,x72,x73,x74,x75,x76,x77,x78,x79,x80,x81,x82,x83,x84,x85,x86,x87,x88,x89,x90,x91,x92,x93,x94,x95,x96,x97,x98,x99,x100,x101,x102,x103,x104,x105,x106,x107,x108,x109,x110,x111,x112,x113,x114,x115,x116,x117,x118,x119,x120,x121,x122,x123,x124,x125,x126,x127,x128,x129,x130]) (D:=[]) (by kernel_rfl) (by kernel_rfl) ?_ hS ?_ (fun w hS=>fin false w rfl hS _ _ _ _ _ _ _ _ _ _ _ _ _ _ _ _ _ _ _ _ _ _ _ _ _ _)
    case' true=>
     cases d4
     case' false=>
      refine qq8x.wp_in (ds:=[39,40,41,42,43,44,45,46,47,48,49,50,51,52,53,54,55,56,57,58,59,60,61,62,63,64,10]) (B:=[x0,x1,(.pointer (some ⟨B,0,none⟩)),x3,x4,x5,x6,x7,x8,(.bool sh),(.bool true),x11,x12,x13,x14,x15,x16,x17,x18,x19,x20,x21,x22,x23,x24,x25,x26,x27,x28,x29,x30,x31,x32,x33,x34,x35,x36,x37,x38,(.pointer (some ⟨B,1,none⟩)),(.int .i64 f.qos),(.bool true),(.bool true),(.pointer (some ⟨B,1,none⟩)),(.int .i64 f.qos),(.bool true),(.bool true),(.bool true),(.pointer (some ⟨B,4,none⟩)),(.int .i64 f.handling),(.bool true),(.bool true),(.bool true),(.pointer (some ⟨B,4,none⟩)),(.int .i64 f.handling),(.bool true),(.bool true),(.bool true),(.pointer (some ⟨B,2,none⟩)),(.bool false),(.bool false),undef,(.bool false),(.bool true),(.bool true),x65,x66,x67,x68,x69,x70,x71,x72,x73,x74,x75,x76,x77,x78,x79,x80,x81,x82,x83,x84,x85,x86,x87,x88,x89,x90,x91,x92,x93,x94,x95,x96,x97,x98,x99,x100,x101,x102,x103,x104,x105,x106,x107,x108,x109,x110,x111,x112,x113,x114,x115,x116,x117,x118,x119,x120,x121,x122,x123,x124,x125,x126,x127,x128,x129,x130]) (D:=[]) (by kernel_rfl) (by kernel_rfl) ?_ hS ?_ (fun w hS=>fin true w rfl hS _ _ _ _ _ _ _ _ _ _ _ _ _ _ _ _ _ _ _ _ _ _ _ _ _ _)
     case' true=>
      cases d5
      case' false=>
       refine qq8x.wp_in (ds:=[39,40,41,42,43,44,45,46,47,48,49,50,51,52,53,54,55,56,57,58,59,60,61,62,63,64,10]) (B:=[x0,x1,(.pointer (some ⟨B,0,none⟩)),x3,x4,x5,x6,x7,x8,(.bool sh),(.bool true),x11,x12,x13,x14,x15,x16,x17,x18,x19,x20,x21,x22,x23,x24,x25,x26,x27,x28,x29,x30,x31,x32,x33,x34,x35,x36,x37,x38,(.pointer (some ⟨B,1,none⟩)),(.int .i64 f.qos),(.bool true),(.bool true),(.pointer (some ⟨B,1,none⟩)),(.int .i64 f.qos),(.bool true),(.bool true),(.bool true),(.pointer (some ⟨B,4,none⟩)),(.int .i64 f.handling),(.bool true),(.bool true),(.bool true),(.pointer (some ⟨B,4,none⟩)),(.int .i64 f.handling),(.bool true),(.bool true),(.bool true),(.pointer (some ⟨B,2,none⟩)),(.bool true),(.bool true),(.bool false),(.bool false),(.bool true),(.bool true),x65,x66,x67,x68,x69,x70,x71,x72,x73,x74,x75,x76,x77,x78,x79,x80,x81,x82,x83,x84,x85,x86,x87,x88,x89,x90,x91,x92,x93,x94,x95,x96,x97,x98,x99,x100,x101,x102,x103,x104,x105,x106,x107,x108,x109,x110,x111,x112,x113,x114,x115,x116,x117,x118,x119,x120,x121,x122,x123,x124,x125,x126,x127,x128,x129,x130]) (D:=[]) (by kernel_rfl) (by kernel_rfl) ?_ hS ?_ (fun w hS=>fin true w rfl hS _ _ _ _ _ _ _ _ _ _ _ _ _ _ _ _ _ _ _ _ _ _ _ _ _ _)
      case' true=>
       refine qq8x.wp_in (ds:=[39,40,41,42,43,44,45,46,47,48,49,50,51,52,53,54,55,56,57,58,59,60,61,62,63,64,10]) (B:=[x0,x1,(.pointer (some ⟨B,0,none⟩)),x3,x4,x5,x6,x7,x8,(.bool sh),(.bool false),x11,x12,x13,x14,x15,x16,x17,x18,x19,x20,x21,x22,x23,x24,x25,x26,x27,x28,x29,x30,x31,x32,x33,x34,x35,x36,x37,x38,(.pointer (some ⟨B,1,none⟩)),(.int .i64 f.qos),(.bool true),(.bool true),(.pointer (some ⟨B,1,none⟩)),(.int .i64 f.qos),(.bool true),(.bool true),(.bool true),(.pointer (some ⟨B,4,none⟩)),(.int .i64 f.handling),(.bool true),(.bool true),(.bool true),(.pointer (some ⟨B,4,none⟩)),(.int .i64 f.handling),(.bool true),(.bool true),(.bool true),(.pointer (some ⟨B,2,none⟩)),(.bool true),(.bool true),(.bool true),(.bool true),(.bool false),(.bool false),x65,x66,x67,x68,x69,x70,x71,x72,x73,x74,x75,x76,x77,x78,x79,x80,x81,x82,x83,x84,x85,x86,x87,x88,x89,x90,x91,x92,x93,x94,x95,x96,x97,x98,x99,x100,x101,x102,x103,x104,x105,x106,x107,x108,x109,x110,x111,x112,x113,x114,x115,x116,x117,x118,x119,x120,x121,x122,x123,x124,x125,x126,x127,x128,x129,x130]) (D:=[]) (by kernel_rfl) (by kernel_rfl) ?_ hS ?_ (fun w hS=>fin false w rfl hS _ _ _ _ _ _ _ _ _ _ _ _ _ _ _ _ _ _ _ _ _ _ _ _ _ _)
 all_goals first
  | (
   refine qfhu.pu rfl rfl rfl rfl (fun w hS=>q0b3 rfl) ?_
   refine qfhu.pu rfl rfl rfl rfl (fun w hS=>qnwy rfl (K1 w hS)) ?_
   refine qfhu.pu rfl rfl rfl rfl (fun w hS=>qpld rfl ed0) ?_
   refine qfhu.pu rfl rfl rfl rfl (fun w hS=>rfl) ?_
   first | refine qfhu.sk rfl rfl rfl rfl ?_ | refine qfhu.pu rfl rfl rfl rfl (fun w hS=>q0b3 rfl) ?_
   first | refine qfhu.sk rfl rfl rfl rfl ?_ | refine qfhu.pu rfl rfl rfl rfl (fun w hS=>qnwy rfl (K1 w hS)) ?_
   first | refine qfhu.sk rfl rfl rfl rfl ?_ | refine qfhu.pu rfl rfl rfl rfl (fun w hS=>qscj rfl ed1) ?_
   refine qfhu.pu rfl rfl rfl rfl (fun w hS=>rfl) ?_
   refine qfhu.pu rfl rfl rfl rfl (fun w hS=>rfl) ?_
   first | refine qfhu.sk rfl rfl rfl rfl ?_ | refine qfhu.pu rfl rfl rfl rfl (fun w hS=>q7bm rfl) ?_
   first | refine qfhu.sk rfl rfl rfl rfl ?_ | refine qfhu.pu rfl rfl rfl rfl (fun w hS=>qnwy rfl (K4 w hS)) ?_
   first | refine qfhu.sk rfl rfl rfl rfl ?_ | refine qfhu.pu rfl rfl rfl rfl (fun w hS=>qpld rfl ed2) ?_
   refine qfhu.pu rfl rfl rfl rfl (fun w hS=>rfl) ?_
   refine qfhu.pu rfl rfl rfl rfl (fun w hS=>rfl) ?_
   first | refine qfhu.sk rfl rfl rfl rfl ?_ | refine qfhu.pu rfl rfl rfl rfl (fun w hS=>q7bm rfl) ?_
   first | refine qfhu.sk rfl rfl rfl rfl ?_ | refine qfhu.pu rfl rfl rfl rfl (fun w hS=>qnwy rfl (K4 w hS)) ?_
   first | refine qfhu.sk rfl rfl rfl rfl ?_ | refine qfhu.pu rfl rfl rfl rfl (fun w hS=>qscj rfl ed3) ?_
   refine qfhu.pu rfl rfl rfl rfl (fun w hS=>rfl) ?_
   refine qfhu.pu rfl rfl rfl rfl (fun w hS=>rfl) ?_
   first | refine qfhu.sk rfl rfl rfl rfl ?_ | refine qfhu.pu rfl rfl rfl rfl (fun w hS=>qqv5 rfl) ?_
   first | refine qfhu.sk rfl rfl rfl rfl ?_ | refine qfhu.pu rfl rfl rfl rfl (fun w hS=>q7eg rfl (K2 w hS)) ?_
   first | refine qfhu.sk rfl rfl rfl rfl ?_ | refine qfhu.pu rfl rfl rfl rfl (fun w hS=>rfl) ?_
   first | refine qfhu.sk rfl rfl rfl rfl ?_ | refine qfhu.pu rfl rfl rfl rfl (fun w hS=>(by rw[hs,ed5];first | done | rfl)) ?_
   first | refine qfhu.sk rfl rfl rfl rfl ?_ | refine qfhu.pu rfl rfl rfl rfl (fun w hS=>rfl) ?_
   first | refine qfhu.sk rfl rfl rfl rfl ?_ | refine qfhu.pu rfl rfl rfl rfl (fun w hS=>qr7j rfl rfl) ?_
   refine qfhu.pu rfl rfl rfl rfl (fun w hS=>rfl) ?_
   refine qfhu.pu rfl rfl rfl rfl (fun w hS=>rfl) ?_
   exact qfhu.All.fin rfl)
  | exact(by repeat (first | exact trivial | refine⟨.inr rfl,?_⟩ | refine⟨.inl rfl,?_⟩))
theorem qwsp{Q:Exit→Act→World→Prop}{S:World→Prop}{W:World}{B:Nat}{f:Fi}{x0 x1 x3 x4 x5 x6 x7 x8 x9 x10 x11 x12 x13 x14 x15 x16 x17 x18 x19 x20 x21 x22 x23 x24 x25 x26 x27 x28 x29 x30 x31 x32 x33 x34 x35 x36 x37 x38 x39 x40 x41 x42 x43 x44 x45 x46 x47 x48 x49 x50 x51 x52 x53 x54 x55 x56 x57 x58 x59 x60 x61 x62 x63 x64 x65 x66 x67 x68 x69 x70 x71 x72 x73 x74 x75 x76 x77 x78 x79 x80 x81 x82 x83 x84 x85 x86 x87 x88 x89 x90 x91 x92 x93 x94 x95 x96 x97 x98 x99 x100 x101 x102 x103 x104 x105 x106 x107 x108 x109 x110 x111 x112 x113 x114 x115 x116 x117 x118 x119 x120 x121 x122 x123 x124 x125 x126 x127 x128 x129 x130:Value}
 (hS:S W)
 (K0:∀w,S w→w.cell? ⟨B,0,none⟩=some (.string (bs f.topic))) (K1:∀w,S w→w.cell? ⟨B,1,none⟩=some (.int .i64 f.qos)) (KR:∀w,S w→w.heap[B]? = some (.cells (fiC f) 32 (0,0)))
 (fin:∀(r:Bool) (w:World),((decide (0≤f.qos))&&(decide (f.qos≤2))&&(decide (f=(⟨f.topic,f.qos,false,false,0⟩:Fi))))=r→S w→∀x67 x68 x69 x70 x71 x72 x73 x74 x75 x76 x77 x78 x79 x80 x81 x82 x83,Q .normal ⟨#[x0,x1,(.pointer (some ⟨B,0,none⟩)),x3,x4,x5,x6,x7,x8,x9,(.bool r),x11,x12,x13,x14,x15,x16,x17,x18,x19,x20,x21,x22,x23,x24,x25,x26,x27,x28,x29,x30,x31,x32,x33,x34,x35,x36,x37,x38,x39,x40,x41,x42,x43,x44,x45,x46,x47,x48,x49,x50,x51,x52,x53,x54,x55,x56,x57,x58,x59,x60,x61,x62,x63,x64,x65,x66,x67,x68,x69,x70,x71,x72,x73,x74,x75,x76,x77,x78,x79,x80,x81,x82,x83,x84,x85,x86,x87,x88,x89,x90,x91,x92,x93,x94,x95,x96,x97,x98,x99,x100,x101,x102,x103,x104,x105,x106,x107,x108,x109,x110,x111,x112,x113,x114,x115,x116,x117,x118,x119,x120,x121,x122,x123,x124,x125,x126,x127,x128,x129,x130],[]⟩ w) :
 (Code.region 10 (qfhu.opsAt 10 Tryz.f6.body) false).wp Tryz.prog Q ⟨#[x0,x1,(.pointer (some ⟨B,0,none⟩)),x3,x4,x5,x6,x7,x8,x9,x10,x11,x12,x13,x14,x15,x16,x17,x18,x19,x20,x21,x22,x23,x24,x25,x26,x27,x28,x29,x30,x31,x32,x33,x34,x35,x36,x37,x38,x39,x40,x41,x42,x43,x44,x45,x46,x47,x48,x49,x50,x51,x52,x53,x54,x55,x56,x57,x58,x59,x60,x61,x62,x63,x64,x65,x66,x67,x68,x69,x70,x71,x72,x73,x74,x75,x76,x77,x78,x79,x80,x81,x82,x83,x84,x85,x86,x87,x88,x89,x90,x91,x92,x93,x94,x95,x96,x97,x98,x99,x100,x101,x102,x103,x104,x105,x106,x107,x108,x109,x110,x111,x112,x113,x114,x115,x116,x117,x118,x119,x120,x121,x122,x123,x124,x125,x126,x127,x128,x129,x130],[]⟩ W:=by
 obtain⟨d0,ed0⟩:∃d,(decide (0≤f.qos))=d:=⟨_,rfl⟩
 obtain⟨d1,ed1⟩:∃d,(decide (f.qos≤2))=d:=⟨_,rfl⟩
 obtain⟨e2,ee2⟩:∃d,(decide (f=(⟨f.topic,f.qos,false,false,0⟩:Fi)))=d:=⟨_,rfl⟩
 rw[ed0,ed1,ee2] at fin
 cases d0
 case' false=>
  refine qq8x.wp_in (ds:=[67,68,69,70,71,72,73,74,75,76,77,78,79,80,81,82,83,10]) (B:=[x0,x1,(.pointer (some ⟨B,0,none⟩)),x3,x4,x5,x6,x7,x8,x9,(.bool false),x11,x12,x13,x14,x15,x16,x17,x18,x19,x20,x21,x22,x23,x24,x25,x26,x27,x28,x29,x30,x31,x32,x33,x34,x35,x36,x37,x38,x39,x40,x41,x42,x43,x44,x45,x46,x47,x48,x49,x50,x51,x52,x53,x54,x55,x56,x57,x58,x59,x60,x61,x62,x63,x64,x65,x66,(.pointer (some ⟨B,1,none⟩)),(.int .i64 f.qos),(.bool false),(.bool false),undef,undef,undef,(.bool false),(.bool false),undef,undef,undef,undef,undef,undef,undef,(.bool false),x84,x85,x86,x87,x88,x89,x90,x91,x92,x93,x94,x95,x96,x97,x98,x99,x100,x101,x102,x103,x104,x105,x106,x107,x108,x109,x110,x111,x112,x113,x114,x115,x116,x117,x118,x119,x120,x121,x122,x123,x124,x125,x126,x127,x128,x129,x130]) (D:=[]) (by kernel_rfl) (by kernel_rfl) ?_ hS ?_ (fun w hS=>fin false w rfl hS _ _ _ _ _ _ _ _ _ _ _ _ _ _ _ _ _)
 case' true=>
  cases d1
  case' false=>
   refine qq8x.wp_in (ds:=[67,68,69,70,71,72,73,74,75,76,77,78,79,80,81,82,83,10]) (B:=[x0,x1,(.pointer (some ⟨B,0,none⟩)),x3,x4,x5,x6,x7,x8,x9,(.bool false),x11,x12,x13,x14,x15,x16,x17,x18,x19,x20,x21,x22,x23,x24,x25,x26,x27,x28,x29,x30,x31,x32,x33,x34,x35,x36,x37,x38,x39,x40,x41,x42,x43,x44,x45,x46,x47,x48,x49,x50,x51,x52,x53,x54,x55,x56,x57,x58,x59,x60,x61,x62,x63,x64,x65,x66,(.pointer (some ⟨B,1,none⟩)),(.int .i64 f.qos),(.bool true),(.bool true),(.pointer (some ⟨B,1,none⟩)),(.int .i64 f.qos),(.bool false),(.bool false),(.bool false),undef,undef,undef,undef,undef,undef,undef,(.bool false),x84,x85,x86,x87,x88,x89,x90,x91,x92,x93,x94,x95,x96,x97,x98,x99,x100,x101,x102,x103,x104,x105,x106,x107,x108,x109,x110,x111,x112,x113,x114,x115,x116,x117,x118,x119,x120,x121,x122,x123,x124,x125,x126,x127,x128,x129,x130]) (D:=[]) (by kernel_rfl) (by kernel_rfl) ?_ hS ?_ (fun w hS=>fin false w rfl hS _ _ _ _ _ _ _ _ _ _ _ _ _ _ _ _ _)
  case' true=>
   cases e2
   case' false=>
    refine qq8x.wp_in (ds:=[67,68,69,70,71,72,73,74,75,76,77,78,79,80,81,82,83,10]) (B:=[x0,x1,(.pointer (some ⟨B,0,none⟩)),x3,x4,x5,x6,x7,x8,x9,(.bool false),x11,x12,x13,x14,x15,x16,x17,x18,x19,x20,x21,x22,x23,x24,x25,x26,x27,x28,x29,x30,x31,x32,x33,x34,x35,x36,x37,x38,x39,x40,x41,x42,x43,x44,x45,x46,x47,x48,x49,x50,x51,x52,x53,x54,x55,x56,x57,x58,x59,x60,x61,x62,x63,x64,x65,x66,(.pointer (some ⟨B,1,none⟩)),(.int .i64 f.qos),(.bool true),(.bool true),(.pointer (some ⟨B,1,none⟩)),(.int .i64 f.qos),(.bool true),(.bool true),(.bool true),(.agg (fiC f)),(.pointer (some ⟨B,0,none⟩)),(.string (bs f.topic)),(.pointer (some ⟨B,1,none⟩)),(.int .i64 f.qos),(.agg (fiC ⟨f.topic,f.qos,false,false,0⟩)),(.bool false),(.bool false),x84,x85,x86,x87,x88,x89,x90,x91,x92,x93,x94,x95,x96,x97,x98,x99,x100,x101,x102,x103,x104,x105,x106,x107,x108,x109,x110,x111,x112,x113,x114,x115,x116,x117,x118,x119,x120,x121,x122,x123,x124,x125,x126,x127,x128,x129,x130]) (D:=[]) (by kernel_rfl) (by kernel_rfl) ?_ hS ?_ (fun w hS=>fin false w rfl hS _ _ _ _ _ _ _ _ _ _ _ _ _ _ _ _ _)
   case' true=>
    refine qq8x.wp_in (ds:=[67,68,69,70,71,72,73,74,75,76,77,78,79,80,81,82,83,10]) (B:=[x0,x1,(.pointer (some ⟨B,0,none⟩)),x3,x4,x5,x6,x7,x8,x9,(.bool true),x11,x12,x13,x14,x15,x16,x17,x18,x19,x20,x21,x22,x23,x24,x25,x26,x27,x28,x29,x30,x31,x32,x33,x34,x35,x36,x37,x38,x39,x40,x41,x42,x43,x44,x45,x46,x47,x48,x49,x50,x51,x52,x53,x54,x55,x56,x57,x58,x59,x60,x61,x62,x63,x64,x65,x66,(.pointer (some ⟨B,1,none⟩)),(.int .i64 f.qos),(.bool true),(.bool true),(.pointer (some ⟨B,1,none⟩)),(.int .i64 f.qos),(.bool true),(.bool true),(.bool true),(.agg (fiC f)),(.pointer (some ⟨B,0,none⟩)),(.string (bs f.topic)),(.pointer (some ⟨B,1,none⟩)),(.int .i64 f.qos),(.agg (fiC ⟨f.topic,f.qos,false,false,0⟩)),(.bool true),(.bool true),x84,x85,x86,x87,x88,x89,x90,x91,x92,x93,x94,x95,x96,x97,x98,x99,x100,x101,x102,x103,x104,x105,x106,x107,x108,x109,x110,x111,x112,x113,x114,x115,x116,x117,x118,x119,x120,x121,x122,x123,x124,x125,x126,x127,x128,x129,x130]) (D:=[]) (by kernel_rfl) (by kernel_rfl) ?_ hS ?_ (fun w hS=>fin true w rfl hS _ _ _ _ _ _ _ _ _ _ _ _ _ _ _ _ _)
 all_goals first
  | (
   refine qfhu.pu rfl rfl rfl rfl (fun w hS=>q0b3 rfl) ?_
   refine qfhu.pu rfl rfl rfl rfl (fun w hS=>qnwy rfl (K1 w hS)) ?_
   refine qfhu.pu rfl rfl rfl rfl (fun w hS=>qpld rfl ed0) ?_
   refine qfhu.pu rfl rfl rfl rfl (fun w hS=>rfl) ?_
   first | refine qfhu.sk rfl rfl rfl rfl ?_ | refine qfhu.pu rfl rfl rfl rfl (fun w hS=>q0b3 rfl) ?_
   first | refine qfhu.sk rfl rfl rfl rfl ?_ | refine qfhu.pu rfl rfl rfl rfl (fun w hS=>qnwy rfl (K1 w hS)) ?_
   first | refine qfhu.sk rfl rfl rfl rfl ?_ | refine qfhu.pu rfl rfl rfl rfl (fun w hS=>qscj rfl ed1) ?_
   refine qfhu.pu rfl rfl rfl rfl (fun w hS=>rfl) ?_
   refine qfhu.pu rfl rfl rfl rfl (fun w hS=>rfl) ?_
   first | refine qfhu.sk rfl rfl rfl rfl ?_ | refine qfhu.pu rfl rfl rfl rfl (fun w hS=>q1ib rfl (KR w hS)) ?_
   first | refine qfhu.sk rfl rfl rfl rfl ?_ | refine qfhu.pu rfl rfl rfl rfl (fun w hS=>qmdg rfl) ?_
   first | refine qfhu.sk rfl rfl rfl rfl ?_ | refine qfhu.pu rfl rfl rfl rfl (fun w hS=>q5u5 rfl (K0 w hS)) ?_
   first | refine qfhu.sk rfl rfl rfl rfl ?_ | refine qfhu.pu rfl rfl rfl rfl (fun w hS=>q0b3 rfl) ?_
   first | refine qfhu.sk rfl rfl rfl rfl ?_ | refine qfhu.pu rfl rfl rfl rfl (fun w hS=>qnwy rfl (K1 w hS)) ?_
   first | refine qfhu.sk rfl rfl rfl rfl ?_ | refine qfhu.pu rfl rfl rfl rfl (fun w hS=>qfgl rfl rfl) ?_
   first | refine qfhu.sk rfl rfl rfl rfl ?_ | refine qfhu.pu rfl rfl rfl rfl (fun w hS=>qr9y rfl rfl ee2) ?_
   refine qfhu.pu rfl rfl rfl rfl (fun w hS=>rfl) ?_
   refine qfhu.pu rfl rfl rfl rfl (fun w hS=>rfl) ?_
   exact qfhu.All.fin rfl)
  | exact(by repeat (first | exact trivial | refine⟨.inr rfl,?_⟩ | refine⟨.inl rfl,?_⟩))
theorem q4e2{Q:Exit→Act→World→Prop}{S:World→Prop}{W:World}{B G g j c k:Nat}{f:Fi}{s:ByteArray}{b:UInt8}{x0 x1 x3 x4 x5 x6 x7 x8 x9 x10 x12 x15 x16 x17 x18 x19 x20 x21 x22 x23 x24 x25 x26 x27 x28 x29 x30 x31 x32 x33 x34 x35 x36 x37 x38 x39 x40 x41 x42 x43 x44 x45 x46 x47 x48 x49 x50 x51 x52 x53 x54 x55 x56 x57 x58 x59 x60 x61 x62 x63 x64 x65 x66 x67 x68 x69 x70 x71 x72 x73 x74 x75 x76 x77 x78 x79 x80 x81 x82 x83 x84 x85 x86 x87 x88 x89 x90 x91 x92 x93 x94 x95 x96 x97 x98 x99 x100 x101 x102 x103 x104 x105 x106 x107 x108 x109 x110 x111 x112 x113 x114 x115 x116 x117 x118 x119 x120 x121 x122 x123 x124 x125 x126 x127 x128 x129 x130:Value}
 (hS:S W.drew)
 (KR:∀w,S w→w.heap[B]? = some (.cells (fiC f) 32 (0,0)))
 (KF:∀w,S w→w.cell? ⟨G,23,none⟩=some (.slice (some ⟨g,j,none⟩) 1 c)) (M0:∀w,S w→w.cell? ⟨g,j,none⟩=some (.string (bs f.topic))) (M1:∀w,S w→w.cell? ⟨g,j+1,none⟩=some (.int .i64 f.qos)) (M2:∀w,S w→w.cell? ⟨g,j+2,none⟩=some (.bool f.noLocal)) (M3:∀w,S w→w.cell? ⟨g,j+3,none⟩=some (.bool f.asPub)) (M4:∀w,S w→w.cell? ⟨g,j+4,none⟩=some (.int .i64 f.handling))
 (hk:k < s.size) (hb:s[k]=b) (hn:b.toNat < 256) (hsub:IntKind.i64.wrap ((s.size:Nat) - 1:Int)=(k:Nat))
 (HO:∀w,S w→Calls Tryz.prog 13 #[.agg (fiC f)] w fun e w'=>e = .returned (.int .i64 (b.toNat:Nat))∧S w')
 (fin:∀w:World,S w→Q .normal ⟨#[x0,x1,(.pointer (some ⟨B,0,none⟩)),x3,(.bool true),x5,x6,x7,x8,x9,x10,(.string s),x12,(.pointer (some ⟨G,0,none⟩)),(.int .i64 0),x15,x16,x17,x18,x19,x20,x21,x22,x23,x24,x25,x26,x27,x28,x29,x30,x31,x32,x33,x34,x35,x36,x37,x38,x39,x40,x41,x42,x43,x44,x45,x46,x47,x48,x49,x50,x51,x52,x53,x54,x55,x56,x57,x58,x59,x60,x61,x62,x63,x64,x65,x66,x67,x68,x69,x70,x71,x72,x73,x74,x75,x76,x77,x78,x79,x80,x81,x82,x83,x84,x85,x86,x87,x88,x89,x90,x91,x92,x93,x94,x95,x96,x97,x98,x99,x100,x101,x102,x103,(.int .i64 0),(.bool true),(.bool true),(.pointer (some ⟨G,23,none⟩)),(.slice (some ⟨g,j,none⟩) 1 c),(.int .i64 ((1:Nat):Nat)),(.bool true),(.bool true),(.bool true),(.pointer (some ⟨G,23,none⟩)),(.slice (some ⟨g,j,none⟩) 1 c),(.pointer (some ⟨g,j,none⟩)),(.agg (fiC f)),(.agg (fiC f)),(.bool true),(.bool true),(.bool true),(.string s),(.string s),(.int .i64 (s.size:Nat)),(.int .i64 (k:Nat)),(.int .u8 (b.toNat:Nat)),(.int .i64 (b.toNat:Nat)),(.agg (fiC f)),(.int .i64 (b.toNat:Nat)),(.bool true),(.bool true)],[]⟩ w) :
 (Code.region 17 (qfhu.opsAt 17 Tryz.f6.body) true).wp Tryz.prog Q ⟨#[x0,x1,(.pointer (some ⟨B,0,none⟩)),x3,x4,x5,x6,x7,x8,x9,x10,(.string s),x12,(.pointer (some ⟨G,0,none⟩)),(.int .i64 0),x15,x16,x17,x18,x19,x20,x21,x22,x23,x24,x25,x26,x27,x28,x29,x30,x31,x32,x33,x34,x35,x36,x37,x38,x39,x40,x41,x42,x43,x44,x45,x46,x47,x48,x49,x50,x51,x52,x53,x54,x55,x56,x57,x58,x59,x60,x61,x62,x63,x64,x65,x66,x67,x68,x69,x70,x71,x72,x73,x74,x75,x76,x77,x78,x79,x80,x81,x82,x83,x84,x85,x86,x87,x88,x89,x90,x91,x92,x93,x94,x95,x96,x97,x98,x99,x100,x101,x102,x103,x104,x105,x106,x107,x108,x109,x110,x111,x112,x113,x114,x115,x116,x117,x118,x119,x120,x121,x122,x123,x124,x125,x126,x127,x128,x129,x130],[]⟩ W:=by
 refine qfhu.wp_in (ds:=[104,105,106,107,108,109,110,111,112,113,114,115,116,117,118,119,120,121,122,123,124,125,126,127,128,129,130,4]) (B:=[x0,x1,(.pointer (some ⟨B,0,none⟩)),x3,(.bool true),x5,x6,x7,x8,x9,x10,(.string s),x12,(.pointer (some ⟨G,0,none⟩)),(.int .i64 0),x15,x16,x17,x18,x19,x20,x21,x22,x23,x24,x25,x26,x27,x28,x29,x30,x31,x32,x33,x34,x35,x36,x37,x38,x39,x40,x41,x42,x43,x44,x45,x46,x47,x48,x49,x50,x51,x52,x53,x54,x55,x56,x57,x58,x59,x60,x61,x62,x63,x64,x65,x66,x67,x68,x69,x70,x71,x72,x73,x74,x75,x76,x77,x78,x79,x80,x81,x82,x83,x84,x85,x86,x87,x88,x89,x90,x91,x92,x93,x94,x95,x96,x97,x98,x99,x100,x101,x102,x103,(.int .i64 0),(.bool true),(.bool true),(.pointer (some ⟨G,23,none⟩)),(.slice (some ⟨g,j,none⟩) 1 c),(.int .i64 ((1:Nat):Nat)),(.bool true),(.bool true),(.bool true),(.pointer (some ⟨G,23,none⟩)),(.slice (some ⟨g,j,none⟩) 1 c),(.pointer (some ⟨g,j,none⟩)),(.agg (fiC f)),(.agg (fiC f)),(.bool true),(.bool true),(.bool true),(.string s),(.string s),(.int .i64 (s.size:Nat)),(.int .i64 (k:Nat)),(.int .u8 (b.toNat:Nat)),(.int .i64 (b.toNat:Nat)),(.agg (fiC f)),(.int .i64 (b.toNat:Nat)),(.bool true),(.bool true)]) (D:=[]) (by kernel_rfl) (by kernel_rfl) (by kernel_rfl) ?_ hS ?_ fin
 ·exact(by repeat (first | exact trivial | refine⟨.inr rfl,?_⟩ | refine⟨.inl rfl,?_⟩))
 refine qfhu.pu rfl rfl rfl rfl (fun w hS=>rfl) ?_
 refine qfhu.pu rfl rfl rfl rfl (fun w hS=>qn1u rfl rfl) ?_
 refine qfhu.pu rfl rfl rfl rfl (fun w hS=>rfl) ?_
 refine qfhu.pu rfl rfl rfl rfl (fun w hS=>qvcr rfl) ?_
 refine qfhu.pu rfl rfl rfl rfl (fun w hS=>qdeq rfl (KF w hS)) ?_
 refine qfhu.pu rfl rfl rfl rfl (fun w hS=>q73a rfl) ?_
 refine qfhu.pu rfl rfl rfl rfl (fun w hS=>qkut rfl rfl) ?_
 refine qfhu.pu rfl rfl rfl rfl (fun w hS=>rfl) ?_
 refine qfhu.pu rfl rfl rfl rfl (fun w hS=>rfl) ?_
 refine qfhu.pu rfl rfl rfl rfl (fun w hS=>qvcr rfl) ?_
 refine qfhu.pu rfl rfl rfl rfl (fun w hS=>qdeq rfl (KF w hS)) ?_
 refine qfhu.pu rfl rfl rfl rfl (fun w hS=>qj02 rfl) ?_
 refine qfhu.pu rfl rfl rfl rfl (fun w hS=>rf_at rfl (M0 w hS) (M1 w hS) (M2 w hS) (M3 w hS) (M4 w hS)) ?_
 refine qfhu.pu rfl rfl rfl rfl (fun w hS=>q1ib rfl (KR w hS)) ?_
 refine qfhu.pu rfl rfl rfl rfl (fun w hS=>qr9y rfl rfl (decide_eq_true rfl)) ?_
 refine qfhu.pu rfl rfl rfl rfl (fun w hS=>rfl) ?_
 refine qfhu.pu rfl rfl rfl rfl (fun w hS=>rfl) ?_
 refine qfhu.pu rfl rfl rfl rfl (fun w hS=>rfl) ?_
 refine qfhu.pu rfl rfl rfl rfl (fun w hS=>rfl) ?_
 refine qfhu.pu rfl rfl rfl rfl (fun w hS=>qe8t rfl) ?_
 refine qfhu.pu rfl rfl rfl rfl (fun w hS=>qecs rfl hsub) ?_
 refine qfhu.pu rfl rfl rfl rfl (fun w hS=>qaiu rfl rfl hk hb) ?_
 refine qfhu.pu rfl rfl rfl rfl (fun w hS=>q4yt rfl hn) ?_
 refine qfhu.pu rfl rfl rfl rfl (fun w hS=>q1ib rfl (KR w hS)) ?_
 refine qfhu.ca rfl rfl rfl rfl (fun w=>qpjl.enter1 Tryz.func13 rfl rfl) HO ?_
 refine qfhu.pu rfl rfl rfl rfl (fun w hS=>qc5j rfl rfl (beq_self_eq_true _)) ?_
 refine qfhu.pu rfl rfl rfl rfl (fun w hS=>rfl) ?_
 refine qfhu.pu rfl rfl rfl rfl (fun w hS=>rfl) ?_
 exact qfhu.All.fin rfl
end Go.Proofs.YtbecggefmbpnoaaGreatDoor
