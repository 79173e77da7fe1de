/- TrayKatona: the numbers are cut down; all trays of the size are made; what is left is run for each of the few. -/
import Derived.Test.YtnpimbpbhbfchaaDoorTrX
namespace Go.Proofs.YtnpimbpbhbfchaaDoor.Ev
set_option linter.unusedVariables false
set_option linter.unusedSimpArgs false
set_option maxRecDepth 100000
open Go Go.Proofs Go.RowKit
noncomputable def i4 : FnI := (.mk true true (.seq (.reg (.cons (some x6x) none (.mv (.c (.b false))) .nil)) (.seq (.reg (.cons (some x31x) none (.mv (.t x0x)) (.cons (some x32x) none (.conv .i64 (.t x31x)) 
  (.cons (some x33x) none (.bin .rem (.t x32x) (.c (.n 5))) (.cons (some x34x) none (.bin .add (.c (.n 1)) (.t x33x)) (.cons (some x7x) none (.mv (.t x34x)) .nil)))))) (.seq (.reg 
  (.cons (some x35x) none (.mv (.t x1x)) (.cons (some x36x) none (.conv .i64 (.t x35x)) (.cons (some x37x) none (.mv (.t x7x)) (.cons (some x38x) none (.bin .add (.t x37x) (.c (.n 
  1))) (.cons (some x39x) none (.bin .rem (.t x36x) (.t x38x)) (.cons (some x8x) none (.mv (.t x39x)) .nil))))))) (.seq (.reg (.cons (some x9x) none (.mv (.c .ns)) .nil)) (.seq 
  (.seq (.reg (.cons (some x40x) none (.mv (.t x7x)) (.cons (some x41x) none (.bin .shl (.c (.n 1)) (.t x40x)) (.cons (some x42x) none (.mv (.c (.n 0))) .nil)))) (.block 0 (.loop 
  (.seq (.reg (.cons (some x43x) none (.bin .lss (.t x42x) (.t x41x)) .nil)) (.seq (.cond (.t x43x) .skip (.exit 0)) (.seq (.block 1 (.seq (.reg (.cons (some x44x) none (.mv (.t 
  x42x)) (.cons (some x10x) none (.mv (.t x44x)) .nil))) (.seq (.reg (.cons (some x45x) none (.mv (.t x10x)) (.cons (some x46x) none (.call 14 (.cons (.t x45x) .nil)) (.cons (some 
  x47x) none (.mv (.t x8x)) (.cons (some x48x) none (.bin .eql (.t x46x) (.t x47x)) .nil))))) (.cond (.t x48x) (.reg (.cons (some x49x) none (.mv (.t x9x)) (.cons (some x50x) none 
  (.mv (.t x10x)) (.cons (some x51x) none (.bsl 3 1 1 (.cons (.n 0) .nil) (.cons 0 1 (.t x50x) .nil)) (.cons (some x52x) none (.app 3 1 8 (.t x49x) (.t x51x)) (.cons (some x9x) 
  none (.mv (.t x52x)) .nil)))))) .skip)))) (.reg (.cons (some x53x) none (.bin .add (.t x42x) (.c (.n 1))) (.cons (some x42x) none (.mv (.t x53x)) .nil))))))))) (.seq (.reg (.cons 
  (some x54x) none (.mv (.t x2x)) (.cons (some x55x) none (.conv .i64 (.t x54x)) (.cons (some x56x) none (.mv (.t x9x)) (.cons (some x57x) none (.len (.t x56x)) (.cons (some x58x) 
  none (.bin .add (.t x57x) (.c (.n 1))) (.cons (some x59x) none (.bin .rem (.t x55x) (.t x58x)) (.cons (some x11x) none (.mv (.t x59x)) .nil)))))))) (.seq (.reg (.cons (some x60x) 
  none (.mv (.t x7x)) (.cons (some x61x) none (.bin .shl (.c (.n 1)) (.t x60x)) (.cons (some x12x) none (.mv (.t x61x)) .nil)))) (.seq (.seq (.reg (.cons (some x62x) none (.mv (.t 
  x9x)) (.cons (some x63x) none (.len (.t x62x)) (.cons (some x64x) none (.bin .shl (.c (.n 1)) (.t x63x)) (.cons (some x65x) none (.mv (.c (.n 0))) .nil))))) (.block 2 (.loop 
  (.seq (.reg (.cons (some x66x) none (.bin .lss (.t x65x) (.t x64x)) .nil)) (.seq (.cond (.t x66x) .skip (.exit 2)) (.seq (.block 3 (.seq (.reg (.cons (some x67x) none (.mv (.t 
  x65x)) (.cons (some x13x) none (.mv (.t x67x)) .nil))) (.seq (.seq (.reg (.cons (some x68x) none (.mv (.t x13x)) (.cons (some x69x) none (.call 14 (.cons (.t x68x) .nil)) (.cons 
  (some x70x) none (.mv (.t x11x)) (.cons (some x71x) none (.bin .neq (.t x69x) (.t x70x)) .nil))))) (.cond (.t x71x) (.exit 3) .skip)) (.seq (.reg (.cons (some x72x) none .mkm 
  (.cons (some x14x) none (.mv (.t x72x)) .nil))) (.seq (.seq (.reg (.cons (some x73x) none (.mv (.t x9x)) (.cons (some x74x) none (.len (.t x73x)) (.cons (some x75x) none (.mv (.c 
  (.n 0))) .nil)))) (.block 4 (.loop (.seq (.reg (.cons (some x76x) none (.bin .lss (.t x75x) (.t x74x)) .nil)) (.seq (.cond (.t x76x) .skip (.exit 4)) (.seq (.block 5 (.seq (.reg 
  (.cons (some x77x) none (.mv (.t x75x)) (.cons (some x78x) none (.ixs 1 (.t x73x) (.t x75x)) (.cons (some x79x) none (.ld 1 false (.t x78x)) (.cons (some x15x) none (.mv (.t 
  x77x)) (.cons (some x16x) none (.mv (.t x79x)) .nil)))))) (.seq (.seq (.reg (.cons (some x80x) none (.mv (.t x13x)) (.cons (some x81x) none (.mv (.t x15x)) (.cons (some x82x) 
  none (.bin .shr (.t x80x) (.t x81x)) (.cons (some x83x) none (.bin .and (.t x82x) (.c (.n 1))) (.cons (some x84x) none (.bin .eql (.t x83x) (.c (.n 0))) .nil)))))) (.cond (.t 
  x84x) (.exit 5) .skip)) (.seq (.reg (.cons (some x85x) none (.mv (.t x16x)) (.cons (some x17x) none (.mv (.t x85x)) .nil))) (.block 6 (.loop (.seq (.seq (.reg (.cons (some x86x) 
  none (.mv (.t x17x)) (.cons (some x87x) none (.bin .neq (.t x86x) (.c (.n 0))) .nil))) (.cond (.t x87x) .skip (.exit 6))) (.seq (.block 7 (.reg (.cons (some x92x) none (.mv (.t 
  x14x)) (.cons (some x93x) none (.mv (.t x16x)) (.cons (some x94x) none (.mv (.t x17x)) (.cons (some x95x) none (.mv (.t x17x)) (.cons (some x96x) none (.neg (.t x95x)) (.cons 
  (some x97x) none (.bin .and (.t x94x) (.t x96x)) (.cons (some x98x) none (.bin .andNot (.t x93x) (.t x97x)) (.cons none none (.mup .int (.t x92x) (.t x98x) (.c (.b true))) 
  .nil)))))))))) (.reg (.cons (some x88x) none (.mv (.t x17x)) (.cons (some x89x) none (.mv (.t x17x)) (.cons (some x90x) none (.bin .sub (.t x89x) (.c (.n 1))) (.cons (some x91x) 
  none (.bin .and (.t x88x) (.t x90x)) (.cons (some x17x) none (.mv (.t x91x)) .nil)))))))))))))) (.reg (.cons (some x99x) none (.bin .add (.t x75x) (.c (.n 1))) (.cons (some x75x) 
  none (.mv (.t x99x)) .nil))))))))) (.reg (.cons (some x100x) none (.mv (.t x12x)) (.cons (some x101x) none (.mv (.t x14x)) (.cons (some x102x) none (.mln (.t x101x)) (.cons (some 
  x103x) none (.mm false (.t x100x) (.cons (.t x102x) .nil)) (.cons (some x12x) none (.mv (.t x103x)) .nil))))))))))) (.reg (.cons (some x104x) none (.bin .add (.t x65x) (.c (.n 
  1))) (.cons (some x65x) none (.mv (.t x104x)) .nil))))))))) (.seq (.reg (.cons (some x106x) none (.mv (.t x7x)) (.cons (some x107x) none (.mv (.t x8x)) (.cons (some x108x) none 
  (.mv (.t x11x)) (.cons (some x109x) none (.call 15 (.cons (.t x106x) (.cons (.t x107x) (.cons (.t x108x) .nil)))) (.cons (some x105x) none (.mv (.t x109x)) (.cons (some x110x) 
  none (.ext 0 (.t x105x)) (.cons (some x111x) none (.ext 1 (.t x105x)) (.cons (some x18x) none (.mv (.t x110x)) (.cons (some x19x) none (.mv (.t x111x)) .nil)))))))))) (.seq (.seq 
  (.reg (.cons (some x112x) none (.mv (.t x19x)) (.cons (some x113x) none (.bin .neq (.t x112x) (.c (.n 0))) (.cons (some x114x) none (.mv (.t x113x)) (.cons (some x115x) (some 
  (.mk x114x false)) (.mv (.t x18x)) (.cons (some x116x) (some (.mk x114x false)) (.mv (.t x12x)) (.cons (some x117x) (some (.mk x114x false)) (.bin .neq (.t x115x) (.t x116x)) 
  (.cons (some x118x) none (.pick (.t x114x) (.c (.b true)) (.t x117x)) .nil)))))))) (.cond (.t x118x) (.seq (.reg (.cons (some x6x) none (.mv (.c (.b false))) .nil)) .ret) .skip)) 
  (.seq (.reg (.cons (some x20x) none (.mv (.c .ns)) .nil)) (.seq (.seq (.reg (.cons (some x119x) none (.mv (.t x11x)) (.cons (some x120x) none (.mv (.c (.n 0))) .nil))) (.block 8 
  (.loop (.seq (.reg (.cons (some x121x) none (.bin .lss (.t x120x) (.t x119x)) .nil)) (.seq (.cond (.t x121x) .skip (.exit 8)) (.seq (.block 9 (.seq (.reg (.cons (some x122x) none 
  (.mv (.t x120x)) (.cons (some x21x) none (.mv (.t x122x)) .nil))) (.seq (.reg (.cons (some x124x) none (.mv (.t x7x)) (.cons (some x125x) none (.mv (.t x8x)) (.cons (some x126x) 
  none (.mv (.t x21x)) (.cons (some x127x) none (.call 16 (.cons (.t x124x) (.cons (.t x125x) (.cons (.t x126x) .nil)))) (.cons (some x123x) none (.mv (.t x127x)) (.cons (some 
  x128x) none (.ext 0 (.t x123x)) (.cons (some x129x) none (.ext 1 (.t x123x)) (.cons (some x22x) none (.mv (.t x128x)) (.cons (some x23x) none (.mv (.t x129x)) .nil)))))))))) 
  (.seq (.seq (.reg (.cons (some x130x) none (.mv (.t x23x)) (.cons (some x131x) none (.bin .neq (.t x130x) (.c (.n 0))) (.cons (some x132x) none (.mv (.t x131x)) (.cons (some 
  x133x) (some (.mk x132x false)) (.mv (.t x22x)) (.cons (some x134x) (some (.mk x132x false)) (.len (.t x133x)) (.cons (some x135x) (some (.mk x132x false)) (.mv (.t x8x)) (.cons 
  (some x136x) (some (.mk x132x false)) (.bin .neq (.t x134x) (.t x135x)) (.cons (some x137x) none (.pick (.t x132x) (.c (.b true)) (.t x136x)) .nil))))))))) (.cond (.t x137x) 
  (.seq (.reg (.cons (some x6x) none (.mv (.c (.b false))) .nil)) .ret) .skip)) (.seq (.reg (.cons (some x24x) none (.mv (.c (.n 0))) .nil)) (.seq (.seq (.reg (.cons (some x138x) 
  none (.mv (.t x22x)) (.cons (some x139x) none (.len (.t x138x)) (.cons (some x140x) none (.mv (.c (.n 0))) .nil)))) (.block 10 (.loop (.seq (.reg (.cons (some x141x) none (.bin 
  .lss (.t x140x) (.t x139x)) .nil)) (.seq (.cond (.t x141x) .skip (.exit 10)) (.seq (.block 11 (.seq (.reg (.cons (some x142x) none (.ixs 1 (.t x138x) (.t x140x)) (.cons (some 
  x143x) none (.ld 1 false (.t x142x)) (.cons (some x26x) none (.mv (.t x143x)) .nil)))) (.seq (.seq (.reg (.cons (some x144x) none (.mv (.t x26x)) (.cons (some x145x) none (.bin 
  .lss (.t x144x) (.c (.n 0))) (.cons (some x146x) none (.mv (.t x145x)) (.cons (some x147x) (some (.mk x146x false)) (.mv (.t x26x)) (.cons (some x148x) (some (.mk x146x false)) 
  (.mv (.t x7x)) (.cons (some x149x) (some (.mk x146x false)) (.bin .geq (.t x147x) (.t x148x)) (.cons (some x150x) none (.pick (.t x146x) (.c (.b true)) (.t x149x)) .nil)))))))) 
  (.cond (.t x150x) (.seq (.reg (.cons (some x6x) none (.mv (.c (.b false))) .nil)) .ret) .skip)) (.reg (.cons (some x151x) none (.mv (.t x24x)) (.cons (some x152x) none (.mv (.t 
  x26x)) (.cons (some x153x) none (.bin .shl (.c (.n 1)) (.t x152x)) (.cons (some x154x) none (.bin .or (.t x151x) (.t x153x)) (.cons (some x24x) none (.mv (.t x154x)) 
  .nil))))))))) (.reg (.cons (some x155x) none (.bin .add (.t x140x) (.c (.n 1))) (.cons (some x140x) none (.mv (.t x155x)) .nil))))))))) (.reg (.cons (some x156x) none (.mv (.t 
  x20x)) (.cons (some x157x) none (.mv (.t x24x)) (.cons (some x158x) none (.bsl 3 1 1 (.cons (.n 0) .nil) (.cons 0 1 (.t x157x) .nil)) (.cons (some x159x) none (.app 3 1 8 (.t 
  x156x) (.t x158x)) (.cons (some x20x) none (.mv (.t x159x)) .nil)))))))))))) (.reg (.cons (some x160x) none (.bin .add (.t x120x) (.c (.n 1))) (.cons (some x120x) none (.mv (.t 
  x160x)) .nil))))))))) (.seq (.reg (.cons (some x162x) none (.mv (.t x7x)) (.cons (some x163x) none (.mv (.t x20x)) (.cons (some x164x) none (.call 18 (.cons (.t x162x) (.cons (.t 
  x163x) .nil))) (.cons (some x165x) none (.call 17 (.cons (.t x164x) .nil)) (.cons (some x161x) none (.mv (.t x165x)) (.cons (some x166x) none (.ext 0 (.t x161x)) (.cons (some 
  x167x) none (.ext 1 (.t x161x)) (.cons (some x27x) none (.mv (.t x166x)) (.cons (some x28x) none (.mv (.t x167x)) .nil)))))))))) (.seq (.reg (.cons (some x169x) none (.mv (.t 
  x7x)) (.cons (some x170x) none (.mv (.t x8x)) (.cons (some x171x) none (.mv (.t x9x)) (.cons (some x172x) none (.len (.t x171x)) (.cons (some x173x) none (.bin .add (.t x172x) 
  (.c (.n 1))) (.cons (some x174x) none (.call 15 (.cons (.t x169x) (.cons (.t x170x) (.cons (.t x173x) .nil)))) (.cons (some x168x) none (.mv (.t x174x)) (.cons (some x175x) none 
  (.ext 0 (.t x168x)) (.cons (some x176x) none (.ext 1 (.t x168x)) (.cons (some x29x) none (.mv (.t x175x)) (.cons (some x30x) none (.mv (.t x176x)) .nil)))))))))))) (.seq (.reg 
  (.cons (some x177x) none (.mv (.t x28x)) (.cons (some x178x) none (.bin .eql (.t x177x) (.c (.n 0))) (.cons (some x179x) none (.mv (.t x178x)) (.cons (some x180x) (some (.mk 
  x179x true)) (.mv (.t x27x)) (.cons (some x181x) (some (.mk x179x true)) (.len (.t x180x)) (.cons (some x182x) (some (.mk x179x true)) (.mv (.t x12x)) (.cons (some x183x) (some 
  (.mk x179x true)) (.bin .eql (.t x181x) (.t x182x)) (.cons (some x184x) none (.pick (.t x179x) (.t x183x) (.c (.b false))) (.cons (some x185x) none (.mv (.t x184x)) (.cons (some 
  x186x) (some (.mk x185x true)) (.mv (.t x30x)) (.cons (some x187x) (some (.mk x185x true)) (.bin .eql (.t x186x) (.c (.n 2))) (.cons (some x188x) none (.pick (.t x185x) (.t 
  x187x) (.c (.b false))) (.cons (some x189x) none (.mv (.t x188x)) (.cons (some x190x) (some (.mk x189x true)) (.call 13 .nil) (.cons (some x191x) none (.pick (.t x189x) (.t 
  x190x) (.c (.b false))) (.cons (some x6x) none (.mv (.t x191x)) .nil))))))))))))))))) .ret))))))))))))))) [(.tmp x6x)])
noncomputable def q4 : IC := i4.q
noncomputable def q4_t : IC := i4.q.snd.snd.snd.snd.snd.snd
noncomputable def res4 : List RV := i4.r
noncomputable def c4c : Code := match Tryd.f4.body with | some c => c | none => .skip
theorem b4 : Tryd.f4.body = some c4c := by kernel_rfl
theorem k4 : compC Tryd.prog drops Tryd.f4.ntmps c4c = some q4 := by kernel_rfl
theorem r4 : compRVs Tryd.prog Tryd.f4.results.toList = some res4 := by kernel_rfl
noncomputable def q4_p5 : IC := i4.q.snd.snd.snd.snd.fst
theorem q4_eq : q4 = (.seq (.reg (.cons (some (tp 6)) none (.mv (.c (.b false))) .nil)) (.seq (.reg (.cons (some (tp 31)) none (.mv (.t (tp 0))) (.cons (some (tp 32)) none (.conv .i64 (.t (tp 31))) (.cons (some (tp 33)) none (.bin .rem (.t (tp 32)) (.c (I 5))) (.cons (some (tp 34)) none (.bin .add (.c (I 1)) (.t (tp 33))) (.cons (some (tp 7)) none (.mv (.t (tp 34))) .nil)))))) (.seq (.reg (.cons (some (tp 35)) none (.mv (.t (tp 1))) (.cons (some (tp 36)) none (.conv .i64 (.t (tp 35))) (.cons (some (tp 37)) none (.mv (.t (tp 7))) (.cons (some (tp 38)) none (.bin .add (.t (tp 37)) (.c (I 1))) (.cons (some (tp 39)) none (.bin .rem (.t (tp 36)) (.t (tp 38))) (.cons (some (tp 8)) none (.mv (.t (tp 39))) .nil))))))) (.seq (.reg (.cons (some (tp 9)) none (.mv (.c .ns)) .nil)) (.seq q4_p5 (.seq (.reg (.cons (some (tp 54)) none (.mv (.t (tp 2))) (.cons (some (tp 55)) none (.conv .i64 (.t (tp 54))) (.cons (some (tp 56)) none (.mv (.t (tp 9))) (.cons (some (tp 57)) none (.len (.t (tp 56))) (.cons (some (tp 58)) none (.bin .add (.t (tp 57)) (.c (I 1))) (.cons (some (tp 59)) none (.bin .rem (.t (tp 55)) (.t (tp 58))) (.cons (some (tp 11)) none (.mv (.t (tp 59))) .nil)))))))) q4_t)))))) := by kernel_rfl

/-- In how many ways. -/
def cho : Nat → Nat → Nat
  | _, 0 => 1
  | 0, _ + 1 => 0
  | n + 1, k + 1 => cho n k + cho n (k + 1)
def prs : List (Nat × Nat) := [(0, 0), (0, 1), (1, 0), (1, 1), (1, 2), (2, 0), (2, 1), (2, 2), (2, 3), (3, 0), (3, 1), (3, 2), (3, 3), (3, 4), (4, 0), (4, 1), (4, 2), (4, 3), (4, 4), (4, 5)]
noncomputable def e0 (z : Int) (r s : Nat) : Tr := ((((Tr.lf.set (.i .u8 z) (tp 2)).set (.b false) (tp 6)).set (I (1 + (r : Int))) (tp 7)).set (I (s : Int)) (tp 8)).set .ns (tp 9)
noncomputable def R5 (el : Nat) (z : Int) (p : Nat × Nat) : Rs := (kC q4_p5 nK).f (EW 40) (gK + 1) (e0 z p.1 p.2) (tbH el) (gK + 1)
noncomputable def v9 (el : Nat) (z : Int) (p : Nat × Nat) : V := (rsE (R5 el z p)).get (tp 9)
noncomputable def eK (el : Nat) (z : Int) (p : Nat × Nat) (k : Nat) : Tr := ((((Tr.lf.set (.b false) (tp 6)).set (I (1 + (p.1 : Int))) (tp 7)).set (I (p.2 : Int)) (tp 8)).set (v9 el z p) (tp 9)).set (I (k : Int)) (tp 11)
noncomputable def tlB (el : Nat) (z : Int) (r s k : Nat) : Bool := finR res4 ((kC q4_t nK).f (EW 40) (gK + 1) (eK el z (r, s) k) (rsH (R5 el z (r, s))) (rsN (R5 el z (r, s))))
theorem k5_nor : (fun el z => prs.map (R5 el z)) = fun el z => prs.map fun p => .nor (rsE (R5 el z p)) (rsH (R5 el z p)) (rsN (R5 el z p)) := by kernel_rfl
theorem k5_n : (fun el z => prs.all fun p => Nat.blt (rsN (R5 el z p)) 9223372036854775808) = fun _ _ => true := by kernel_rfl
theorem k5_2 : (fun el z => prs.map fun p => (rsE (R5 el z p)).get (tp 2)) = fun _ z => prs.map fun _ => .i .u8 z := by kernel_rfl
theorem k5_6 : (fun el z => prs.map fun p => (rsE (R5 el z p)).get (tp 6)) = fun _ _ => prs.map fun _ => .b false := by kernel_rfl
theorem k5_7 : (fun el z => prs.map fun p => (rsE (R5 el z p)).get (tp 7)) = fun _ _ => prs.map fun p => I (1 + (p.1 : Int)) := by kernel_rfl
theorem k5_8 : (fun el z => prs.map fun p => (rsE (R5 el z p)).get (tp 8)) = fun _ _ => prs.map fun p => I (p.2 : Int) := by kernel_rfl
theorem k5_l : (fun el z => prs.map fun p => pv (onS (v9 el z p) (fun _ _ _ l _ => .n l) (.n 0) .bad) .lf 0) = fun _ _ => prs.map fun p => .ok (I (cho (p.1 + 1) p.2 : Nat)) .lf 0 := by kernel_rfl
end Go.Proofs.YtnpimbpbhbfchaaDoor.Ev
