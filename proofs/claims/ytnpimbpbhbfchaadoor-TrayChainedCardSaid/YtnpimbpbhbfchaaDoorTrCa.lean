/- TrayChained: the numbers are cut down; what is left is run for each of the few. -/
import Derived.Test.YtnpimbpbhbfchaaDoorTrW
namespace Go.Proofs.YtnpimbpbhbfchaaDoor.Ev
set_option linter.unusedVariables false
set_option linter.unusedSimpArgs false
set_option maxRecDepth 100000
open Go Go.Proofs Go.RowKit
noncomputable def i3 : FnI := (.mk true true (.seq (.reg (.cons (some x4x) none (.mv (.c (.b false))) .nil)) (.seq (.reg (.cons (some x23x) none (.mv (.t x0x)) (.cons (some x24x) none (.conv .i64 (.t x23x)) 
  (.cons (some x25x) none (.bin .rem (.t x24x) (.c (.n 6))) (.cons (some x26x) none (.bin .add (.c (.n 1)) (.t x25x)) (.cons (some x5x) none (.mv (.t x26x)) .nil)))))) (.seq (.reg 
  (.cons (some x27x) none (.mv (.t x1x)) (.cons (some x28x) none (.conv .i64 (.t x27x)) (.cons (some x29x) none (.mv (.t x5x)) (.cons (some x30x) none (.bin .shl (.c (.n 1)) (.t 
  x29x)) (.cons (some x31x) none (.bin .rem (.t x28x) (.t x30x)) (.cons (some x6x) none (.mv (.t x31x)) .nil))))))) (.seq (.reg (.cons (some x33x) none (.mv (.t x5x)) (.cons (some 
  x34x) none (.mv (.t x6x)) (.cons (some x35x) none (.call 8 (.cons (.t x34x) .nil)) (.cons (some x36x) none (.call 7 (.cons (.t x33x) (.cons (.t x35x) .nil))) (.cons (some x32x) 
  none (.mv (.t x36x)) (.cons (some x37x) none (.ext 0 (.t x32x)) (.cons (some x38x) none (.ext 1 (.t x32x)) (.cons (some x7x) none (.mv (.t x37x)) (.cons (some x8x) none (.mv (.t 
  x38x)) .nil)))))))))) (.seq (.reg (.cons (some x40x) none (.mv (.t x5x)) (.cons (some x41x) none (.mv (.t x6x)) (.cons (some x42x) none (.call 8 (.cons (.t x41x) .nil)) (.cons 
  (some x43x) none (.call 9 (.cons (.t x40x) (.cons (.t x42x) .nil))) (.cons (some x39x) none (.mv (.t x43x)) (.cons (some x44x) none (.ext 0 (.t x39x)) (.cons (some x45x) none 
  (.ext 1 (.t x39x)) (.cons (some x9x) none (.mv (.t x44x)) (.cons (some x10x) none (.mv (.t x45x)) .nil)))))))))) (.seq (.seq (.draw [(.mk (some x46x) none true [] false [] [] 
  [x8x] (.mv (.t x8x)) false [] [] []), (.mk (some x47x) none true [] false [true] [] [x46x] (.bin .neq (.t x46x) (.c (.n 0))) false [] [] []), (.mk (some x48x) none true [] false 
  [true, true] [] [x47x] (.mv (.t x47x)) false [] [] []), (.mk (some x49x) (some (.mk x48x false)) true [] false [true, true, true] [] [x48x, x10x] (.mv (.t x10x)) false [] [] []), 
  (.mk (some x50x) (some (.mk x48x false)) true [] false [true, true, true, true] [] [x48x, x49x] (.bin .neq (.t x49x) (.c (.n 0))) false [] [] []), (.mk (some x51x) none true [] 
  false [true, true, true, true, true] [] [x48x, x50x] (.pick (.t x48x) (.c (.b true)) (.t x50x)) false [] [] []), (.mk (some x52x) none true [] false [true, true, true, true, 
  true, true] [] [x51x] (.mv (.t x51x)) false [] [] []), (.mk (some x53x) (some (.mk x52x false)) true [] false [true, true, true, true, true, true, true] [] [x52x, x7x] (.mv (.t 
  x7x)) false [] [] []), (.mk (some x54x) (some (.mk x52x false)) true [] false [true, true, true, true, true, true, true, true] [] [x52x, x53x] (.len (.t x53x)) false [] [] []), 
  (.mk (some x55x) (some (.mk x52x false)) true [] false [false, false, true, true, true, true, true, true, true] [] [x52x, x9x] (.mv (.t x9x)) false [] [] []), (.mk (some x56x) 
  (some (.mk x52x false)) true [] false [true, false, false, true, true, true, true, true, true, true] [] [x52x, x55x] (.len (.t x55x)) false [] [] []), (.mk (some x57x) (some (.mk 
  x52x false)) true [] false [true, true, false, false, true, true, true, true, true, true, true] [] [x52x, x56x] (.bin .add (.t x56x) (.c (.n 1))) false [] [] []), (.mk (some 
  x58x) (some (.mk x52x false)) true [] false [true, true, true, true, true, true, true, true, true, true, true, true] [] [x52x, x54x, x57x] (.bin .neq (.t x54x) (.t x57x)) false 
  [] [] []), (.mk (some x59x) none true [] false [true, true, true, true, true, true, true, true, true, true, true, true, true] [] [x52x, x58x] (.pick (.t x52x) (.c (.b true)) (.t 
  x58x)) false [] [] []), (.mk (some x60x) none true [] false [true, true, true, true, true, true, true, true, true, true, true, true, true, true] [] [x59x] (.mv (.t x59x)) false 
  [] [] []), (.mk (some x61x) (some (.mk x60x false)) true [] false [true, true, true, true, true, true, true, true, true, true, true, true, true, true, true] [] [x60x, x7x] (.mv 
  (.t x7x)) false [] [] []), (.mk (some x62x) (some (.mk x60x false)) true [] false [true, true, true, true, true, true, true, true, true, true, true, true, true, true, true, true] 
  [] [x60x, x61x] (.ixs 1 (.t x61x) (.c (.n 0))) false [] [] []), (.mk (some x63x) (some (.mk x60x false)) false [] false [true, true, true, true, true, true, true, true, true, 
  true, true, true, true, true, true, true, true] [] [x60x, x62x] (.ld 1 false (.t x62x)) false [] [] []), (.mk (some x64x) (some (.mk x60x false)) true [] false [true, true, true, 
  true, true, true, true, true, true, true, true, true, true, true, true, true, true, true] [] [x60x, x63x] (.len (.t x63x)) false [] [] []), (.mk (some x65x) (some (.mk x60x 
  false)) true [] false [false, false, false, false, true, true, true, true, true, true, true, true, true, true, true, true, true, true, true] [] [x60x, x7x] (.mv (.t x7x)) false 
  [] [] []), (.mk (some x66x) (some (.mk x60x false)) true [] false [false, false, false, false, false, true, true, true, true, true, true, true, true, true, true, true, true, 
  true, true, true] [] [x60x, x7x] (.mv (.t x7x)) false [] [] []), (.mk (some x67x) (some (.mk x60x false)) true [] false [true, false, false, false, false, false, true, true, 
  true, true, true, true, true, true, true, true, true, true, true, true, true] [] [x60x, x66x] (.len (.t x66x)) false [] [] []), (.mk (some x68x) (some (.mk x60x false)) true [] 
  false [true, true, false, false, false, false, false, true, true, true, true, true, true, true, true, true, true, true, true, true, true, true] [] [x60x, x67x] (.bin .sub (.t 
  x67x) (.c (.n 1))) false [] [] []), (.mk (some x69x) (some (.mk x60x false)) true [] false [true, true, true, true, false, false, false, false, true, true, true, true, true, 
  true, true, true, true, true, true, true, true, true, true] [] [x60x, x65x, x68x] (.ixs 1 (.t x65x) (.t x68x)) false [] [] []), (.mk (some x70x) (some (.mk x60x false)) false [] 
  false [true, true, true, true, true, false, false, false, false, true, true, true, true, true, true, true, true, true, true, true, true, true, true, true] [] [x60x, x69x] (.ld 1 
  false (.t x69x)) false [] [] []), (.mk (some x71x) (some (.mk x60x false)) true [] false [true, true, true, true, true, true, false, false, false, false, true, true, true, true, 
  true, true, true, true, true, true, true, true, true, true, true] [] [x60x, x70x] (.len (.t x70x)) false [] [] []), (.mk (some x72x) (some (.mk x60x false)) true [] false [true, 
  true, true, true, true, true, true, true, true, true, true, true, true, true, true, true, true, true, true, true, true, true, true, true, true, true] [] [x60x, x64x, x71x] (.bin 
  .add (.t x64x) (.t x71x)) false [] [] []), (.mk (some x73x) (some (.mk x60x false)) true [] false [false, false, false, false, false, false, false, false, false, false, false, 
  false, true, true, true, true, true, true, true, true, true, true, true, true, true, true, true] [] [x60x, x5x] (.mv (.t x5x)) false [] [] []), (.mk (some x74x) (some (.mk x60x 
  false)) true [] false [true, true, true, true, true, true, true, true, true, true, true, true, true, true, true, true, true, true, true, true, true, true, true, true, true, true, 
  true, true] [] [x60x, x72x, x73x] (.bin .neq (.t x72x) (.t x73x)) false [] [] []), (.mk (some x75x) none true [] false [true, true, true, true, true, true, true, true, true, 
  true, true, true, true, true, true, true, true, true, true, true, true, true, true, true, true, true, true, true, true] [] [x60x, x74x] (.pick (.t x60x) (.c (.b true)) (.t x74x)) 
  false [] [] [])]) (.cond (.t x75x) (.seq (.reg (.cons (some x4x) none (.mv (.c (.b false))) .nil)) .ret) .skip)) (.seq (.reg (.cons (some x11x) none (.mv (.c (.b false))) .nil)) 
  (.seq (.seq (.reg (.cons (some x76x) none (.mv (.t x7x)) (.cons (some x77x) none (.len (.t x76x)) (.cons (some x78x) none (.mv (.c (.n 0))) .nil)))) (.block 0 (.loop (.seq (.reg 
  (.cons (some x79x) none (.bin .lss (.t x78x) (.t x77x)) .nil)) (.seq (.cond (.t x79x) .skip (.exit 0)) (.seq (.block 1 (.seq (.reg (.cons (some x80x) none (.mv (.t x78x)) (.cons 
  (some x81x) none (.ixs 1 (.t x76x) (.t x78x)) (.cons (some x82x) none (.ld 1 false (.t x81x)) (.cons (some x12x) none (.mv (.t x80x)) (.cons (some x13x) none (.mv (.t x82x)) 
  .nil)))))) (.seq (.seq (.reg (.cons (some x83x) none (.mv (.t x13x)) (.cons (some x84x) none (.call 10 (.cons (.t x83x) .nil)) (.cons (some x85x) none (.not (.t x84x)) .nil)))) 
  (.cond (.t x85x) (.seq (.reg (.cons (some x4x) none (.mv (.c (.b false))) .nil)) .ret) .skip)) (.seq (.reg (.cons (some x14x) none (.mv (.c (.n 0))) .nil)) (.seq (.seq (.reg 
  (.cons (some x86x) none (.mv (.t x13x)) (.cons (some x87x) none (.len (.t x86x)) (.cons (some x88x) none (.mv (.c (.n 0))) .nil)))) (.block 2 (.loop (.seq (.reg (.cons (some 
  x89x) none (.bin .lss (.t x88x) (.t x87x)) .nil)) (.seq (.cond (.t x89x) .skip (.exit 2)) (.seq (.block 3 (.seq (.reg (.cons (some x90x) none (.ixs 1 (.t x86x) (.t x88x)) (.cons 
  (some x91x) none (.ld 1 false (.t x90x)) (.cons (some x16x) none (.mv (.t x91x)) .nil)))) (.seq (.seq (.reg (.cons (some x92x) none (.mv (.t x16x)) (.cons (some x93x) none (.bin 
  .lss (.t x92x) (.c (.n 0))) (.cons (some x94x) none (.mv (.t x93x)) (.cons (some x95x) (some (.mk x94x false)) (.mv (.t x16x)) (.cons (some x96x) (some (.mk x94x false)) (.mv (.t 
  x5x)) (.cons (some x97x) (some (.mk x94x false)) (.bin .geq (.t x95x) (.t x96x)) (.cons (some x98x) none (.pick (.t x94x) (.c (.b true)) (.t x97x)) (.cons (some x99x) none (.mv 
  (.t x98x)) (.cons (some x100x) (some (.mk x99x false)) (.mv (.t x14x)) (.cons (some x101x) (some (.mk x99x false)) (.mv (.t x16x)) (.cons (some x102x) (some (.mk x99x false)) 
  (.bin .shr (.t x100x) (.t x101x)) (.cons (some x103x) (some (.mk x99x false)) (.bin .and (.t x102x) (.c (.n 1))) (.cons (some x104x) (some (.mk x99x false)) (.bin .eql (.t x103x) 
  (.c (.n 1))) (.cons (some x105x) none (.pick (.t x99x) (.c (.b true)) (.t x104x)) .nil))))))))))))))) (.cond (.t x105x) (.seq (.reg (.cons (some x4x) none (.mv (.c (.b false))) 
  .nil)) .ret) .skip)) (.reg (.cons (some x106x) none (.mv (.t x14x)) (.cons (some x107x) none (.mv (.t x16x)) (.cons (some x108x) none (.bin .shl (.c (.n 1)) (.t x107x)) (.cons 
  (some x109x) none (.bin .or (.t x106x) (.t x108x)) (.cons (some x14x) none (.mv (.t x109x)) .nil))))))))) (.reg (.cons (some x110x) none (.bin .add (.t x88x) (.c (.n 1))) (.cons 
  (some x88x) none (.mv (.t x110x)) .nil))))))))) (.seq (.reg (.cons (some x111x) none (.mv (.t x11x)) (.cons (some x112x) none (.mv (.t x111x)) (.cons (some x113x) (some (.mk 
  x112x false)) (.mv (.t x14x)) (.cons (some x114x) (some (.mk x112x false)) (.mv (.t x6x)) (.cons (some x115x) (some (.mk x112x false)) (.bin .eql (.t x113x) (.t x114x)) (.cons 
  (some x116x) none (.pick (.t x112x) (.c (.b true)) (.t x115x)) (.cons (some x11x) none (.mv (.t x116x)) .nil)))))))) (.seq (.seq (.reg (.cons (some x117x) none (.mv (.t x9x)) 
  (.cons (some x118x) none (.len (.t x117x)) (.cons (some x119x) none (.mv (.c (.n 0))) .nil)))) (.block 4 (.loop (.seq (.reg (.cons (some x120x) none (.bin .lss (.t x119x) (.t 
  x118x)) .nil)) (.seq (.cond (.t x120x) .skip (.exit 4)) (.seq (.block 5 (.seq (.reg (.cons (some x121x) none (.mv (.t x119x)) (.cons (some x122x) none (.ixs 1 (.t x117x) (.t 
  x119x)) (.cons (some x123x) none (.ld 1 false (.t x122x)) (.cons (some x17x) none (.mv (.t x121x)) (.cons (some x18x) none (.mv (.t x123x)) .nil)))))) (.seq (.reg (.cons (some 
  x124x) none (.mv (.t x18x)) (.cons (some x125x) none (.bin .lss (.t x124x) (.c (.n 0))) (.cons (some x126x) none (.mv (.t x125x)) (.cons (some x127x) (some (.mk x126x false)) 
  (.mv (.t x18x)) (.cons (some x128x) (some (.mk x126x false)) (.mv (.t x5x)) (.cons (some x129x) (some (.mk x126x false)) (.bin .geq (.t x127x) (.t x128x)) (.cons (some x130x) 
  none (.pick (.t x126x) (.c (.b true)) (.t x129x)) (.cons (some x131x) none (.mv (.t x130x)) (.cons (some x132x) (some (.mk x131x false)) (.mv (.t x17x)) (.cons (some x133x) (some 
  (.mk x131x false)) (.bin .gtr (.t x132x) (.c (.n 0))) (.cons (some x134x) (some (.mk x131x false)) (.mv (.t x133x)) (.cons (some x135x) (some (.mk x134x true)) (.mv (.t x18x)) 
  (.cons (some x136x) (some (.mk x134x true)) (.mv (.t x9x)) (.cons (some x137x) (some (.mk x134x true)) (.mv (.t x17x)) (.cons (some x138x) (some (.mk x134x true)) (.bin .sub (.t 
  x137x) (.c (.n 1))) (.cons (some x139x) (some (.mk x134x true)) (.ixs 1 (.t x136x) (.t x138x)) (.cons (some x140x) (some (.mk x134x true)) (.ld 1 false (.t x139x)) (.cons (some 
  x141x) (some (.mk x134x true)) (.bin .leq (.t x135x) (.t x140x)) (.cons (some x142x) (some (.mk x131x false)) (.pick (.t x134x) (.t x141x) (.c (.b false))) (.cons (some x143x) 
  none (.pick (.t x131x) (.c (.b true)) (.t x142x)) (.cons (some x144x) none (.mv (.t x143x)) (.cons (some x145x) (some (.mk x144x false)) (.mv (.t x14x)) (.cons (some x146x) (some 
  (.mk x144x false)) (.mv (.t x18x)) (.cons (some x147x) (some (.mk x144x false)) (.bin .shr (.t x145x) (.t x146x)) (.cons (some x148x) (some (.mk x144x false)) (.bin .and (.t 
  x147x) (.c (.n 1))) (.cons (some x149x) (some (.mk x144x false)) (.bin .eql (.t x148x) (.c (.n 1))) (.cons (some x150x) (some (.mk x144x false)) (.mv (.t x17x)) (.cons (some 
  x151x) (some (.mk x144x false)) (.mv (.t x12x)) (.cons (some x152x) (some (.mk x144x false)) (.bin .lss (.t x150x) (.t x151x)) (.cons (some x153x) (some (.mk x144x false)) (.eqb 
  true (.t x149x) (.t x152x)) (.cons (some x154x) none (.pick (.t x144x) (.c (.b true)) (.t x153x)) .nil)))))))))))))))))))))))))))))))) (.cond (.t x154x) (.seq (.reg (.cons (some 
  x4x) none (.mv (.c (.b false))) .nil)) .ret) .skip)))) (.reg (.cons (some x155x) none (.bin .add (.t x119x) (.c (.n 1))) (.cons (some x119x) none (.mv (.t x155x)) .nil))))))))) 
  (.seq (.reg (.cons (some x157x) none (.mv (.t x5x)) (.cons (some x158x) none (.mv (.t x13x)) (.cons (some x159x) none (.call 7 (.cons (.t x157x) (.cons (.t x158x) .nil))) (.cons 
  (some x156x) none (.mv (.t x159x)) (.cons (some x160x) none (.ext 0 (.t x156x)) (.cons (some x161x) none (.ext 1 (.t x156x)) (.cons (some x19x) none (.mv (.t x160x)) (.cons (some 
  x20x) none (.mv (.t x161x)) .nil))))))))) (.seq (.seq (.reg (.cons (some x162x) none (.mv (.t x20x)) (.cons (some x163x) none (.bin .neq (.t x162x) (.c (.n 0))) (.cons (some 
  x164x) none (.mv (.t x163x)) (.cons (some x165x) (some (.mk x164x false)) (.mv (.t x19x)) (.cons (some x166x) (some (.mk x164x false)) (.mv (.t x7x)) (.cons (some x167x) (some 
  (.mk x164x false)) (.call 11 (.cons (.t x165x) (.cons (.t x166x) .nil))) (.cons (some x168x) (some (.mk x164x false)) (.not (.t x167x)) (.cons (some x169x) none (.pick (.t x164x) 
  (.c (.b true)) (.t x168x)) .nil))))))))) (.cond (.t x169x) (.seq (.reg (.cons (some x4x) none (.mv (.c (.b false))) .nil)) .ret) .skip)) (.seq (.reg (.cons (some x21x) none (.mv 
  (.c (.n 0))) .nil)) (.seq (.seq (.reg (.cons (some x170x) none (.mv (.t x5x)) (.cons (some x171x) none (.mv (.c (.n 0))) .nil))) (.block 6 (.loop (.seq (.reg (.cons (some x172x) 
  none (.bin .lss (.t x171x) (.t x170x)) .nil)) (.seq (.cond (.t x172x) .skip (.exit 6)) (.seq (.block 7 (.seq (.reg (.cons (some x173x) none (.mv (.t x171x)) (.cons (some x22x) 
  none (.mv (.t x173x)) .nil))) (.seq (.seq (.reg (.cons (some x174x) none (.mv (.t x9x)) (.cons (some x175x) none (.mv (.t x22x)) (.cons (some x176x) none (.call 12 (.cons (.t 
  x174x) (.cons (.t x175x) .nil))) .nil)))) (.cond (.t x176x) (.seq (.seq (.reg (.cons (some x177x) none (.mv (.t x21x)) (.cons (some x178x) none (.bin .neq (.t x177x) (.c (.n 0))) 
  .nil))) (.cond (.t x178x) (.seq (.reg (.cons (some x4x) none (.mv (.c (.b false))) .nil)) .ret) .skip)) (.exit 7)) .skip)) (.seq (.seq (.reg (.cons (some x179x) none (.mv (.t 
  x14x)) (.cons (some x180x) none (.mv (.t x22x)) (.cons (some x181x) none (.bin .shr (.t x179x) (.t x180x)) (.cons (some x182x) none (.bin .and (.t x181x) (.c (.n 1))) (.cons 
  (some x183x) none (.bin .eql (.t x182x) (.c (.n 1))) .nil)))))) (.cond (.t x183x) (.reg (.cons (some x184x) none (.mv (.t x21x)) (.cons (some x185x) none (.bin .sub (.t x184x) 
  (.c (.n 1))) (.cons (some x21x) none (.mv (.t x185x)) .nil)))) (.reg (.cons (some x186x) none (.mv (.t x21x)) (.cons (some x187x) none (.bin .add (.t x186x) (.c (.n 1))) (.cons 
  (some x21x) none (.mv (.t x187x)) .nil)))))) (.seq (.reg (.cons (some x188x) none (.mv (.t x21x)) (.cons (some x189x) none (.bin .lss (.t x188x) (.c (.n 0))) .nil))) (.cond (.t 
  x189x) (.seq (.reg (.cons (some x4x) none (.mv (.c (.b false))) .nil)) .ret) .skip)))))) (.reg (.cons (some x190x) none (.bin .add (.t x171x) (.c (.n 1))) (.cons (some x171x) 
  none (.mv (.t x190x)) .nil))))))))) (.seq (.reg (.cons (some x191x) none (.mv (.t x21x)) (.cons (some x192x) none (.bin .neq (.t x191x) (.c (.n 0))) .nil))) (.cond (.t x192x) 
  (.seq (.reg (.cons (some x4x) none (.mv (.c (.b false))) .nil)) .ret) .skip))))))))))))) (.reg (.cons (some x193x) none (.bin .add (.t x78x) (.c (.n 1))) (.cons (some x78x) none 
  (.mv (.t x193x)) .nil))))))))) (.seq (.reg (.cons (some x194x) none (.mv (.t x11x)) (.cons (some x195x) none (.mv (.t x194x)) (.cons (some x196x) (some (.mk x195x true)) (.call 
  13 .nil) (.cons (some x197x) none (.pick (.t x195x) (.t x196x) (.c (.b false))) (.cons (some x4x) none (.mv (.t x197x)) .nil)))))) .ret))))))))) [(.tmp x4x)])
noncomputable def q3 : IC := i3.q
noncomputable def q3_t : IC := i3.q.snd.snd.snd
noncomputable def res3 : List RV := i3.r
noncomputable def c3c : Code := match Tryd.f3.body with | some c => c | none => .skip
theorem b3 : Tryd.f3.body = some c3c := by kernel_rfl
theorem k3 : compC Tryd.prog drops Tryd.f3.ntmps c3c = some q3 := by kernel_rfl
theorem r3 : compRVs Tryd.prog Tryd.f3.results.toList = some res3 := by kernel_rfl
theorem q3_eq : q3 = (.seq (.reg (.cons (some (tp 4)) none (.mv (.c (.b false))) .nil)) (.seq (.reg (.cons (some (tp 23)) none (.mv (.t (tp 0))) (.cons (some (tp 24)) none (.conv .i64 (.t (tp 23))) (.cons (some (tp 25)) none (.bin .rem (.t (tp 24)) (.c (I 6))) (.cons (some (tp 26)) none (.bin .add (.c (I 1)) (.t (tp 25))) (.cons (some (tp 5)) none (.mv (.t (tp 26))) .nil)))))) (.seq (.reg (.cons (some (tp 27)) none (.mv (.t (tp 1))) (.cons (some (tp 28)) none (.conv .i64 (.t (tp 27))) (.cons (some (tp 29)) none (.mv (.t (tp 5))) (.cons (some (tp 30)) none (.bin .shl (.c (I 1)) (.t (tp 29))) (.cons (some (tp 31)) none (.bin .rem (.t (tp 28)) (.t (tp 30))) (.cons (some (tp 6)) none (.mv (.t (tp 31))) .nil))))))) q3_t))) := by kernel_rfl

theorem shl_pow {r : Nat} (h : r < 6) : binV .shl (I 1) (I (1 + (r : Int))) = I (((2 ^ (r + 1) : Nat) : Int)) := by
  have key : (List.range 6).map (fun r : Nat => binV .shl (I 1) (I (1 + (r : Int)))) = (List.range 6).map (fun r : Nat => I (((2 ^ (r + 1) : Nat) : Int))) := by kernel_rfl
  exact List.map_inj_left.1 key r (List.mem_range.2 h)
noncomputable def eK (r t : Nat) : Tr := ((Tr.lf.set (.b false) (tp 4)).set (I (1 + (r : Int))) (tp 5)).set (I (t : Int)) (tp 6)
noncomputable def tlB (el r t : Nat) : Bool := finR res3 ((kC q3_t nK).f (EW 40) (gK + 1) (eK r t) (tbH el) (gK + 1))
end Go.Proofs.YtnpimbpbhbfchaaDoor.Ev
