/- HatHamming: the number of helpers; all of the law but its last line is run for each of the three. -/
import Derived.Test.YtjhgingmbklhaaaThK
namespace Go.Proofs.Ytjhgingmbklhaaa.Ev
set_option linter.unusedVariables false
set_option maxRecDepth 100000
open Go Go.Proofs Go.RowKit
noncomputable def i10 : FnI := (.mk true true (.seq (.reg (.cons (some x6x) none (.mv (.c (.b false))) .nil)) (.seq (.reg (.cons (some x20x) none (.bsl 3 1 3 (.cons (.n 0) (.cons (.n 0) (.cons (.n 0) .nil))) 
  (.cons 0 1 (.c (.n 1)) (.cons 1 1 (.c (.n 3)) (.cons 2 1 (.c (.n 7)) .nil)))) (.cons (some x21x) none (.call 53 (.cons (.t x20x) .nil)) (.cons (some x22x) none (.mv (.t x0x)) 
  (.cons (some x23x) none (.bin .rem (.t x22x) (.c (.i .u8 (.ofNat 3)))) (.cons (some x24x) none (.ixs 1 (.t x21x) (.t x23x)) (.cons (some x25x) none (.ld 1 false (.t x24x)) (.cons 
  (some x7x) none (.mv (.t x25x)) .nil)))))))) (.seq (.reg (.cons (some x27x) none (.mv (.t x7x)) (.cons (some x28x) none (.call 34 (.cons (.t x27x) .nil)) (.cons (some x26x) none 
  (.mv (.t x28x)) (.cons (some x29x) none (.ext 0 (.t x26x)) (.cons (some x30x) none (.ext 1 (.t x26x)) (.cons (some x8x) none (.mv (.t x29x)) (.cons (some x9x) none (.mv (.t 
  x30x)) .nil)))))))) (.seq (.reg (.cons (some x32x) none (.mv (.t x7x)) (.cons (some x33x) none (.mv (.t x8x)) (.cons (some x34x) none (.call 27 (.cons (.t x32x) (.cons (.t x33x) 
  .nil))) (.cons (some x31x) none (.mv (.t x34x)) (.cons (some x35x) none (.ext 0 (.t x31x)) (.cons (some x36x) none (.ext 1 (.t x31x)) (.cons (some x10x) none (.mv (.t x35x)) 
  (.cons (some x11x) none (.mv (.t x36x)) .nil))))))))) (.seq (.reg (.cons (some x38x) none (.mv (.t x7x)) (.cons (some x39x) none (.mv (.t x8x)) (.cons (some x40x) none (.call 31 
  (.cons (.t x38x) (.cons (.t x39x) .nil))) (.cons (some x37x) none (.mv (.t x40x)) (.cons (some x41x) none (.ext 0 (.t x37x)) (.cons (some x42x) none (.ext 1 (.t x37x)) (.cons 
  (some x12x) none (.alloc 24 (.cons (.n 0) (.cons .ns .nil)) 2) (.cons none none (.st 2 (.t x12x) (.t x41x)) (.cons (some x13x) none (.mv (.t x42x)) .nil)))))))))) (.seq (.seq 
  (.reg (.cons (some x43x) none (.mv (.t x9x)) (.cons (some x44x) none (.bin .neq (.t x43x) (.c (.n 0))) (.cons (some x45x) none (.mv (.t x44x)) (.cons (some x46x) (some (.mk x45x 
  false)) (.mv (.t x11x)) (.cons (some x47x) (some (.mk x45x false)) (.bin .neq (.t x46x) (.c (.n 0))) (.cons (some x48x) none (.pick (.t x45x) (.c (.b true)) (.t x47x)) (.cons 
  (some x49x) none (.mv (.t x48x)) (.cons (some x50x) (some (.mk x49x false)) (.mv (.t x13x)) (.cons (some x51x) (some (.mk x49x false)) (.bin .neq (.t x50x) (.c (.n 0))) (.cons 
  (some x52x) none (.pick (.t x49x) (.c (.b true)) (.t x51x)) (.cons (some x53x) none (.mv (.t x52x)) (.cons (some x54x) (some (.mk x53x false)) (.mv (.t x8x)) (.cons (some x55x) 
  (some (.mk x53x false)) (.len (.t x54x)) (.cons (some x56x) (some (.mk x53x false)) (.mv (.t x7x)) (.cons (some x57x) (some (.mk x53x false)) (.bin .add (.t x56x) (.c (.n 1))) 
  (.cons (some x58x) (some (.mk x53x false)) (.bin .mul (.t x55x) (.t x57x)) (.cons (some x59x) (some (.mk x53x false)) (.mv (.t x7x)) (.cons (some x60x) (some (.mk x53x false)) 
  (.bin .shl (.c (.n 1)) (.t x59x)) (.cons (some x61x) (some (.mk x53x false)) (.bin .neq (.t x58x) (.t x60x)) (.cons (some x62x) none (.pick (.t x53x) (.c (.b true)) (.t x61x)) 
  (.cons (some x63x) none (.mv (.t x62x)) (.cons (some x64x) (some (.mk x63x false)) (.mv (.t x10x)) (.cons (some x65x) (some (.mk x63x false)) (.len (.t x64x)) (.cons (some x66x) 
  (some (.mk x63x false)) (.mv (.t x7x)) (.cons (some x67x) (some (.mk x63x false)) (.bin .shl (.c (.n 1)) (.t x66x)) (.cons (some x68x) (some (.mk x63x false)) (.bin .neq (.t 
  x65x) (.t x67x)) (.cons (some x69x) none (.pick (.t x63x) (.c (.b true)) (.t x68x)) .nil)))))))))))))))))))))))))))) (.cond (.t x69x) (.seq (.reg (.cons (some x6x) none (.mv (.c 
  (.b false))) .nil)) .ret) .skip)) (.seq (.seq (.reg (.cons (some x70x) none (.mv (.t x7x)) (.cons (some x71x) none (.bin .shl (.c (.n 1)) (.t x70x)) (.cons (some x72x) none (.mv 
  (.c (.n 0))) .nil)))) (.block 0 (.loop (.seq (.reg (.cons (some x73x) none (.bin .lss (.t x72x) (.t x71x)) .nil)) (.seq (.cond (.t x73x) .skip (.exit 0)) (.seq (.block 1 (.seq 
  (.reg (.cons (some x74x) none (.mv (.t x72x)) (.cons (some x14x) none (.mv (.t x74x)) .nil))) (.seq (.reg (.cons (some x76x) none (.mv (.t x7x)) (.cons (some x77x) none (.mv (.t 
  x14x)) (.cons (some x78x) none (.call 36 (.cons (.t x76x) (.cons (.t x77x) .nil))) (.cons (some x75x) none (.mv (.t x78x)) (.cons (some x79x) none (.ext 0 (.t x75x)) (.cons (some 
  x80x) none (.ext 1 (.t x75x)) (.cons (some x15x) none (.mv (.t x79x)) (.cons (some x16x) none (.mv (.t x80x)) .nil))))))))) (.seq (.seq (.reg (.cons (some x81x) none (.mv (.t 
  x16x)) (.cons (some x82x) none (.bin .neq (.t x81x) (.c (.n 0))) (.cons (some x83x) none (.mv (.t x82x)) (.cons (some x84x) (some (.mk x83x false)) (.mv (.t x10x)) (.cons (some 
  x85x) (some (.mk x83x false)) (.mv (.t x14x)) (.cons (some x86x) (some (.mk x83x false)) (.ixs 1 (.t x84x) (.t x85x)) (.cons (some x87x) (some (.mk x83x false)) (.ld 1 false (.t 
  x86x)) (.cons (some x88x) (some (.mk x83x false)) (.bin .neq (.t x87x) (.c (.n 1))) (.cons (some x89x) none (.pick (.t x83x) (.c (.b true)) (.t x88x)) (.cons (some x90x) none 
  (.mv (.t x89x)) (.cons (some x91x) (some (.mk x90x false)) (.mv (.t x8x)) (.cons (some x92x) (some (.mk x90x false)) (.mv (.t x15x)) (.cons (some x93x) (some (.mk x90x false)) 
  (.call 46 (.cons (.t x91x) (.cons (.t x92x) .nil))) (.cons (some x94x) (some (.mk x90x false)) (.not (.t x93x)) (.cons (some x95x) none (.pick (.t x90x) (.c (.b true)) (.t x94x)) 
  .nil)))))))))))))))) (.cond (.t x95x) (.seq (.reg (.cons (some x6x) none (.mv (.c (.b false))) .nil)) .ret) .skip)) (.seq (.reg (.cons (some x96x) none (.mv (.t x15x)) (.cons 
  (some x97x) none (.mv (.t x14x)) (.cons (some x98x) none (.bin .xor (.t x96x) (.t x97x)) (.cons (some x17x) none (.mv (.t x98x)) .nil))))) (.seq (.reg (.cons (some x99x) none 
  (.mv (.t x17x)) (.cons (some x100x) none (.mv (.t x17x)) (.cons (some x101x) none (.bin .sub (.t x100x) (.c (.n 1))) (.cons (some x102x) none (.bin .and (.t x99x) (.t x101x)) 
  (.cons (some x103x) none (.bin .neq (.t x102x) (.c (.n 0))) .nil)))))) (.cond (.t x103x) (.seq (.reg (.cons (some x6x) none (.mv (.c (.b false))) .nil)) .ret) .skip))))))) (.reg 
  (.cons (some x104x) none (.bin .add (.t x72x) (.c (.n 1))) (.cons (some x72x) none (.mv (.t x104x)) .nil))))))))) (.seq (.reg (.cons (some x106x) none (.ld 2 true (.t x12x)) 
  (.cons (some x107x) none (.call 20 (.cons (.t x106x) .nil)) (.cons (some x105x) none (.mv (.t x107x)) (.cons (some x108x) none (.ext 0 (.t x105x)) (.cons (some x109x) none (.ext 
  1 (.t x105x)) (.cons (some x18x) none (.mv (.t x108x)) (.cons (some x19x) none (.mv (.t x109x)) .nil)))))))) (.seq (.draw [(.mk (some x110x) none true [] false [] [] [x19x] (.mv 
  (.t x19x)) false [] [] []), (.mk (some x111x) none true [] false [true] [] [x110x] (.bin .eql (.t x110x) (.c (.n 0))) false [] [] []), (.mk (some x112x) none true [] false [true, 
  true] [] [x111x] (.mv (.t x111x)) false [] [] []), (.mk (some x113x) (some (.mk x112x true)) true [] false [true, true, true] [] [x112x, x18x] (.mv (.t x18x)) false [] [] []), 
  (.mk (some x114x) (some (.mk x112x true)) true [] false [true, true, true, true] [] [x112x, x113x] (.len (.t x113x)) false [] [] []), (.mk (some x115x) (some (.mk x112x true)) 
  true [] false [false, false, true, true, true] [] [x112x, x8x] (.mv (.t x8x)) false [] [] []), (.mk (some x116x) (some (.mk x112x true)) true [] false [true, false, false, true, 
  true, true] [] [x112x, x115x] (.len (.t x115x)) false [] [] []), (.mk (some x117x) (some (.mk x112x true)) true [] false [false, false, false, false, true, true, true] [] [x112x, 
  x7x] (.mv (.t x7x)) false [] [] []), (.mk (some x118x) (some (.mk x112x true)) true [] false [true, true, true, false, false, true, true, true] [] [x112x, x116x, x117x] (.bin 
  .mul (.t x116x) (.t x117x)) false [] [] []), (.mk (some x119x) (some (.mk x112x true)) true [] false [true, true, true, true, true, true, true, true, true] [] [x112x, x114x, 
  x118x] (.bin .eql (.t x114x) (.t x118x)) false [] [] []), (.mk (some x120x) none true [] false [true, true, true, true, true, true, true, true, true, true] [] [x112x, x119x] 
  (.pick (.t x112x) (.t x119x) (.c (.b false))) false [] [] []), (.mk (some x121x) none true [] false [true, true, true, true, true, true, true, true, true, true, true] [] [x120x] 
  (.mv (.t x120x)) false [] [] []), (.mk (some x122x) (some (.mk x121x true)) true [] false [true, true, true, true, true, true, true, true, true, true, true, true] [] [x121x, x8x] 
  (.mv (.t x8x)) false [] [] []), (.mk (some x123x) (some (.mk x121x true)) false [] false [true, true, true, true, true, true, true, true, true, true, true, true, true] [] [x121x, 
  x122x] (.call 46 (.cons (.t x122x) (.cons (.c (.n 0)) .nil))) false [] [] []), (.mk (some x124x) none true [] false [true, true, true, true, true, true, true, true, true, true, 
  true, true, true, true] [] [x121x, x123x] (.pick (.t x121x) (.t x123x) (.c (.b false))) false [] [] []), (.mk (some x125x) none true [] false [true, true, true, true, true, true, 
  true, true, true, true, true, true, true, true, true] [] [x124x] (.mv (.t x124x)) false [] [] []), (.mk (some x126x) (some (.mk x125x true)) true [] false [true, true, true, 
  true, true, true, true, true, true, true, true, true, true, true, true, true] [] [x125x, x8x] (.mv (.t x8x)) false [] [] []), (.mk (some x127x) (some (.mk x125x true)) true [] 
  false [false, true, true, true, true, true, true, true, true, true, true, true, true, true, true, true, true] [] [x125x, x8x] (.mv (.t x8x)) false [] [] []), (.mk (some x128x) 
  (some (.mk x125x true)) true [] false [false, false, true, true, true, true, true, true, true, true, true, true, true, true, true, true, true, true] [] [x125x, x1x] (.mv (.t 
  x1x)) false [] [] []), (.mk (some x129x) (some (.mk x125x true)) true [] false [true, false, false, true, true, true, true, true, true, true, true, true, true, true, true, true, 
  true, true, true] [] [x125x, x128x] (.conv .i64 (.t x128x)) false [] [] []), (.mk (some x130x) (some (.mk x125x true)) true [] false [false, false, false, false, true, true, 
  true, true, true, true, true, true, true, true, true, true, true, true, true, true] [] [x125x, x8x] (.mv (.t x8x)) false [] [] []), (.mk (some x131x) (some (.mk x125x true)) true 
  [] false [true, false, false, false, false, true, true, true, true, true, true, true, true, true, true, true, true, true, true, true, true] [] [x125x, x130x] (.len (.t x130x)) 
  false [] [] []), (.mk (some x132x) (some (.mk x125x true)) true [] false [true, true, true, true, false, false, true, true, true, true, true, true, true, true, true, true, true, 
  true, true, true, true, true] [] [x125x, x129x, x131x] (.bin .rem (.t x129x) (.t x131x)) false [] [] []), (.mk (some x133x) (some (.mk x125x true)) true [] false [true, true, 
  true, true, true, true, false, true, true, true, true, true, true, true, true, true, true, true, true, true, true, true, true] [] [x125x, x127x, x132x] (.ixs 1 (.t x127x) (.t 
  x132x)) false [] [] []), (.mk (some x134x) (some (.mk x125x true)) false [] false [true, true, true, true, true, true, true, false, true, true, true, true, true, true, true, 
  true, true, true, true, true, true, true, true, true] [] [x125x, x133x] (.ld 1 false (.t x133x)) false [] [] []), (.mk (some x135x) (some (.mk x125x true)) true [] false [false, 
  false, false, false, false, false, false, false, false, true, true, true, true, true, true, true, true, true, true, true, true, true, true, true, true] [] [x125x, x8x] (.mv (.t 
  x8x)) false [] [] []), (.mk (some x136x) (some (.mk x125x true)) true [] false [false, false, false, false, false, false, false, false, false, false, true, true, true, true, 
  true, true, true, true, true, true, true, true, true, true, true, true] [] [x125x, x2x] (.mv (.t x2x)) false [] [] []), (.mk (some x137x) (some (.mk x125x true)) true [] false 
  [true, false, false, false, false, false, false, false, false, false, false, true, true, true, true, true, true, true, true, true, true, true, true, true, true, true, true] [] 
  [x125x, x136x] (.conv .i64 (.t x136x)) false [] [] []), (.mk (some x138x) (some (.mk x125x true)) true [] false [false, false, false, false, false, false, false, false, false, 
  false, false, false, true, true, true, true, true, true, true, true, true, true, true, true, true, true, true, true] [] [x125x, x8x] (.mv (.t x8x)) false [] [] []), (.mk (some 
  x139x) (some (.mk x125x true)) true [] false [true, false, false, false, false, false, false, false, false, false, false, false, false, true, true, true, true, true, true, true, 
  true, true, true, true, true, true, true, true, true] [] [x125x, x138x] (.len (.t x138x)) false [] [] []), (.mk (some x140x) (some (.mk x125x true)) true [] false [true, true, 
  true, true, false, false, false, false, false, false, false, false, false, false, true, true, true, true, true, true, true, true, true, true, true, true, true, true, true, true] 
  [] [x125x, x137x, x139x] (.bin .rem (.t x137x) (.t x139x)) false [] [] []), (.mk (some x141x) (some (.mk x125x true)) true [] false [true, true, true, true, true, true, false, 
  false, false, false, false, false, false, false, false, true, true, true, true, true, true, true, true, true, true, true, true, true, true, true, true] [] [x125x, x135x, x140x] 
  (.ixs 1 (.t x135x) (.t x140x)) false [] [] []), (.mk (some x142x) (some (.mk x125x true)) false [] false [true, true, true, true, true, true, true, false, false, false, false, 
  false, false, false, false, false, true, true, true, true, true, true, true, true, true, true, true, true, true, true, true, true] [] [x125x, x141x] (.ld 1 false (.t x141x)) 
  false [] [] []), (.mk (some x143x) (some (.mk x125x true)) true [] false [true, true, true, true, true, true, true, true, true, true, true, true, true, true, true, true, false, 
  true, true, true, true, true, true, true, true, true, true, true, true, true, true, true, true] [] [x125x, x134x, x142x] (.bin .xor (.t x134x) (.t x142x)) false [] [] []), (.mk 
  (some x144x) (some (.mk x125x true)) false [] false [true, true, true, true, true, true, true, true, true, true, true, true, true, true, true, true, true, true, true, true, true, 
  true, true, true, true, true, true, true, true, true, true, true, true, true] [] [x125x, x126x, x143x] (.call 46 (.cons (.t x126x) (.cons (.t x143x) .nil))) false [] [] []), (.mk 
  (some x145x) none true [] false [true, true, true, true, true, true, true, true, true, true, true, true, true, true, true, true, true, true, true, true, true, true, true, true, 
  true, true, true, true, true, true, true, true, true, true, true] [] [x125x, x144x] (.pick (.t x125x) (.t x144x) (.c (.b false))) false [] [] []), (.mk (some x146x) none true [] 
  false [true, true, true, true, true, true, true, true, true, true, true, true, true, true, true, true, true, true, true, true, true, true, true, true, true, true, true, true, 
  true, true, true, true, true, true, true, true] [] [x145x] (.mv (.t x145x)) false [] [] []), (.mk (some x147x) (some (.mk x146x true)) false [] false [true, true, true, true, 
  true, true, true, true, true, true, true, true, true, true, true, true, true, true, true, true, true, true, true, true, true, true, true, true, true, true, true, true, true, 
  true, true, true, true] [] [x146x] (.call 15 .nil) false [] [] []), (.mk (some x148x) none true [] false [true, true, true, true, true, true, true, true, true, true, true, true, 
  true, true, true, true, true, true, true, true, true, true, true, true, true, true, true, true, true, true, true, true, true, true, true, true, true, true] [] [x146x, x147x] 
  (.pick (.t x146x) (.t x147x) (.c (.b false))) false [] [] []), (.mk (some x6x) none true [] false [true, true, true, true, true, true, true, true, true, true, true, true, true, 
  true, true, true, true, true, true, true, true, true, true, true, true, true, true, true, true, true, true, true, true, true, true, true, true, true, true] [] [x148x] (.mv (.t 
  x148x)) false [] [] [])]) .ret))))))))) [(.tmp x6x)])
noncomputable def q10 : IC := i10.q
noncomputable def res10 : List RV := i10.r
noncomputable def c10c : Code := match Try.f10.body with | some c => c | none => .skip
theorem b10 : Try.f10.body = some c10c := by kernel_rfl
theorem k10 : compC Try.prog drops Try.f10.ntmps c10c = some q10 := by kernel_rfl
theorem r10 : compRVs Try.prog Try.f10.results.toList = some res10 := by kernel_rfl
theorem n10 : (Try.f10.name == "runtime.NumGoroutine") = false := by kernel_rfl
theorem q10_s : q10 = seqs (q10.pcs 2) (q10.rst 2) := by kernel_rfl
theorem q10_t : q10.rst 2 = seqs ((q10.rst 2).pcs 6) (q10.rst 8) := by kernel_rfl
noncomputable def nn (a : Nat) : Nat := Nat.rec 1 (fun _ _ => Nat.rec 3 (fun _ _ => 7) (Nat.sub a 1)) a
/-- The number of helpers. -/
theorem h1 : (fun u v => (List.range 256).map fun a : Nat => stg [] 300 [1, 2, 7] (runP (EW 60) 256 300 (q10.pcs 2) (.nor (bind (.cons (.i .u8 (a : Int)) (.cons u (.cons v .nil))) 0 .lf) .lf 256))) = fun u v => (List.range 256).map fun a : Nat => stgIs [] [(1, u), (2, v), (7, .n (nn (a % 3)))] := by kernel_rfl
noncomputable def s2 (n : Nat) (u v : V) : Rs := runP (EW 60) 256 100000 ((q10.rst 2).pcs 6) (.nor (mkE [(1, u), (2, v), (7, .n n)]) .lf 300)
end Go.Proofs.Ytjhgingmbklhaaa.Ev
