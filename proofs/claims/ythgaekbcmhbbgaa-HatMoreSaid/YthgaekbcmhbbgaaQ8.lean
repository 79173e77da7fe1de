/- The texts TmL, ThMa, EvSv. -/
import Derived.Test.YthgaekbcmhbbgaaQ6
import Derived.Test.YthgaekbcmhbbgaaQ7
import Derived.Test.YthgaekbcmhbbgaaProg
import Derived.KernelRfl
/- The compiled code of the functions of layer 10, in full. -/
namespace Go.Proofs.Ythgaekbcmhbbgaa.Ev
set_option linter.unusedVariables false
set_option maxRecDepth 100000
open Go Go.Proofs Go.RowKit
def drops : List Nat := [4, 5, 6, 13, 14, 16, 17, 18, 19, 21, 22, 25, 28, 30, 32, 34, 35, 36, 39, 40, 41, 42, 43, 44, 45, 46, 47, 49, 50, 51, 52, 54, 55, 56, 57, 58, 59, 61, 62, 64, 65, 66, 69]
def x0x : Pos := .h
def x1x : Pos := (.o .h)
def x2x : Pos := (.i .h)
def x3x : Pos := (.o (.o .h))
def x4x : Pos := (.i (.o .h))
def x5x : Pos := (.o (.i .h))
def x6x : Pos := (.i (.i .h))
def x7x : Pos := (.o (.o (.o .h)))
def x8x : Pos := (.i (.o (.o .h)))
def x9x : Pos := (.o (.i (.o .h)))
def x10x : Pos := (.i (.i (.o .h)))
def x11x : Pos := (.o (.o (.i .h)))
def x12x : Pos := (.i (.o (.i .h)))
def x13x : Pos := (.o (.i (.i .h)))
def x14x : Pos := (.i (.i (.i .h)))
def x15x : Pos := (.o (.o (.o (.o .h))))
def x16x : Pos := (.i (.o (.o (.o .h))))
def x17x : Pos := (.o (.i (.o (.o .h))))
def x18x : Pos := (.i (.i (.o (.o .h))))
def x19x : Pos := (.o (.o (.i (.o .h))))
def x20x : Pos := (.i (.o (.i (.o .h))))
def x21x : Pos := (.o (.i (.i (.o .h))))
def x22x : Pos := (.i (.i (.i (.o .h))))
def x23x : Pos := (.o (.o (.o (.i .h))))
def x24x : Pos := (.i (.o (.o (.i .h))))
def x25x : Pos := (.o (.i (.o (.i .h))))
def x26x : Pos := (.i (.i (.o (.i .h))))
def x27x : Pos := (.o (.o (.i (.i .h))))
def x28x : Pos := (.i (.o (.i (.i .h))))
def x29x : Pos := (.o (.i (.i (.i .h))))
def x30x : Pos := (.i (.i (.i (.i .h))))
def x31x : Pos := (.o (.o (.o (.o (.o .h)))))
def x32x : Pos := (.i (.o (.o (.o (.o .h)))))
def x33x : Pos := (.o (.i (.o (.o (.o .h)))))
def x34x : Pos := (.i (.i (.o (.o (.o .h)))))
def x35x : Pos := (.o (.o (.i (.o (.o .h)))))
def x36x : Pos := (.i (.o (.i (.o (.o .h)))))
def x37x : Pos := (.o (.i (.i (.o (.o .h)))))
def x38x : Pos := (.i (.i (.i (.o (.o .h)))))
def x39x : Pos := (.o (.o (.o (.i (.o .h)))))
def x40x : Pos := (.i (.o (.o (.i (.o .h)))))
def x41x : Pos := (.o (.i (.o (.i (.o .h)))))
def x42x : Pos := (.i (.i (.o (.i (.o .h)))))
def x43x : Pos := (.o (.o (.i (.i (.o .h)))))
def x44x : Pos := (.i (.o (.i (.i (.o .h)))))
def x45x : Pos := (.o (.i (.i (.i (.o .h)))))
def x46x : Pos := (.i (.i (.i (.i (.o .h)))))
def x47x : Pos := (.o (.o (.o (.o (.i .h)))))
def x48x : Pos := (.i (.o (.o (.o (.i .h)))))
def x49x : Pos := (.o (.i (.o (.o (.i .h)))))
def x50x : Pos := (.i (.i (.o (.o (.i .h)))))
def x51x : Pos := (.o (.o (.i (.o (.i .h)))))
def x52x : Pos := (.i (.o (.i (.o (.i .h)))))
def x53x : Pos := (.o (.i (.i (.o (.i .h)))))
def x54x : Pos := (.i (.i (.i (.o (.i .h)))))
def x55x : Pos := (.o (.o (.o (.i (.i .h)))))
def x56x : Pos := (.i (.o (.o (.i (.i .h)))))
def x57x : Pos := (.o (.i (.o (.i (.i .h)))))
def x58x : Pos := (.i (.i (.o (.i (.i .h)))))
def x59x : Pos := (.o (.o (.i (.i (.i .h)))))
def x60x : Pos := (.i (.o (.i (.i (.i .h)))))
def x61x : Pos := (.o (.i (.i (.i (.i .h)))))
def x62x : Pos := (.i (.i (.i (.i (.i .h)))))
def x63x : Pos := (.o (.o (.o (.o (.o (.o .h))))))
def x64x : Pos := (.i (.o (.o (.o (.o (.o .h))))))
def x65x : Pos := (.o (.i (.o (.o (.o (.o .h))))))
def x66x : Pos := (.i (.i (.o (.o (.o (.o .h))))))
def x67x : Pos := (.o (.o (.i (.o (.o (.o .h))))))
def x68x : Pos := (.i (.o (.i (.o (.o (.o .h))))))
def x69x : Pos := (.o (.i (.i (.o (.o (.o .h))))))
def x70x : Pos := (.i (.i (.i (.o (.o (.o .h))))))
def x71x : Pos := (.o (.o (.o (.i (.o (.o .h))))))
def x72x : Pos := (.i (.o (.o (.i (.o (.o .h))))))
def x73x : Pos := (.o (.i (.o (.i (.o (.o .h))))))
def x74x : Pos := (.i (.i (.o (.i (.o (.o .h))))))
def x75x : Pos := (.o (.o (.i (.i (.o (.o .h))))))
def x76x : Pos := (.i (.o (.i (.i (.o (.o .h))))))
def x77x : Pos := (.o (.i (.i (.i (.o (.o .h))))))
def x78x : Pos := (.i (.i (.i (.i (.o (.o .h))))))
def x79x : Pos := (.o (.o (.o (.o (.i (.o .h))))))
def x80x : Pos := (.i (.o (.o (.o (.i (.o .h))))))
def x81x : Pos := (.o (.i (.o (.o (.i (.o .h))))))
def x82x : Pos := (.i (.i (.o (.o (.i (.o .h))))))
def x83x : Pos := (.o (.o (.i (.o (.i (.o .h))))))
def x84x : Pos := (.i (.o (.i (.o (.i (.o .h))))))
def x85x : Pos := (.o (.i (.i (.o (.i (.o .h))))))
def x86x : Pos := (.i (.i (.i (.o (.i (.o .h))))))
def x87x : Pos := (.o (.o (.o (.i (.i (.o .h))))))
def x88x : Pos := (.i (.o (.o (.i (.i (.o .h))))))
def x89x : Pos := (.o (.i (.o (.i (.i (.o .h))))))
def x90x : Pos := (.i (.i (.o (.i (.i (.o .h))))))
def x91x : Pos := (.o (.o (.i (.i (.i (.o .h))))))
def x92x : Pos := (.i (.o (.i (.i (.i (.o .h))))))
def x93x : Pos := (.o (.i (.i (.i (.i (.o .h))))))
def x94x : Pos := (.i (.i (.i (.i (.i (.o .h))))))
def x95x : Pos := (.o (.o (.o (.o (.o (.i .h))))))
def x96x : Pos := (.i (.o (.o (.o (.o (.i .h))))))
def x97x : Pos := (.o (.i (.o (.o (.o (.i .h))))))
def x98x : Pos := (.i (.i (.o (.o (.o (.i .h))))))
def x99x : Pos := (.o (.o (.i (.o (.o (.i .h))))))
def x100x : Pos := (.i (.o (.i (.o (.o (.i .h))))))
def x101x : Pos := (.o (.i (.i (.o (.o (.i .h))))))
def x102x : Pos := (.i (.i (.i (.o (.o (.i .h))))))
def x103x : Pos := (.o (.o (.o (.i (.o (.i .h))))))
def x104x : Pos := (.i (.o (.o (.i (.o (.i .h))))))
def x105x : Pos := (.o (.i (.o (.i (.o (.i .h))))))
def x106x : Pos := (.i (.i (.o (.i (.o (.i .h))))))
def x107x : Pos := (.o (.o (.i (.i (.o (.i .h))))))
def x108x : Pos := (.i (.o (.i (.i (.o (.i .h))))))
def x109x : Pos := (.o (.i (.i (.i (.o (.i .h))))))
def x110x : Pos := (.i (.i (.i (.i (.o (.i .h))))))
def x111x : Pos := (.o (.o (.o (.o (.i (.i .h))))))
def x112x : Pos := (.i (.o (.o (.o (.i (.i .h))))))
def x113x : Pos := (.o (.i (.o (.o (.i (.i .h))))))
def x114x : Pos := (.i (.i (.o (.o (.i (.i .h))))))
def x115x : Pos := (.o (.o (.i (.o (.i (.i .h))))))
def x116x : Pos := (.i (.o (.i (.o (.i (.i .h))))))
def x117x : Pos := (.o (.i (.i (.o (.i (.i .h))))))
def x118x : Pos := (.i (.i (.i (.o (.i (.i .h))))))
def x119x : Pos := (.o (.o (.o (.i (.i (.i .h))))))
def x120x : Pos := (.i (.o (.o (.i (.i (.i .h))))))
def x121x : Pos := (.o (.i (.o (.i (.i (.i .h))))))
def x122x : Pos := (.i (.i (.o (.i (.i (.i .h))))))
def x123x : Pos := (.o (.o (.i (.i (.i (.i .h))))))
def x124x : Pos := (.i (.o (.i (.i (.i (.i .h))))))
def x125x : Pos := (.o (.i (.i (.i (.i (.i .h))))))
def x126x : Pos := (.i (.i (.i (.i (.i (.i .h))))))
def x127x : Pos := (.o (.o (.o (.o (.o (.o (.o .h)))))))
def x128x : Pos := (.i (.o (.o (.o (.o (.o (.o .h)))))))
def x129x : Pos := (.o (.i (.o (.o (.o (.o (.o .h)))))))
def x130x : Pos := (.i (.i (.o (.o (.o (.o (.o .h)))))))
def x131x : Pos := (.o (.o (.i (.o (.o (.o (.o .h)))))))
def x132x : Pos := (.i (.o (.i (.o (.o (.o (.o .h)))))))
def x133x : Pos := (.o (.i (.i (.o (.o (.o (.o .h)))))))
def x134x : Pos := (.i (.i (.i (.o (.o (.o (.o .h)))))))
def x135x : Pos := (.o (.o (.o (.i (.o (.o (.o .h)))))))
def x136x : Pos := (.i (.o (.o (.i (.o (.o (.o .h)))))))
def x137x : Pos := (.o (.i (.o (.i (.o (.o (.o .h)))))))
def x138x : Pos := (.i (.i (.o (.i (.o (.o (.o .h)))))))
def x139x : Pos := (.o (.o (.i (.i (.o (.o (.o .h)))))))
def x140x : Pos := (.i (.o (.i (.i (.o (.o (.o .h)))))))
def x141x : Pos := (.o (.i (.i (.i (.o (.o (.o .h)))))))
def x142x : Pos := (.i (.i (.i (.i (.o (.o (.o .h)))))))
def x143x : Pos := (.o (.o (.o (.o (.i (.o (.o .h)))))))
def x144x : Pos := (.i (.o (.o (.o (.i (.o (.o .h)))))))
def x145x : Pos := (.o (.i (.o (.o (.i (.o (.o .h)))))))
def x146x : Pos := (.i (.i (.o (.o (.i (.o (.o .h)))))))
def x147x : Pos := (.o (.o (.i (.o (.i (.o (.o .h)))))))
def x148x : Pos := (.i (.o (.i (.o (.i (.o (.o .h)))))))
def x149x : Pos := (.o (.i (.i (.o (.i (.o (.o .h)))))))
def x150x : Pos := (.i (.i (.i (.o (.i (.o (.o .h)))))))
def x151x : Pos := (.o (.o (.o (.i (.i (.o (.o .h)))))))
def x152x : Pos := (.i (.o (.o (.i (.i (.o (.o .h)))))))
def x153x : Pos := (.o (.i (.o (.i (.i (.o (.o .h)))))))
def x154x : Pos := (.i (.i (.o (.i (.i (.o (.o .h)))))))
def x155x : Pos := (.o (.o (.i (.i (.i (.o (.o .h)))))))
def x156x : Pos := (.i (.o (.i (.i (.i (.o (.o .h)))))))
def x157x : Pos := (.o (.i (.i (.i (.i (.o (.o .h)))))))
def x158x : Pos := (.i (.i (.i (.i (.i (.o (.o .h)))))))
def x159x : Pos := (.o (.o (.o (.o (.o (.i (.o .h)))))))
def x160x : Pos := (.i (.o (.o (.o (.o (.i (.o .h)))))))
def x161x : Pos := (.o (.i (.o (.o (.o (.i (.o .h)))))))
def x162x : Pos := (.i (.i (.o (.o (.o (.i (.o .h)))))))
def x163x : Pos := (.o (.o (.i (.o (.o (.i (.o .h)))))))
def x164x : Pos := (.i (.o (.i (.o (.o (.i (.o .h)))))))
def x165x : Pos := (.o (.i (.i (.o (.o (.i (.o .h)))))))
def x166x : Pos := (.i (.i (.i (.o (.o (.i (.o .h)))))))
def x167x : Pos := (.o (.o (.o (.i (.o (.i (.o .h)))))))
def x168x : Pos := (.i (.o (.o (.i (.o (.i (.o .h)))))))
def x169x : Pos := (.o (.i (.o (.i (.o (.i (.o .h)))))))
def x170x : Pos := (.i (.i (.o (.i (.o (.i (.o .h)))))))
def x171x : Pos := (.o (.o (.i (.i (.o (.i (.o .h)))))))
def x172x : Pos := (.i (.o (.i (.i (.o (.i (.o .h)))))))
def x173x : Pos := (.o (.i (.i (.i (.o (.i (.o .h)))))))
def x174x : Pos := (.i (.i (.i (.i (.o (.i (.o .h)))))))
def x175x : Pos := (.o (.o (.o (.o (.i (.i (.o .h)))))))
def x176x : Pos := (.i (.o (.o (.o (.i (.i (.o .h)))))))
def x177x : Pos := (.o (.i (.o (.o (.i (.i (.o .h)))))))
def x178x : Pos := (.i (.i (.o (.o (.i (.i (.o .h)))))))
def x179x : Pos := (.o (.o (.i (.o (.i (.i (.o .h)))))))
def x180x : Pos := (.i (.o (.i (.o (.i (.i (.o .h)))))))
def x181x : Pos := (.o (.i (.i (.o (.i (.i (.o .h)))))))
def x182x : Pos := (.i (.i (.i (.o (.i (.i (.o .h)))))))
def x183x : Pos := (.o (.o (.o (.i (.i (.i (.o .h)))))))
def x184x : Pos := (.i (.o (.o (.i (.i (.i (.o .h)))))))
def x185x : Pos := (.o (.i (.o (.i (.i (.i (.o .h)))))))
def x186x : Pos := (.i (.i (.o (.i (.i (.i (.o .h)))))))
def x187x : Pos := (.o (.o (.i (.i (.i (.i (.o .h)))))))
def x188x : Pos := (.i (.o (.i (.i (.i (.i (.o .h)))))))
def x189x : Pos := (.o (.i (.i (.i (.i (.i (.o .h)))))))
def x190x : Pos := (.i (.i (.i (.i (.i (.i (.o .h)))))))
def x191x : Pos := (.o (.o (.o (.o (.o (.o (.i .h)))))))
noncomputable def i4 : FnI := (.mk true true (.seq (.reg (.cons (some x4x) none (.mv (.c (.b false))) .nil)) (.seq (.reg (.cons (some x23x) none (.mv (.t x0x)) (.cons (some x24x) none (.conv .i64 (.t x23x)) 
  (.cons (some x25x) none (.bin .rem (.t x24x) (.c (.n 4))) (.cons (some x26x) none (.bin .add (.c (.n 1)) (.t x25x)) (.cons (some x5x) none (.mv (.t x26x)) .nil)))))) (.seq (.reg 
  (.cons (some x27x) none (.mv (.t x1x)) (.cons (some x28x) none (.conv .i64 (.t x27x)) (.cons (some x29x) none (.mv (.t x5x)) (.cons (some x30x) none (.bin .shl (.c (.i .u64 
  (.ofNat 1))) (.t x29x)) (.cons (some x31x) none (.bin .shl (.c (.n 1)) (.t x30x)) (.cons (some x32x) none (.bin .rem (.t x28x) (.t x31x)) (.cons (some x33x) none (.call 15 (.cons 
  (.t x32x) .nil)) (.cons (some x6x) none (.alloc 22 (.cons .ns .nil) 1) (.cons none none (.st 1 (.t x6x) (.t x33x)) .nil)))))))))) (.seq (.reg (.cons (some x34x) none (.mkf 16 
  .nil (.cons (.t x6x) .nil)) (.cons (some x7x) none (.mv (.t x34x)) .nil))) (.seq (.reg (.cons (some x36x) none (.mv (.t x5x)) (.cons (some x37x) none (.ld 1 false (.t x6x)) 
  (.cons (some x38x) none (.call 11 (.cons (.t x36x) (.cons (.t x37x) .nil))) (.cons (some x35x) none (.mv (.t x38x)) (.cons (some x39x) none (.ext 0 (.t x35x)) (.cons (some x40x) 
  none (.ext 1 (.t x35x)) (.cons (some x8x) none (.alloc 29 (.cons (.n 0) (.cons .ns .nil)) 2) (.cons none none (.st 2 (.t x8x) (.t x39x)) (.cons (some x9x) none (.mv (.t x40x)) 
  .nil)))))))))) (.seq (.seq (.reg (.cons (some x41x) none (.mv (.t x9x)) (.cons (some x42x) none (.bin .neq (.t x41x) (.c (.n 0))) (.cons (some x43x) none (.mv (.t x42x)) (.cons 
  (some x44x) (some (.mk x43x false)) (.ld 2 true (.t x8x)) (.cons (some x45x) (some (.mk x43x false)) (.call 18 (.cons (.t x44x) .nil)) (.cons (some x46x) (some (.mk x43x false)) 
  (.bin .neq (.t x45x) (.c (.n 0))) (.cons (some x47x) none (.pick (.t x43x) (.c (.b true)) (.t x46x)) (.cons (some x48x) none (.mv (.t x47x)) (.cons (some x49x) (some (.mk x48x 
  false)) (.fad 0 (.t x8x)) (.cons (some x50x) (some (.mk x48x false)) (.ld 1 false (.t x49x)) (.cons (some x51x) (some (.mk x48x false)) (.mv (.t x5x)) (.cons (some x52x) (some 
  (.mk x48x false)) (.bin .neq (.t x50x) (.t x51x)) (.cons (some x53x) none (.pick (.t x48x) (.c (.b true)) (.t x52x)) .nil)))))))))))))) (.cond (.t x53x) (.seq (.reg (.cons (some 
  x4x) none (.mv (.c (.b false))) .nil)) .ret) .skip)) (.seq (.seq (.reg (.cons (some x54x) none (.fad 1 (.t x8x)) (.cons (some x55x) none (.ld 1 false (.t x54x)) (.cons (some 
  x56x) none (.len (.t x55x)) (.cons (some x57x) none (.mv (.c (.n 0))) .nil))))) (.block 0 (.loop (.seq (.reg (.cons (some x58x) none (.bin .lss (.t x57x) (.t x56x)) .nil)) (.seq 
  (.cond (.t x58x) .skip (.exit 0)) (.seq (.block 1 (.seq (.reg (.cons (some x59x) none (.mv (.t x57x)) (.cons (some x60x) none (.ixs 1 (.t x55x) (.t x57x)) (.cons (some x61x) none 
  (.ld 1 false (.t x60x)) (.cons (some x10x) none (.mv (.t x59x)) (.cons (some x11x) none (.mv (.t x61x)) .nil)))))) (.seq (.reg (.cons (some x62x) none (.mv (.t x5x)) (.cons (some 
  x63x) none (.bin .shl (.c (.n 1)) (.t x62x)) (.cons (some x64x) none (.mv (.c (.n 0))) .nil)))) (.block 2 (.loop (.seq (.reg (.cons (some x65x) none (.bin .lss (.t x64x) (.t 
  x63x)) .nil)) (.seq (.cond (.t x65x) .skip (.exit 2)) (.seq (.block 3 (.seq (.reg (.cons (some x66x) none (.mv (.t x64x)) (.cons (some x12x) none (.mv (.t x66x)) .nil))) (.seq 
  (.reg (.cons (some x13x) none (.mv (.c (.n 2))) .nil)) (.seq (.seq (.draw [(.mk (some x67x) none true [] false [] [] [x7x] (.mv (.t x7x)) false [] [] []), (.mk (some x68x) none 
  true [] false [false] [] [x12x] (.mv (.t x12x)) false [] [] []), (.mk (some x69x) none false [] true [true, true] [] [x67x, x68x] (.callv (.t x67x) (.cons (.t x68x) .nil)) false 
  [] [] []), (.mk (some x70x) none true [] false [false, false, false] [] [x7x] (.mv (.t x7x)) false [] [] []), (.mk (some x71x) none true [] false [false, false, false, false] [] 
  [x12x] (.mv (.t x12x)) false [] [] []), (.mk (some x72x) none true [] false [false, false, false, false, false] [] [x10x] (.mv (.t x10x)) false [] [] []), (.mk (some x73x) none 
  true [] false [true, false, false, false, false, false] [] [x72x] (.bin .shl (.c (.n 1)) (.t x72x)) false [] [] []), (.mk (some x74x) none true [] false [true, true, true, false, 
  false, false, false] [] [x71x, x73x] (.bin .xor (.t x71x) (.t x73x)) false [] [] []), (.mk (some x75x) none false [] true [true, true, true, true, true, true, true, true] [] 
  [x70x, x74x] (.callv (.t x70x) (.cons (.t x74x) .nil)) false [] [] []), (.mk (some x76x) none true [] false [true, true, true, true, true, true, true, true, true] [] [x69x, x75x] 
  (.eqb true (.t x69x) (.t x75x)) false [] [] [])]) (.cond (.t x76x) (.seq (.reg (.cons (some x77x) none (.mv (.t x12x)) (.cons (some x78x) none (.mv (.t x10x)) (.cons (some x79x) 
  none (.bin .shr (.t x77x) (.t x78x)) (.cons (some x80x) none (.bin .and (.t x79x) (.c (.n 1))) (.cons (some x13x) none (.mv (.t x80x)) .nil)))))) (.seq (.reg (.cons (some x81x) 
  none (.mv (.t x7x)) (.cons (some x82x) none (.mv (.t x12x)) (.cons (some x83x) none (.callv (.t x81x) (.cons (.t x82x) .nil)) .nil)))) (.cond (.t x83x) (.reg (.cons (some x84x) 
  none (.mv (.t x13x)) (.cons (some x85x) none (.bin .sub (.c (.n 1)) (.t x84x)) (.cons (some x13x) none (.mv (.t x85x)) .nil)))) .skip))) .skip)) (.seq (.reg (.cons (some x86x) 
  none (.mv (.t x11x)) (.cons (some x87x) none (.mv (.t x5x)) (.cons (some x88x) none (.mv (.t x12x)) (.cons (some x89x) none (.mv (.t x10x)) (.cons (some x90x) none (.call 19 
  (.cons (.t x87x) (.cons (.t x88x) (.cons (.t x89x) .nil)))) (.cons (some x91x) none (.ixs 1 (.t x86x) (.t x90x)) (.cons (some x92x) none (.ld 1 false (.t x91x)) (.cons (some 
  x93x) none (.mv (.t x13x)) (.cons (some x94x) none (.bin .neq (.t x92x) (.t x93x)) .nil)))))))))) (.cond (.t x94x) (.seq (.reg (.cons (some x4x) none (.mv (.c (.b false))) .nil)) 
  .ret) .skip)))))) (.reg (.cons (some x95x) none (.bin .add (.t x64x) (.c (.n 1))) (.cons (some x64x) none (.mv (.t x95x)) .nil))))))))))) (.reg (.cons (some x96x) none (.bin .add 
  (.t x57x) (.c (.n 1))) (.cons (some x57x) none (.mv (.t x96x)) .nil))))))))) (.seq (.reg (.cons (some x98x) none (.mv (.t x5x)) (.cons (some x99x) none (.ld 1 false (.t x6x)) 
  (.cons (some x100x) none (.call 7 (.cons (.t x98x) (.cons (.t x99x) .nil))) (.cons (some x97x) none (.mv (.t x100x)) (.cons (some x101x) none (.ext 0 (.t x97x)) (.cons (some 
  x102x) none (.ext 1 (.t x97x)) (.cons (some x14x) none (.mv (.t x101x)) (.cons (some x15x) none (.mv (.t x102x)) .nil))))))))) (.seq (.reg (.cons (some x104x) none (.mv (.t x5x)) 
  (.cons (some x105x) none (.ld 1 false (.t x6x)) (.cons (some x106x) none (.call 9 (.cons (.t x104x) (.cons (.t x105x) .nil))) (.cons (some x103x) none (.mv (.t x106x)) (.cons 
  (some x107x) none (.ext 0 (.t x103x)) (.cons (some x108x) none (.ext 1 (.t x103x)) (.cons (some x16x) none (.mv (.t x107x)) (.cons (some x17x) none (.mv (.t x108x)) .nil))))))))) 
  (.seq (.reg (.cons (some x110x) none (.ld 2 true (.t x8x)) (.cons (some x111x) none (.call 20 (.cons (.t x110x) .nil)) (.cons (some x109x) none (.mv (.t x111x)) (.cons (some 
  x112x) none (.ext 0 (.t x109x)) (.cons (some x113x) none (.ext 1 (.t x109x)) (.cons (some x18x) none (.mv (.t x112x)) (.cons (some x19x) none (.mv (.t x113x)) .nil)))))))) (.seq 
  (.seq (.reg (.cons (some x114x) none (.mv (.t x15x)) (.cons (some x115x) none (.bin .neq (.t x114x) (.c (.n 0))) (.cons (some x116x) none (.mv (.t x115x)) (.cons (some x117x) 
  (some (.mk x116x false)) (.mv (.t x17x)) (.cons (some x118x) (some (.mk x116x false)) (.bin .neq (.t x117x) (.c (.n 0))) (.cons (some x119x) none (.pick (.t x116x) (.c (.b true)) 
  (.t x118x)) (.cons (some x120x) none (.mv (.t x119x)) (.cons (some x121x) (some (.mk x120x false)) (.mv (.t x19x)) (.cons (some x122x) (some (.mk x120x false)) (.bin .neq (.t 
  x121x) (.c (.n 0))) (.cons (some x123x) none (.pick (.t x120x) (.c (.b true)) (.t x122x)) (.cons (some x124x) none (.mv (.t x123x)) (.cons (some x125x) (some (.mk x124x false)) 
  (.mv (.t x14x)) (.cons (some x126x) (some (.mk x124x false)) (.len (.t x125x)) (.cons (some x127x) (some (.mk x124x false)) (.mv (.t x5x)) (.cons (some x128x) (some (.mk x124x 
  false)) (.bin .shl (.c (.n 1)) (.t x127x)) (.cons (some x129x) (some (.mk x124x false)) (.bin .neq (.t x126x) (.t x128x)) (.cons (some x130x) none (.pick (.t x124x) (.c (.b 
  true)) (.t x129x)) .nil)))))))))))))))))) (.cond (.t x130x) (.seq (.reg (.cons (some x4x) none (.mv (.c (.b false))) .nil)) .ret) .skip)) (.seq (.seq (.reg (.cons (some x131x) 
  none (.mv (.t x5x)) (.cons (some x132x) none (.bin .shl (.c (.n 1)) (.t x131x)) (.cons (some x133x) none (.mv (.c (.n 0))) .nil)))) (.block 4 (.loop (.seq (.reg (.cons (some 
  x134x) none (.bin .lss (.t x133x) (.t x132x)) .nil)) (.seq (.cond (.t x134x) .skip (.exit 4)) (.seq (.block 5 (.seq (.reg (.cons (some x135x) none (.mv (.t x133x)) (.cons (some 
  x20x) none (.mv (.t x135x)) .nil))) (.seq (.reg (.cons (some x21x) none (.mv (.c (.n 0))) .nil)) (.seq (.seq (.reg (.cons (some x136x) none (.mv (.t x7x)) (.cons (some x137x) 
  none (.mv (.t x20x)) (.cons (some x138x) none (.callv (.t x136x) (.cons (.t x137x) .nil)) .nil)))) (.cond (.t x138x) (.reg (.cons (some x139x) none (.mv (.t x21x)) (.cons (some 
  x140x) none (.bin .add (.t x139x) (.c (.n 1))) (.cons (some x21x) none (.mv (.t x140x)) .nil)))) .skip)) (.seq (.seq (.reg (.cons (some x141x) none (.mv (.t x5x)) (.cons (some 
  x142x) none (.mv (.c (.n 0))) .nil))) (.block 6 (.loop (.seq (.reg (.cons (some x143x) none (.bin .lss (.t x142x) (.t x141x)) .nil)) (.seq (.cond (.t x143x) .skip (.exit 6)) 
  (.seq (.block 7 (.seq (.reg (.cons (some x144x) none (.mv (.t x142x)) (.cons (some x22x) none (.mv (.t x144x)) .nil))) (.seq (.reg (.cons (some x145x) none (.mv (.t x7x)) (.cons 
  (some x146x) none (.mv (.t x20x)) (.cons (some x147x) none (.mv (.t x22x)) (.cons (some x148x) none (.bin .shl (.c (.n 1)) (.t x147x)) (.cons (some x149x) none (.bin .xor (.t 
  x146x) (.t x148x)) (.cons (some x150x) none (.callv (.t x145x) (.cons (.t x149x) .nil)) .nil))))))) (.cond (.t x150x) (.reg (.cons (some x151x) none (.mv (.t x21x)) (.cons (some 
  x152x) none (.bin .add (.t x151x) (.c (.n 1))) (.cons (some x21x) none (.mv (.t x152x)) .nil)))) .skip)))) (.reg (.cons (some x153x) none (.bin .add (.t x142x) (.c (.n 1))) 
  (.cons (some x142x) none (.mv (.t x153x)) .nil))))))))) (.seq (.reg (.cons (some x154x) none (.mv (.t x14x)) (.cons (some x155x) none (.mv (.t x20x)) (.cons (some x156x) none 
  (.ixs 1 (.t x154x) (.t x155x)) (.cons (some x157x) none (.ld 1 false (.t x156x)) (.cons (some x158x) none (.mv (.t x21x)) (.cons (some x159x) none (.bin .neq (.t x157x) (.t 
  x158x)) (.cons (some x160x) none (.mv (.t x159x)) (.cons (some x161x) (some (.mk x160x false)) (.mv (.t x16x)) (.cons (some x162x) (some (.mk x160x false)) (.mv (.t x20x)) (.cons 
  (some x163x) (some (.mk x160x false)) (.call 17 (.cons (.t x161x) (.cons (.t x162x) .nil))) (.cons (some x164x) (some (.mk x160x false)) (.mv (.t x21x)) (.cons (some x165x) (some 
  (.mk x160x false)) (.bin .eql (.t x164x) (.c (.n 0))) (.cons (some x166x) (some (.mk x160x false)) (.eqb true (.t x163x) (.t x165x)) (.cons (some x167x) none (.pick (.t x160x) 
  (.c (.b true)) (.t x166x)) (.cons (some x168x) none (.mv (.t x167x)) (.cons (some x169x) (some (.mk x168x false)) (.mv (.t x18x)) (.cons (some x170x) (some (.mk x168x false)) 
  (.mv (.t x20x)) (.cons (some x171x) (some (.mk x168x false)) (.call 17 (.cons (.t x169x) (.cons (.t x170x) .nil))) (.cons (some x172x) (some (.mk x168x false)) (.mv (.t x21x)) 
  (.cons (some x173x) (some (.mk x168x false)) (.bin .gtr (.t x172x) (.c (.n 0))) (.cons (some x174x) (some (.mk x168x false)) (.mv (.t x173x)) (.cons (some x175x) (some (.mk x174x 
  true)) (.mv (.t x7x)) (.cons (some x176x) (some (.mk x174x true)) (.mv (.t x20x)) (.cons (some x177x) (some (.mk x174x true)) (.callv (.t x175x) (.cons (.t x176x) .nil)) (.cons 
  (some x178x) (some (.mk x174x true)) (.not (.t x177x)) (.cons (some x179x) (some (.mk x168x false)) (.pick (.t x174x) (.t x178x) (.c (.b false))) (.cons (some x180x) (some (.mk 
  x168x false)) (.eqb true (.t x171x) (.t x179x)) (.cons (some x181x) none (.pick (.t x168x) (.c (.b true)) (.t x180x)) .nil))))))))))))))))))))))))))))) (.cond (.t x181x) (.seq 
  (.reg (.cons (some x4x) none (.mv (.c (.b false))) .nil)) .ret) .skip))))))) (.reg (.cons (some x182x) none (.bin .add (.t x133x) (.c (.n 1))) (.cons (some x133x) none (.mv (.t 
  x182x)) .nil))))))))) (.seq (.reg (.cons (some x183x) none (.mv (.t x16x)) (.cons (some x184x) none (.call 21 (.cons (.t x183x) .nil)) (.cons (some x185x) none (.mv (.t x184x)) 
  (.cons (some x186x) (some (.mk x185x true)) (.mv (.t x18x)) (.cons (some x187x) (some (.mk x185x true)) (.call 21 (.cons (.t x186x) .nil)) (.cons (some x188x) none (.pick (.t 
  x185x) (.t x187x) (.c (.b false))) (.cons (some x189x) none (.mv (.t x188x)) (.cons (some x190x) (some (.mk x189x true)) (.call 6 .nil) (.cons (some x191x) none (.pick (.t x189x) 
  (.t x190x) (.c (.b false))) (.cons (some x4x) none (.mv (.t x191x)) .nil))))))))))) .ret))))))))))))) [(.tmp x4x)])
theorem cc4 : compF Try.prog drops true true Try.f4 = some i4 := by kernel_rfl
noncomputable def i5 : FnI := (.mk true true (.seq (.reg (.cons (some x6x) none (.mv (.c (.b false))) .nil)) (.seq (.reg (.cons (some x17x) none (.mv (.t x0x)) (.cons (some x18x) none (.conv .i64 (.t x17x)) 
  (.cons (some x19x) none (.bin .rem (.t x18x) (.c (.n 4))) (.cons (some x20x) none (.bin .add (.c (.n 1)) (.t x19x)) (.cons (some x7x) none (.mv (.t x20x)) .nil)))))) (.seq (.reg 
  (.cons (some x21x) none (.mv (.t x1x)) (.cons (some x22x) none (.conv .i64 (.t x21x)) (.cons (some x23x) none (.mv (.t x7x)) (.cons (some x24x) none (.bin .shl (.c (.i .u64 
  (.ofNat 1))) (.t x23x)) (.cons (some x25x) none (.bin .shl (.c (.n 1)) (.t x24x)) (.cons (some x26x) none (.bin .rem (.t x22x) (.t x25x)) (.cons (some x8x) none (.mv (.t x26x)) 
  .nil)))))))) (.seq (.reg (.cons (some x27x) none (.mv (.t x2x)) (.cons (some x28x) none (.conv .i64 (.t x27x)) (.cons (some x29x) none (.mv (.t x7x)) (.cons (some x30x) none 
  (.bin .shl (.c (.n 1)) (.t x29x)) (.cons (some x31x) none (.bin .rem (.t x28x) (.t x30x)) (.cons (some x9x) none (.mv (.t x31x)) .nil))))))) (.seq (.reg (.cons (some x33x) none 
  (.mv (.t x7x)) (.cons (some x34x) none (.mv (.t x8x)) (.cons (some x35x) none (.mv (.t x9x)) (.cons (some x36x) none (.bin .shl (.c (.n 1)) (.t x35x)) (.cons (some x37x) none 
  (.bin .andNot (.t x34x) (.t x36x)) (.cons (some x38x) none (.call 15 (.cons (.t x37x) .nil)) (.cons (some x39x) none (.call 7 (.cons (.t x33x) (.cons (.t x38x) .nil))) (.cons 
  (some x32x) none (.mv (.t x39x)) (.cons (some x40x) none (.ext 0 (.t x32x)) (.cons (some x41x) none (.ext 1 (.t x32x)) (.cons (some x10x) none (.mv (.t x40x)) (.cons (some x11x) 
  none (.mv (.t x41x)) .nil))))))))))))) (.seq (.reg (.cons (some x43x) none (.mv (.t x7x)) (.cons (some x44x) none (.mv (.t x8x)) (.cons (some x45x) none (.mv (.t x9x)) (.cons 
  (some x46x) none (.bin .shl (.c (.n 1)) (.t x45x)) (.cons (some x47x) none (.bin .or (.t x44x) (.t x46x)) (.cons (some x48x) none (.call 15 (.cons (.t x47x) .nil)) (.cons (some 
  x49x) none (.call 7 (.cons (.t x43x) (.cons (.t x48x) .nil))) (.cons (some x42x) none (.mv (.t x49x)) (.cons (some x50x) none (.ext 0 (.t x42x)) (.cons (some x51x) none (.ext 1 
  (.t x42x)) (.cons (some x12x) none (.mv (.t x50x)) (.cons (some x13x) none (.mv (.t x51x)) .nil))))))))))))) (.seq (.seq (.reg (.cons (some x52x) none (.mv (.t x11x)) (.cons 
  (some x53x) none (.bin .neq (.t x52x) (.c (.n 0))) (.cons (some x54x) none (.mv (.t x53x)) (.cons (some x55x) (some (.mk x54x false)) (.mv (.t x13x)) (.cons (some x56x) (some 
  (.mk x54x false)) (.bin .neq (.t x55x) (.c (.n 0))) (.cons (some x57x) none (.pick (.t x54x) (.c (.b true)) (.t x56x)) (.cons (some x58x) none (.mv (.t x57x)) (.cons (some x59x) 
  (some (.mk x58x false)) (.mv (.t x10x)) (.cons (some x60x) (some (.mk x58x false)) (.len (.t x59x)) (.cons (some x61x) (some (.mk x58x false)) (.mv (.t x7x)) (.cons (some x62x) 
  (some (.mk x58x false)) (.bin .shl (.c (.n 1)) (.t x61x)) (.cons (some x63x) (some (.mk x58x false)) (.bin .neq (.t x60x) (.t x62x)) (.cons (some x64x) none (.pick (.t x58x) (.c 
  (.b true)) (.t x63x)) (.cons (some x65x) none (.mv (.t x64x)) (.cons (some x66x) (some (.mk x65x false)) (.mv (.t x12x)) (.cons (some x67x) (some (.mk x65x false)) (.len (.t 
  x66x)) (.cons (some x68x) (some (.mk x65x false)) (.mv (.t x7x)) (.cons (some x69x) (some (.mk x65x false)) (.bin .shl (.c (.n 1)) (.t x68x)) (.cons (some x70x) (some (.mk x65x 
  false)) (.bin .neq (.t x67x) (.t x69x)) (.cons (some x71x) none (.pick (.t x65x) (.c (.b true)) (.t x70x)) .nil))))))))))))))))))))) (.cond (.t x71x) (.seq (.reg (.cons (some 
  x6x) none (.mv (.c (.b false))) .nil)) .ret) .skip)) (.seq (.seq (.reg (.cons (some x72x) none (.mv (.t x7x)) (.cons (some x73x) none (.bin .shl (.c (.n 1)) (.t x72x)) (.cons 
  (some x74x) none (.mv (.c (.n 0))) .nil)))) (.block 0 (.loop (.seq (.reg (.cons (some x75x) none (.bin .lss (.t x74x) (.t x73x)) .nil)) (.seq (.cond (.t x75x) .skip (.exit 0)) 
  (.seq (.block 1 (.seq (.reg (.cons (some x76x) none (.mv (.t x74x)) (.cons (some x14x) none (.mv (.t x76x)) .nil))) (.seq (.reg (.cons (some x77x) none (.mv (.t x14x)) (.cons 
  (some x78x) none (.mv (.t x9x)) (.cons (some x79x) none (.bin .xor (.t x77x) (.t x78x)) (.cons (some x15x) none (.mv (.t x79x)) .nil))))) (.seq (.reg (.cons (some x16x) none (.mv 
  (.c (.n 0))) .nil)) (.seq (.seq (.reg (.cons (some x80x) none (.mv (.t x15x)) (.cons (some x81x) none (.mv (.t x15x)) (.cons (some x82x) none (.bin .sub (.t x81x) (.c (.n 1))) 
  (.cons (some x83x) none (.bin .and (.t x80x) (.t x82x)) (.cons (some x84x) none (.bin .eql (.t x83x) (.c (.n 0))) .nil)))))) (.cond (.t x84x) (.reg (.cons (some x16x) none (.mv 
  (.c (.n 1))) .nil)) .skip)) (.seq (.draw [(.mk (some x85x) none true [] false [] [] [x12x] (.mv (.t x12x)) false [] [] []), (.mk (some x86x) none true [] false [false] [] [x14x] 
  (.mv (.t x14x)) false [] [] []), (.mk (some x87x) none true [] false [true, true] [] [x85x, x86x] (.ixs 1 (.t x85x) (.t x86x)) false [] [] []), (.mk (some x88x) none false [] 
  false [true, true, true] [] [x87x] (.ld 1 false (.t x87x)) false [] [] []), (.mk (some x89x) none true [] false [false, false, false, false] [] [x10x] (.mv (.t x10x)) false [] [] 
  []), (.mk (some x90x) none true [] false [false, false, false, false, false] [] [x14x] (.mv (.t x14x)) false [] [] []), (.mk (some x91x) none true [] false [true, true, false, 
  false, false, false] [] [x89x, x90x] (.ixs 1 (.t x89x) (.t x90x)) false [] [] []), (.mk (some x92x) none false [] false [true, true, true, false, false, false, false] [] [x91x] 
  (.ld 1 false (.t x91x)) false [] [] []), (.mk (some x93x) none true [] false [true, true, true, true, true, true, true, true] [] [x88x, x92x] (.bin .sub (.t x88x) (.t x92x)) 
  false [] [] []), (.mk (some x94x) none true [] false [false, false, false, false, false, false, false, false, false] [] [x16x] (.mv (.t x16x)) false [] [] []), (.mk (some x95x) 
  none true [] false [true, true, true, true, true, true, true, true, true, true] [] [x93x, x94x] (.bin .neq (.t x93x) (.t x94x)) false [] [] [])]) (.cond (.t x95x) (.seq (.reg 
  (.cons (some x6x) none (.mv (.c (.b false))) .nil)) .ret) .skip))))))) (.reg (.cons (some x96x) none (.bin .add (.t x74x) (.c (.n 1))) (.cons (some x74x) none (.mv (.t x96x)) 
  .nil))))))))) (.seq (.reg (.cons (some x97x) none (.call 6 .nil) (.cons (some x6x) none (.mv (.t x97x)) .nil))) .ret))))))))) [(.tmp x6x)])
theorem cc5 : compF Try.prog drops true true Try.f5 = some i5 := by kernel_rfl
noncomputable def i6 : FnI := (compF Try.prog drops true true Try.f6).getD (.mk false false .skip [])
theorem cc6 : compF Try.prog drops true true Try.f6 = some i6 := by kernel_rfl
noncomputable def i7 : FnI := (.mk true false (.seq (.reg (.cons (some x4x) none (.mv (.c .ns)) (.cons (some x5x) none (.mv (.c (.n 0))) .nil))) (.seq (.seq (.reg (.cons (some x7x) none (.mv (.t x0x)) (.cons 
  (some x8x) none (.mv (.t x1x)) (.cons (some x9x) none (.call 32 (.cons (.t x7x) (.cons (.t x8x) .nil))) (.cons (some x6x) none (.mv (.t x9x)) .nil))))) (.seq (.reg (.cons (some 
  x10x) none (.mv (.t x6x)) (.cons (some x11x) none (.bin .neq (.t x10x) (.c (.n 0))) .nil))) (.cond (.t x11x) (.seq (.reg (.cons (some x12x) none (.mv (.t x6x)) (.cons (some x4x) 
  none (.mv (.c .ns)) (.cons (some x5x) none (.mv (.t x12x)) .nil)))) .ret) .skip))) (.seq (.reg (.cons (some x13x) none (.mv (.t x0x)) (.cons (some x14x) none (.mv (.t x1x)) 
  (.cons (some x15x) none (.call 33 (.cons (.t x13x) (.cons (.t x14x) .nil))) (.cons (some x4x) none (.mv (.t x15x)) (.cons (some x5x) none (.mv (.c (.n 0))) .nil)))))) .ret))) 
  [(.tmp x4x), (.tmp x5x)])
theorem cc7 : compF Try.prog drops true false Try.f7 = some i7 := by kernel_rfl
noncomputable def i8 : FnI := (.mk true false (.seq (.reg (.cons (some x4x) none (.mv (.c .ns)) (.cons (some x5x) none (.mv (.c (.n 0))) .nil))) (.seq (.reg (.cons (some x9x) none (.mv (.t x0x)) (.cons (some 
  x10x) none (.mv (.t x1x)) (.cons (some x11x) none (.call 34 (.cons (.t x9x) (.cons (.t x10x) .nil))) (.cons (some x6x) none (.mv (.t x11x)) .nil))))) (.seq (.seq (.reg (.cons 
  (some x12x) none (.mv (.t x6x)) (.cons (some x13x) none (.bin .neq (.t x12x) (.c (.n 0))) .nil))) (.cond (.t x13x) (.seq (.reg (.cons (some x14x) none (.mv (.t x6x)) (.cons (some 
  x4x) none (.mv (.c .ns)) (.cons (some x5x) none (.mv (.t x14x)) .nil)))) .ret) .skip)) (.seq (.reg (.cons (some x7x) none (.mv (.c .ns)) .nil)) (.seq (.seq (.reg (.cons (some 
  x8x) none (.mv (.c (.n 0))) .nil)) (.block 0 (.loop (.seq (.seq (.reg (.cons (some x15x) none (.mv (.t x8x)) (.cons (some x16x) none (.mv (.t x0x)) (.cons (some x17x) none (.call 
  35 (.cons (.t x16x) .nil)) (.cons (some x18x) none (.bin .lss (.t x15x) (.t x17x)) .nil))))) (.cond (.t x18x) .skip (.exit 0))) (.seq (.block 1 (.reg (.cons (some x21x) none (.mv 
  (.t x7x)) (.cons (some x22x) none (.mv (.t x0x)) (.cons (some x23x) none (.mv (.t x1x)) (.cons (some x24x) none (.mv (.t x8x)) (.cons (some x25x) none (.call 36 (.cons (.t x22x) 
  (.cons (.t x23x) (.cons (.t x24x) .nil)))) (.cons (some x26x) none (.bsl 3 1 1 (.cons (.n 0) .nil) (.cons 0 1 (.t x25x) .nil)) (.cons (some x27x) none (.app 3 1 8 (.t x21x) (.t 
  x26x)) (.cons (some x7x) none (.mv (.t x27x)) .nil)))))))))) (.reg (.cons (some x19x) none (.mv (.t x8x)) (.cons (some x20x) none (.bin .add (.t x19x) (.c (.n 1))) (.cons (some 
  x8x) none (.mv (.t x20x)) .nil))))))))) (.seq (.reg (.cons (some x28x) none (.mv (.t x7x)) (.cons (some x4x) none (.mv (.t x28x)) (.cons (some x5x) none (.mv (.c (.n 0))) 
  .nil)))) .ret)))))) [(.tmp x4x), (.tmp x5x)])
theorem cc8 : compF Try.prog drops true false Try.f8 = some i8 := by kernel_rfl
noncomputable def i9 : FnI := (.mk true false (.seq (.reg (.cons (some x4x) none (.mv (.c .ns)) (.cons (some x5x) none (.mv (.c (.n 0))) .nil))) (.seq (.seq (.reg (.cons (some x10x) none (.mv (.t x0x)) (.cons 
  (some x11x) none (.mv (.t x1x)) (.cons (some x12x) none (.call 32 (.cons (.t x10x) (.cons (.t x11x) .nil))) (.cons (some x6x) none (.mv (.t x12x)) .nil))))) (.seq (.reg (.cons 
  (some x13x) none (.mv (.t x6x)) (.cons (some x14x) none (.bin .neq (.t x13x) (.c (.n 0))) .nil))) (.cond (.t x14x) (.seq (.reg (.cons (some x15x) none (.mv (.t x6x)) (.cons (some 
  x4x) none (.mv (.c .ns)) (.cons (some x5x) none (.mv (.t x15x)) .nil)))) .ret) .skip))) (.seq (.reg (.cons (some x7x) none (.mv (.c .ns)) .nil)) (.seq (.seq (.reg (.cons (some 
  x16x) none (.mv (.t x0x)) (.cons (some x17x) none (.mv (.t x1x)) (.cons (some x18x) none (.call 33 (.cons (.t x16x) (.cons (.t x17x) .nil))) (.cons (some x19x) none (.len (.t 
  x18x)) (.cons (some x20x) none (.mv (.c (.n 0))) .nil)))))) (.block 0 (.loop (.seq (.reg (.cons (some x21x) none (.bin .lss (.t x20x) (.t x19x)) .nil)) (.seq (.cond (.t x21x) 
  .skip (.exit 0)) (.seq (.block 1 (.seq (.reg (.cons (some x22x) none (.mv (.t x20x)) (.cons (some x23x) none (.ixs 1 (.t x18x) (.t x20x)) (.cons (some x24x) none (.ld 1 false (.t 
  x23x)) (.cons (some x8x) none (.mv (.t x22x)) (.cons (some x9x) none (.mv (.t x24x)) .nil)))))) (.seq (.reg (.cons (some x25x) none (.mv (.t x9x)) (.cons (some x26x) none (.bin 
  .eql (.t x25x) (.c (.n 0))) .nil))) (.cond (.t x26x) (.reg (.cons (some x27x) none (.mv (.t x7x)) (.cons (some x28x) none (.mv (.t x8x)) (.cons (some x29x) none (.bsl 3 1 1 
  (.cons (.n 0) .nil) (.cons 0 1 (.t x28x) .nil)) (.cons (some x30x) none (.app 3 1 8 (.t x27x) (.t x29x)) (.cons (some x7x) none (.mv (.t x30x)) .nil)))))) .skip)))) (.reg (.cons 
  (some x31x) none (.bin .add (.t x20x) (.c (.n 1))) (.cons (some x20x) none (.mv (.t x31x)) .nil))))))))) (.seq (.reg (.cons (some x32x) none (.mv (.t x7x)) (.cons (some x4x) none 
  (.mv (.t x32x)) (.cons (some x5x) none (.mv (.c (.n 0))) .nil)))) .ret))))) [(.tmp x4x), (.tmp x5x)])
theorem cc9 : compF Try.prog drops true false Try.f9 = some i9 := by kernel_rfl
noncomputable def i10 : FnI := (.mk true false (.seq (.reg (.cons (some x4x) none (.mv (.c .ns)) (.cons (some x5x) none (.mv (.c (.n 0))) .nil))) (.seq (.reg (.cons (some x7x) none (.mv (.t x0x)) (.cons (some 
  x8x) none (.mv (.t x1x)) (.cons (some x9x) none (.call 34 (.cons (.t x7x) (.cons (.t x8x) .nil))) (.cons (some x6x) none (.mv (.t x9x)) .nil))))) (.seq (.seq (.reg (.cons (some 
  x10x) none (.mv (.t x6x)) (.cons (some x11x) none (.bin .neq (.t x10x) (.c (.n 0))) .nil))) (.cond (.t x11x) (.seq (.reg (.cons (some x12x) none (.mv (.t x6x)) (.cons (some x4x) 
  none (.mv (.c .ns)) (.cons (some x5x) none (.mv (.t x12x)) .nil)))) .ret) .skip)) (.seq (.reg (.cons (some x13x) none (.mv (.t x0x)) (.cons (some x14x) none (.mv (.t x1x)) (.cons 
  (some x15x) none (.call 37 (.cons (.t x13x) (.cons (.t x14x) .nil))) (.cons (some x4x) none (.mv (.t x15x)) (.cons (some x5x) none (.mv (.c (.n 0))) .nil)))))) .ret)))) [(.tmp 
  x4x), (.tmp x5x)])
theorem cc10 : compF Try.prog drops true false Try.f10 = some i10 := by kernel_rfl
noncomputable def i11 : FnI := (.mk true false (.seq (.reg (.cons (some x4x) none (.alloc 29 (.cons (.n 0) (.cons .ns .nil)) 2) (.cons (some x5x) none (.mv (.c (.n 0))) .nil))) (.seq (.seq (.reg (.cons (some 
  x7x) none (.mv (.t x0x)) (.cons (some x8x) none (.mv (.t x1x)) (.cons (some x9x) none (.call 32 (.cons (.t x7x) (.cons (.t x8x) .nil))) (.cons (some x6x) none (.mv (.t x9x)) 
  .nil))))) (.seq (.reg (.cons (some x10x) none (.mv (.t x6x)) (.cons (some x11x) none (.bin .neq (.t x10x) (.c (.n 0))) .nil))) (.cond (.t x11x) (.seq (.reg (.cons (some x12x) 
  none (.build (.cons (.n 0) (.cons .ns .nil)) .nil) (.cons (some x13x) none (.mv (.t x6x)) (.cons none none (.st 2 (.t x4x) (.t x12x)) (.cons (some x5x) none (.mv (.t x13x)) 
  .nil))))) .ret) .skip))) (.seq (.reg (.cons (some x14x) none (.mv (.t x0x)) (.cons (some x15x) none (.mv (.t x1x)) (.cons (some x16x) none (.call 38 (.cons (.t x14x) (.cons (.t 
  x15x) .nil))) (.cons none none (.st 2 (.t x4x) (.t x16x)) (.cons (some x5x) none (.mv (.c (.n 0))) .nil)))))) .ret))) [(.cell x4x 2 true), (.tmp x5x)])
theorem cc11 : compF Try.prog drops true false Try.f11 = some i11 := by kernel_rfl
noncomputable def i12 : FnI := (.mk true false (.seq (.reg (.cons (some x4x) none (.alloc 32 (.cons (.n 0) (.cons .ns .nil)) 2) (.cons (some x5x) none (.mv (.c (.n 0))) .nil))) (.seq (.reg (.cons (some x13x) 
  none (.mv (.t x0x)) (.cons (some x14x) none (.mv (.t x1x)) (.cons (some x15x) none (.call 34 (.cons (.t x13x) (.cons (.t x14x) .nil))) (.cons (some x6x) none (.mv (.t x15x)) 
  .nil))))) (.seq (.seq (.reg (.cons (some x16x) none (.mv (.t x6x)) (.cons (some x17x) none (.bin .neq (.t x16x) (.c (.n 0))) .nil))) (.cond (.t x17x) (.seq (.reg (.cons (some 
  x18x) none (.build (.cons (.n 0) (.cons .ns .nil)) .nil) (.cons (some x19x) none (.mv (.t x6x)) (.cons none none (.st 2 (.t x4x) (.t x18x)) (.cons (some x5x) none (.mv (.t x19x)) 
  .nil))))) .ret) .skip)) (.seq (.reg (.cons (some x20x) none (.mv (.t x0x)) (.cons (some x21x) none (.build (.cons (.n 0) (.cons .ns .nil)) (.cons 0 1 (.t x20x) .nil)) (.cons 
  (some x7x) none (.alloc 32 (.cons (.n 0) (.cons .ns .nil)) 2) (.cons none none (.st 2 (.t x7x) (.t x21x)) .nil))))) (.seq (.seq (.reg (.cons (some x8x) none (.mv (.c (.n 0))) 
  .nil)) (.block 0 (.loop (.seq (.seq (.reg (.cons (some x22x) none (.mv (.t x8x)) (.cons (some x23x) none (.mv (.t x0x)) (.cons (some x24x) none (.bin .lss (.t x22x) (.t x23x)) 
  .nil)))) (.cond (.t x24x) .skip (.exit 0))) (.seq (.block 1 (.seq (.reg (.cons (some x27x) none (.mv (.t x0x)) (.cons (some x28x) none (.bin .sub (.t x27x) (.c (.n 1))) (.cons 
  (some x29x) none (.call 35 (.cons (.t x28x) .nil)) (.cons (some x30x) none (.mks 3 1 8 1 (.cons (.n 0) .nil) (.t x29x) (.t x29x)) (.cons (some x9x) none (.mv (.t x30x)) 
  .nil)))))) (.seq (.seq (.reg (.cons (some x10x) none (.mv (.c (.n 0))) .nil)) (.block 2 (.loop (.seq (.seq (.reg (.cons (some x31x) none (.mv (.t x10x)) (.cons (some x32x) none 
  (.mv (.t x0x)) (.cons (some x33x) none (.call 35 (.cons (.t x32x) .nil)) (.cons (some x34x) none (.bin .lss (.t x31x) (.t x33x)) .nil))))) (.cond (.t x34x) .skip (.exit 2))) 
  (.seq (.block 3 (.seq (.seq (.reg (.cons (some x37x) none (.mv (.t x10x)) (.cons (some x38x) none (.mv (.t x8x)) (.cons (some x39x) none (.call 39 (.cons (.t x37x) (.cons (.t 
  x38x) .nil))) (.cons (some x40x) none (.bin .eql (.t x39x) (.c (.n 1))) .nil))))) (.cond (.t x40x) (.exit 3) .skip)) (.seq (.reg (.cons (some x41x) none (.mv (.t x1x)) (.cons 
  (some x42x) none (.mv (.t x10x)) (.cons (some x43x) none (.call 40 (.cons (.t x41x) (.cons (.t x42x) .nil))) (.cons (some x44x) none (.mv (.t x1x)) (.cons (some x45x) none (.mv 
  (.t x10x)) (.cons (some x46x) none (.mv (.t x8x)) (.cons (some x47x) none (.call 41 (.cons (.t x45x) (.cons (.t x46x) .nil))) (.cons (some x48x) none (.call 40 (.cons (.t x44x) 
  (.cons (.t x47x) .nil))) (.cons (some x11x) none (.mv (.t x43x)) (.cons (some x12x) none (.mv (.t x48x)) .nil))))))))))) (.seq (.reg (.cons (some x49x) none (.mv (.t x9x)) (.cons 
  (some x50x) none (.mv (.t x10x)) (.cons (some x51x) none (.mv (.t x8x)) (.cons (some x52x) none (.call 42 (.cons (.t x50x) (.cons (.t x51x) .nil))) (.cons (some x53x) none (.ixs 
  1 (.t x49x) (.t x52x)) (.cons none none (.st 1 (.t x53x) (.c (.n 2))) .nil))))))) (.seq (.seq (.reg (.cons (some x54x) none (.mv (.t x11x)) (.cons (some x55x) none (.mv (.t 
  x54x)) (.cons (some x56x) (some (.mk x55x true)) (.mv (.t x12x)) (.cons (some x57x) (some (.mk x55x true)) (.not (.t x56x)) (.cons (some x58x) none (.pick (.t x55x) (.t x57x) (.c 
  (.b false))) .nil)))))) (.cond (.t x58x) (.reg (.cons (some x59x) none (.mv (.t x9x)) (.cons (some x60x) none (.mv (.t x10x)) (.cons (some x61x) none (.mv (.t x8x)) (.cons (some 
  x62x) none (.call 42 (.cons (.t x60x) (.cons (.t x61x) .nil))) (.cons (some x63x) none (.ixs 1 (.t x59x) (.t x62x)) (.cons none none (.st 1 (.t x63x) (.c (.n 1))) .nil))))))) 
  .skip)) (.seq (.reg (.cons (some x64x) none (.mv (.t x12x)) (.cons (some x65x) none (.mv (.t x64x)) (.cons (some x66x) (some (.mk x65x true)) (.mv (.t x11x)) (.cons (some x67x) 
  (some (.mk x65x true)) (.not (.t x66x)) (.cons (some x68x) none (.pick (.t x65x) (.t x67x) (.c (.b false))) .nil)))))) (.cond (.t x68x) (.reg (.cons (some x69x) none (.mv (.t 
  x9x)) (.cons (some x70x) none (.mv (.t x10x)) (.cons (some x71x) none (.mv (.t x8x)) (.cons (some x72x) none (.call 42 (.cons (.t x70x) (.cons (.t x71x) .nil))) (.cons (some 
  x73x) none (.ixs 1 (.t x69x) (.t x72x)) (.cons none none (.st 1 (.t x73x) (.c (.n 0))) .nil))))))) .skip))))))) (.reg (.cons (some x35x) none (.mv (.t x10x)) (.cons (some x36x) 
  none (.bin .add (.t x35x) (.c (.n 1))) (.cons (some x10x) none (.mv (.t x36x)) .nil))))))))) (.reg (.cons (some x74x) none (.fad 1 (.t x7x)) (.cons (some x75x) none (.ld 1 false 
  (.t x74x)) (.cons (some x76x) none (.mv (.t x9x)) (.cons (some x77x) none (.bsl 22 1 1 (.cons .ns .nil) (.cons 0 1 (.t x76x) .nil)) (.cons (some x78x) none (.app 22 1 24 (.t 
  x75x) (.t x77x)) (.cons (some x79x) none (.fad 1 (.t x7x)) (.cons none none (.st 1 (.t x79x) (.t x78x)) .nil))))))))))) (.reg (.cons (some x25x) none (.mv (.t x8x)) (.cons (some 
  x26x) none (.bin .add (.t x25x) (.c (.n 1))) (.cons (some x8x) none (.mv (.t x26x)) .nil))))))))) (.seq (.reg (.cons (some x80x) none (.ld 2 true (.t x7x)) (.cons none none (.st 
  2 (.t x4x) (.t x80x)) (.cons (some x5x) none (.mv (.c (.n 0))) .nil)))) .ret)))))) [(.cell x4x 2 true), (.tmp x5x)])
theorem cc12 : compF Try.prog drops true false Try.f12 = some i12 := by kernel_rfl
noncomputable def i13 : FnI := (.mk true true (.seq (.reg (.cons (some x4x) none (.mv (.c (.b false))) .nil)) (.seq (.seq (.reg (.cons (some x6x) none (.mv (.t x0x)) (.cons (some x7x) none (.len (.t x6x)) (.cons 
  (some x8x) none (.mv (.t x1x)) (.cons (some x9x) none (.len (.t x8x)) (.cons (some x10x) none (.bin .neq (.t x7x) (.t x9x)) .nil)))))) (.cond (.t x10x) (.seq (.reg (.cons (some 
  x4x) none (.mv (.c (.b false))) .nil)) .ret) .skip)) (.seq (.seq (.reg (.cons (some x5x) none (.mv (.c (.n 0))) .nil)) (.block 0 (.loop (.seq (.seq (.reg (.cons (some x11x) none 
  (.mv (.t x5x)) (.cons (some x12x) none (.mv (.t x0x)) (.cons (some x13x) none (.len (.t x12x)) (.cons (some x14x) none (.bin .lss (.t x11x) (.t x13x)) .nil))))) (.cond (.t x14x) 
  .skip (.exit 0))) (.seq (.block 1 (.seq (.draw [(.mk (some x17x) none true [] false [] [] [x0x] (.mv (.t x0x)) false [] [] []), (.mk (some x18x) none true [] false [false] [] 
  [x5x] (.mv (.t x5x)) false [] [] []), (.mk (some x19x) none true [] false [true, true] [] [x17x, x18x] (.ixs 1 (.t x17x) (.t x18x)) false [] [] []), (.mk (some x20x) none false 
  [] false [true, true, true] [] [x19x] (.ld 1 false (.t x19x)) false [] [] []), (.mk (some x21x) none true [] false [false, false, false, false] [] [x1x] (.mv (.t x1x)) false [] 
  [] []), (.mk (some x22x) none true [] false [false, false, false, false, false] [] [x5x] (.mv (.t x5x)) false [] [] []), (.mk (some x23x) none true [] false [true, true, false, 
  false, false, false] [] [x21x, x22x] (.ixs 1 (.t x21x) (.t x22x)) false [] [] []), (.mk (some x24x) none false [] false [true, true, true, false, false, false, false] [] [x23x] 
  (.ld 1 false (.t x23x)) false [] [] []), (.mk (some x25x) none true [] false [true, true, true, true, true, true, true, true] [] [x20x, x24x] (.bin .neq (.t x20x) (.t x24x)) 
  false [] [] [])]) (.cond (.t x25x) (.seq (.reg (.cons (some x4x) none (.mv (.c (.b false))) .nil)) .ret) .skip))) (.reg (.cons (some x15x) none (.mv (.t x5x)) (.cons (some x16x) 
  none (.bin .add (.t x15x) (.c (.n 1))) (.cons (some x5x) none (.mv (.t x16x)) .nil))))))))) (.seq (.reg (.cons (some x4x) none (.mv (.c (.b true))) .nil)) .ret)))) [(.tmp x4x)])
theorem cc13 : compF Try.prog drops true true Try.f13 = some i13 := by kernel_rfl
noncomputable def i14 : FnI := (.mk true true (.seq (.reg (.cons (some x4x) none (.mv (.c (.b false))) .nil)) (.seq (.seq (.reg (.cons (some x6x) none (.mv (.t x0x)) (.cons (some x7x) none (.len (.t x6x)) (.cons 
  (some x8x) none (.mv (.t x1x)) (.cons (some x9x) none (.len (.t x8x)) (.cons (some x10x) none (.bin .neq (.t x7x) (.t x9x)) .nil)))))) (.cond (.t x10x) (.seq (.reg (.cons (some 
  x4x) none (.mv (.c (.b false))) .nil)) .ret) .skip)) (.seq (.seq (.reg (.cons (some x5x) none (.mv (.c (.n 0))) .nil)) (.block 0 (.loop (.seq (.seq (.reg (.cons (some x11x) none 
  (.mv (.t x5x)) (.cons (some x12x) none (.mv (.t x0x)) (.cons (some x13x) none (.len (.t x12x)) (.cons (some x14x) none (.bin .lss (.t x11x) (.t x13x)) .nil))))) (.cond (.t x14x) 
  .skip (.exit 0))) (.seq (.block 1 (.seq (.draw [(.mk (some x17x) none true [] false [] [] [x0x] (.mv (.t x0x)) false [] [] []), (.mk (some x18x) none true [] false [false] [] 
  [x5x] (.mv (.t x5x)) false [] [] []), (.mk (some x19x) none true [] false [true, true] [] [x17x, x18x] (.ixs 1 (.t x17x) (.t x18x)) false [] [] []), (.mk (some x20x) none false 
  [] false [true, true, true] [] [x19x] (.ld 1 false (.t x19x)) false [] [] []), (.mk (some x21x) none true [] false [false, false, false, false] [] [x1x] (.mv (.t x1x)) false [] 
  [] []), (.mk (some x22x) none true [] false [false, false, false, false, false] [] [x5x] (.mv (.t x5x)) false [] [] []), (.mk (some x23x) none true [] false [true, true, false, 
  false, false, false] [] [x21x, x22x] (.ixs 1 (.t x21x) (.t x22x)) false [] [] []), (.mk (some x24x) none false [] false [true, true, true, false, false, false, false] [] [x23x] 
  (.ld 1 false (.t x23x)) false [] [] []), (.mk (some x25x) none false [] false [true, true, true, true, true, true, true, true] [] [x20x, x24x] (.call 13 (.cons (.t x20x) (.cons 
  (.t x24x) .nil))) false [] [] []), (.mk (some x26x) none true [] false [true, true, true, true, true, true, true, true, true] [] [x25x] (.not (.t x25x)) false [] [] [])]) (.cond 
  (.t x26x) (.seq (.reg (.cons (some x4x) none (.mv (.c (.b false))) .nil)) .ret) .skip))) (.reg (.cons (some x15x) none (.mv (.t x5x)) (.cons (some x16x) none (.bin .add (.t x15x) 
  (.c (.n 1))) (.cons (some x5x) none (.mv (.t x16x)) .nil))))))))) (.seq (.reg (.cons (some x4x) none (.mv (.c (.b true))) .nil)) .ret)))) [(.tmp x4x)])
theorem cc14 : compF Try.prog drops true true Try.f14 = some i14 := by kernel_rfl
noncomputable def i15 : FnI := (.mk true false (.seq (.reg (.cons (some x2x) none (.mv (.c .ns)) .nil)) (.seq (.reg (.cons (some x3x) none (.mv (.c .ns)) .nil)) (.seq (.seq (.reg (.cons (some x4x) none (.mv (.c 
  (.n 0))) .nil)) (.block 0 (.loop (.seq (.seq (.reg (.cons (some x5x) none (.mv (.t x0x)) (.cons (some x6x) none (.mv (.t x4x)) (.cons (some x7x) none (.bin .shr (.t x5x) (.t 
  x6x)) (.cons (some x8x) none (.bin .neq (.t x7x) (.c (.n 0))) .nil))))) (.cond (.t x8x) .skip (.exit 0))) (.seq (.block 1 (.seq (.reg (.cons (some x11x) none (.mv (.t x0x)) 
  (.cons (some x12x) none (.mv (.t x4x)) (.cons (some x13x) none (.bin .shr (.t x11x) (.t x12x)) (.cons (some x14x) none (.bin .and (.t x13x) (.c (.n 1))) (.cons (some x15x) none 
  (.bin .eql (.t x14x) (.c (.n 1))) .nil)))))) (.cond (.t x15x) (.reg (.cons (some x16x) none (.mv (.t x3x)) (.cons (some x17x) none (.mv (.t x4x)) (.cons (some x18x) none (.bsl 3 
  1 1 (.cons (.n 0) .nil) (.cons 0 1 (.t x17x) .nil)) (.cons (some x19x) none (.app 3 1 8 (.t x16x) (.t x18x)) (.cons (some x3x) none (.mv (.t x19x)) .nil)))))) .skip))) (.reg 
  (.cons (some x9x) none (.mv (.t x4x)) (.cons (some x10x) none (.bin .add (.t x9x) (.c (.n 1))) (.cons (some x4x) none (.mv (.t x10x)) .nil))))))))) (.seq (.reg (.cons (some x20x) 
  none (.mv (.t x3x)) (.cons (some x2x) none (.mv (.t x20x)) .nil))) .ret)))) [(.tmp x2x)])
theorem cc15 : compF Try.prog drops true false Try.f15 = some i15 := by kernel_rfl
noncomputable def i16 : FnI := (.mk true true (.seq (.reg (.cons (some x3x) none (.mv (.c (.b false))) .nil)) (.seq (.reg (.cons (some x4x) none (.ld 1 false (.t x1x)) (.cons (some x5x) none (.mv (.t x0x)) 
  (.cons (some x6x) none (.call 17 (.cons (.t x4x) (.cons (.t x5x) .nil))) (.cons (some x3x) none (.mv (.t x6x)) .nil))))) .ret)) [(.tmp x3x)])
theorem cc16 : compF Try.prog drops true true Try.f16 = some i16 := by kernel_rfl
noncomputable def i17 : FnI := (.mk true true (.seq (.reg (.cons (some x4x) none (.mv (.c (.b false))) .nil)) (.seq (.reg (.cons (some x5x) none (.mv (.t x0x)) (.cons (some x6x) none (.mv (.t x1x)) (.cons (some 
  x7x) none (.call 43 (.cons (.t x5x) (.cons (.t x6x) .nil))) (.cons (some x8x) none (.bin .geq (.t x7x) (.c (.n 0))) (.cons (some x4x) none (.mv (.t x8x)) .nil)))))) .ret)) [(.tmp 
  x4x)])
theorem cc17 : compF Try.prog drops true true Try.f17 = some i17 := by kernel_rfl
noncomputable def i18 : FnI := (.mk true true (.seq (.reg (.cons (some x1x) none (.box 29 (.t x0x)) (.cons (some x2x) none (.mv (.c (.n 0))) .nil))) (.seq (.seq (.reg (.cons (some x5x) none (.fad 0 (.t x1x)) 
  (.cons (some x6x) none (.ld 1 false (.t x5x)) (.cons (some x7x) none (.call 44 (.cons (.t x6x) .nil)) (.cons (some x8x) none (.not (.t x7x)) .nil))))) (.cond (.t x8x) (.seq (.reg 
  (.cons (some x2x) none (.mv (.c (.n 1))) .nil)) .ret) .skip)) (.seq (.seq (.reg (.cons (some x9x) none (.fad 1 (.t x1x)) (.cons (some x10x) none (.ld 1 false (.t x9x)) (.cons 
  (some x11x) none (.len (.t x10x)) (.cons (some x12x) none (.fad 0 (.t x1x)) (.cons (some x13x) none (.ld 1 false (.t x12x)) (.cons (some x14x) none (.bin .neq (.t x11x) (.t 
  x13x)) .nil))))))) (.cond (.t x14x) (.seq (.reg (.cons (some x2x) none (.mv (.c (.n 5))) .nil)) .ret) .skip)) (.seq (.seq (.reg (.cons (some x15x) none (.fad 1 (.t x1x)) (.cons 
  (some x16x) none (.ld 1 false (.t x15x)) (.cons (some x17x) none (.len (.t x16x)) (.cons (some x18x) none (.mv (.c (.n 0))) .nil))))) (.block 0 (.loop (.seq (.reg (.cons (some 
  x19x) none (.bin .lss (.t x18x) (.t x17x)) .nil)) (.seq (.cond (.t x19x) .skip (.exit 0)) (.seq (.block 1 (.seq (.reg (.cons (some x20x) none (.ixs 1 (.t x16x) (.t x18x)) (.cons 
  (some x21x) none (.ld 1 false (.t x20x)) (.cons (some x4x) none (.mv (.t x21x)) .nil)))) (.seq (.seq (.reg (.cons (some x22x) none (.mv (.t x4x)) (.cons (some x23x) none (.len 
  (.t x22x)) (.cons (some x24x) none (.fad 0 (.t x1x)) (.cons (some x25x) none (.ld 1 false (.t x24x)) (.cons (some x26x) none (.call 45 (.cons (.t x25x) .nil)) (.cons (some x27x) 
  none (.bin .neq (.t x23x) (.t x26x)) .nil))))))) (.cond (.t x27x) (.seq (.reg (.cons (some x2x) none (.mv (.c (.n 5))) .nil)) .ret) .skip)) (.seq (.reg (.cons (some x28x) none 
  (.mv (.t x4x)) (.cons (some x29x) none (.call 46 (.cons (.t x28x) (.cons (.c (.fn 47 .nil .nil)) .nil))) .nil))) (.cond (.t x29x) (.seq (.reg (.cons (some x2x) none (.mv (.c (.n 
  1))) .nil)) .ret) .skip))))) (.reg (.cons (some x30x) none (.bin .add (.t x18x) (.c (.n 1))) (.cons (some x18x) none (.mv (.t x30x)) .nil))))))))) (.seq (.reg (.cons (some x2x) 
  none (.mv (.c (.n 0))) .nil)) .ret))))) [(.tmp x2x)])
theorem cc18 : compF Try.prog drops true true Try.f18 = some i18 := by kernel_rfl
noncomputable def i19 : FnI := (.mk true true (.seq (.reg (.cons (some x6x) none (.mv (.c (.n 0))) .nil)) (.seq (.reg (.cons (some x7x) none (.mv (.c (.n 0))) .nil)) (.seq (.seq (.reg (.cons (some x9x) none (.mv 
  (.t x0x)) (.cons (some x10x) none (.bin .sub (.t x9x) (.c (.n 1))) (.cons (some x8x) none (.mv (.t x10x)) .nil)))) (.block 0 (.loop (.seq (.seq (.reg (.cons (some x11x) none (.mv 
  (.t x8x)) (.cons (some x12x) none (.bin .geq (.t x11x) (.c (.n 0))) .nil))) (.cond (.t x12x) .skip (.exit 0))) (.seq (.block 1 (.seq (.reg (.cons (some x15x) none (.mv (.t x8x)) 
  (.cons (some x16x) none (.mv (.t x2x)) (.cons (some x17x) none (.bin .neq (.t x15x) (.t x16x)) .nil)))) (.cond (.t x17x) (.reg (.cons (some x18x) none (.mv (.t x7x)) (.cons (some 
  x19x) none (.bin .mul (.c (.n 2)) (.t x18x)) (.cons (some x20x) none (.mv (.t x1x)) (.cons (some x21x) none (.mv (.t x8x)) (.cons (some x22x) none (.bin .shr (.t x20x) (.t x21x)) 
  (.cons (some x23x) none (.bin .and (.t x22x) (.c (.n 1))) (.cons (some x24x) none (.bin .add (.t x19x) (.t x23x)) (.cons (some x7x) none (.mv (.t x24x)) .nil))))))))) .skip))) 
  (.reg (.cons (some x13x) none (.mv (.t x8x)) (.cons (some x14x) none (.bin .sub (.t x13x) (.c (.n 1))) (.cons (some x8x) none (.mv (.t x14x)) .nil))))))))) (.seq (.reg (.cons 
  (some x25x) none (.mv (.t x7x)) (.cons (some x6x) none (.mv (.t x25x)) .nil))) .ret)))) [(.tmp x6x)])
theorem cc19 : compF Try.prog drops true true Try.f19 = some i19 := by kernel_rfl
noncomputable def i20 : FnI := (.mk true false (.seq (.reg (.cons (some x1x) none (.box 29 (.t x0x)) (.cons (some x2x) none (.mv (.c .ns)) (.cons (some x3x) none (.mv (.c (.n 0))) .nil)))) (.seq (.seq (.reg 
  (.cons (some x8x) none (.ld 2 true (.t x1x)) (.cons (some x9x) none (.call 18 (.cons (.t x8x) .nil)) (.cons (some x4x) none (.mv (.t x9x)) .nil)))) (.seq (.reg (.cons (some x10x) 
  none (.mv (.t x4x)) (.cons (some x11x) none (.bin .neq (.t x10x) (.c (.n 0))) .nil))) (.cond (.t x11x) (.seq (.reg (.cons (some x12x) none (.mv (.t x4x)) (.cons (some x2x) none 
  (.mv (.c .ns)) (.cons (some x3x) none (.mv (.t x12x)) .nil)))) .ret) .skip))) (.seq (.reg (.cons (some x5x) none (.mv (.c .ns)) .nil)) (.seq (.seq (.reg (.cons (some x13x) none 
  (.ld 2 true (.t x1x)) (.cons (some x14x) none (.call 48 (.cons (.t x13x) .nil)) (.cons (some x15x) none (.len (.t x14x)) (.cons (some x16x) none (.mv (.c (.n 0))) .nil))))) 
  (.block 0 (.loop (.seq (.reg (.cons (some x17x) none (.bin .lss (.t x16x) (.t x15x)) .nil)) (.seq (.cond (.t x17x) .skip (.exit 0)) (.seq (.block 1 (.seq (.reg (.cons (some x18x) 
  none (.ixs 3 (.t x14x) (.t x16x)) (.cons (some x19x) none (.ld 3 true (.t x18x)) (.cons (some x7x) none (.alloc 71 (.cons (.n 0) (.cons .ns (.cons (.n 0) .nil))) 3) (.cons none 
  none (.st 3 (.t x7x) (.t x19x)) .nil))))) (.seq (.reg (.cons (some x20x) none (.ld 3 true (.t x7x)) (.cons (some x21x) none (.call 49 (.cons (.t x20x) .nil)) .nil))) (.cond (.t 
  x21x) (.reg (.cons (some x22x) none (.mv (.t x5x)) (.cons (some x23x) none (.fad 2 (.t x7x)) (.cons (some x24x) none (.ld 1 false (.t x23x)) (.cons (some x25x) none (.bsl 3 1 1 
  (.cons (.n 0) .nil) (.cons 0 1 (.t x24x) .nil)) (.cons (some x26x) none (.app 3 1 8 (.t x22x) (.t x25x)) (.cons (some x5x) none (.mv (.t x26x)) .nil))))))) .skip)))) (.reg (.cons 
  (some x27x) none (.bin .add (.t x16x) (.c (.n 1))) (.cons (some x16x) none (.mv (.t x27x)) .nil))))))))) (.seq (.reg (.cons (some x28x) none (.mv (.t x5x)) (.cons (some x2x) none 
  (.mv (.t x28x)) (.cons (some x3x) none (.mv (.c (.n 0))) .nil)))) .ret))))) [(.tmp x2x), (.tmp x3x)])
theorem cc20 : compF Try.prog drops true false Try.f20 = some i20 := by kernel_rfl
noncomputable def i21 : FnI := (.mk true true (.seq (.reg (.cons (some x2x) none (.mv (.c (.b false))) .nil)) (.seq (.seq (.reg (.cons (some x4x) none (.mv (.t x0x)) (.cons (some x5x) none (.len (.t x4x)) (.cons 
  (some x6x) none (.bin .sub (.t x5x) (.c (.n 1))) (.cons (some x3x) none (.mv (.t x6x)) .nil))))) (.block 0 (.loop (.seq (.seq (.reg (.cons (some x7x) none (.mv (.t x3x)) (.cons 
  (some x8x) none (.bin .gtr (.t x7x) (.c (.n 0))) .nil))) (.cond (.t x8x) .skip (.exit 0))) (.seq (.block 1 (.seq (.draw [(.mk (some x11x) none true [] false [] [] [x0x] (.mv (.t 
  x0x)) false [] [] []), (.mk (some x12x) none true [] false [false] [] [x3x] (.mv (.t x3x)) false [] [] []), (.mk (some x13x) none true [] false [true, true] [] [x11x, x12x] (.ixs 
  1 (.t x11x) (.t x12x)) false [] [] []), (.mk (some x14x) none false [] false [true, true, true] [] [x13x] (.ld 1 false (.t x13x)) false [] [] []), (.mk (some x15x) none true [] 
  false [false, false, false, false] [] [x0x] (.mv (.t x0x)) false [] [] []), (.mk (some x16x) none true [] false [false, false, false, false, false] [] [x3x] (.mv (.t x3x)) false 
  [] [] []), (.mk (some x17x) none true [] false [true, false, false, false, false, false] [] [x16x] (.bin .sub (.t x16x) (.c (.n 1))) false [] [] []), (.mk (some x18x) none true 
  [] false [true, true, true, false, false, false, false] [] [x15x, x17x] (.ixs 1 (.t x15x) (.t x17x)) false [] [] []), (.mk (some x19x) none false [] false [true, true, true, 
  true, false, false, false, false] [] [x18x] (.ld 1 false (.t x18x)) false [] [] []), (.mk (some x20x) none false [] false [true, true, true, true, true, true, true, true, true] 
  [] [x14x, x19x] (.call 50 (.cons (.t x14x) (.cons (.t x19x) .nil))) false [] [] [])]) (.cond (.t x20x) (.seq (.reg (.cons (some x2x) none (.mv (.c (.b false))) .nil)) .ret) 
  .skip))) (.reg (.cons (some x9x) none (.mv (.t x3x)) (.cons (some x10x) none (.bin .sub (.t x9x) (.c (.n 1))) (.cons (some x3x) none (.mv (.t x10x)) .nil))))))))) (.seq (.reg 
  (.cons (some x2x) none (.mv (.c (.b true))) .nil)) .ret))) [(.tmp x2x)])
theorem cc21 : compF Try.prog drops true true Try.f21 = some i21 := by kernel_rfl
noncomputable def i22 : FnI := (.mk true true (.seq (.reg (.cons (some x6x) none (.mv (.c (.n 0))) (.cons (some x7x) none (.mv (.c (.n 0))) .nil))) (.seq (.seq (.reg (.cons (some x8x) none (.mv (.t x0x)) (.cons 
  (some x9x) none (.call 44 (.cons (.t x8x) .nil)) (.cons (some x10x) none (.not (.t x9x)) .nil)))) (.cond (.t x10x) (.seq (.reg (.cons (some x6x) none (.mv (.c (.n 0))) (.cons 
  (some x7x) none (.mv (.c (.n 1))) .nil))) .ret) .skip)) (.seq (.seq (.reg (.cons (some x11x) none (.mv (.t x0x)) (.cons (some x12x) none (.mv (.t x1x)) (.cons (some x13x) none 
  (.call 51 (.cons (.t x11x) (.cons (.t x12x) .nil))) (.cons (some x14x) none (.not (.t x13x)) (.cons (some x15x) none (.mv (.t x14x)) (.cons (some x16x) (some (.mk x15x false)) 
  (.mv (.t x2x)) (.cons (some x17x) (some (.mk x15x false)) (.bin .lss (.t x16x) (.c (.n 0))) (.cons (some x18x) none (.pick (.t x15x) (.c (.b true)) (.t x17x)) (.cons (some x19x) 
  none (.mv (.t x18x)) (.cons (some x20x) (some (.mk x19x false)) (.mv (.t x2x)) (.cons (some x21x) (some (.mk x19x false)) (.mv (.t x0x)) (.cons (some x22x) (some (.mk x19x 
  false)) (.bin .geq (.t x20x) (.t x21x)) (.cons (some x23x) none (.pick (.t x19x) (.c (.b true)) (.t x22x)) .nil)))))))))))))) (.cond (.t x23x) (.seq (.reg (.cons (some x6x) none 
  (.mv (.c (.n 0))) (.cons (some x7x) none (.mv (.c (.n 2))) .nil))) .ret) .skip)) (.seq (.reg (.cons (some x24x) none (.mv (.t x1x)) (.cons (some x25x) none (.mv (.t x2x)) (.cons 
  (some x26x) none (.call 52 (.cons (.t x24x) (.cons (.t x25x) .nil))) (.cons (some x6x) none (.mv (.t x26x)) (.cons (some x7x) none (.mv (.c (.n 0))) .nil)))))) .ret)))) [(.tmp 
  x6x), (.tmp x7x)])
theorem cc22 : compF Try.prog drops true true Try.f22 = some i22 := by kernel_rfl
noncomputable def i23 : FnI := (.mk true false (.seq (.reg (.cons (some x2x) none (.box 29 (.t x0x)) (.cons (some x4x) none (.mv (.c .ns)) (.cons (some x5x) none (.mv (.c (.n 0))) .nil)))) (.seq (.seq (.reg 
  (.cons (some x7x) none (.ld 2 true (.t x2x)) (.cons (some x8x) none (.call 18 (.cons (.t x7x) .nil)) (.cons (some x6x) none (.mv (.t x8x)) .nil)))) (.seq (.reg (.cons (some x9x) 
  none (.mv (.t x6x)) (.cons (some x10x) none (.bin .neq (.t x9x) (.c (.n 0))) .nil))) (.cond (.t x10x) (.seq (.reg (.cons (some x11x) none (.mv (.t x6x)) (.cons (some x4x) none 
  (.mv (.c .ns)) (.cons (some x5x) none (.mv (.t x11x)) .nil)))) .ret) .skip))) (.seq (.seq (.reg (.cons (some x12x) none (.fad 0 (.t x2x)) (.cons (some x13x) none (.ld 1 false (.t 
  x12x)) (.cons (some x14x) none (.mv (.t x1x)) (.cons (some x15x) none (.call 51 (.cons (.t x13x) (.cons (.t x14x) .nil))) (.cons (some x16x) none (.not (.t x15x)) .nil)))))) 
  (.cond (.t x16x) (.seq (.reg (.cons (some x4x) none (.mv (.c .ns)) (.cons (some x5x) none (.mv (.c (.n 2))) .nil))) .ret) .skip)) (.seq (.reg (.cons (some x17x) none (.ld 2 true 
  (.t x2x)) (.cons (some x18x) none (.mv (.t x1x)) (.cons (some x19x) none (.build (.cons (.n 0) (.cons .ns (.cons (.n 0) .nil))) (.cons 0 2 (.t x17x) (.cons 2 1 (.t x18x) .nil))) 
  (.cons (some x20x) none (.call 53 (.cons (.t x19x) .nil)) (.cons (some x4x) none (.mv (.t x20x)) (.cons (some x5x) none (.mv (.c (.n 0))) .nil))))))) .ret)))) [(.tmp x4x), (.tmp 
  x5x)])
theorem cc23 : compF Try.prog drops true false Try.f23 = some i23 := by kernel_rfl
noncomputable def i24 : FnI := (.mk true false (.seq (.reg (.cons (some x0x) none (.alloc 29 (.cons (.n 0) (.cons .ns .nil)) 2) .nil)) (.seq (.reg (.cons (some x1x) none (.bsl 3 1 2 (.cons (.n 0) (.cons (.n 0) 
  .nil)) (.cons 0 1 (.c (.n 1)) (.cons 1 1 (.c (.n 1)) .nil))) (.cons (some x2x) none (.call 26 (.cons (.t x1x) .nil)) (.cons (some x3x) none (.bsl 3 1 2 (.cons (.n 0) (.cons (.n 
  0) .nil)) (.cons 0 1 (.c (.n 2)) (.cons 1 1 (.c (.n 2)) .nil))) (.cons (some x4x) none (.call 26 (.cons (.t x3x) .nil)) (.cons (some x5x) none (.bsl 22 1 2 (.cons .ns (.cons .ns 
  .nil)) (.cons 0 1 (.t x2x) (.cons 1 1 (.t x4x) .nil))) (.cons (some x6x) none (.call 31 (.cons (.t x5x) .nil)) (.cons (some x7x) none (.build (.cons (.n 0) (.cons .ns .nil)) 
  (.cons 0 1 (.c (.n 2)) (.cons 1 1 (.t x6x) .nil))) (.cons none none (.st 2 (.t x0x) (.t x7x)) .nil))))))))) .ret)) [(.cell x0x 2 true)])
theorem cc24 : compF Try.prog drops true false Try.f24 = some i24 := by kernel_rfl
noncomputable def i25 : FnI := (.mk true true (.seq (.reg (.cons (some x1x) none (.box 29 (.t x0x)) (.cons (some x2x) none (.mv (.c (.n 0))) (.cons (some x3x) none (.mv (.c (.n 0))) (.cons (some x4x) none (.mv 
  (.c (.n 0))) .nil))))) (.seq (.seq (.reg (.cons (some x10x) none (.ld 2 true (.t x1x)) (.cons (some x11x) none (.call 18 (.cons (.t x10x) .nil)) (.cons (some x5x) none (.mv (.t 
  x11x)) .nil)))) (.seq (.reg (.cons (some x12x) none (.mv (.t x5x)) (.cons (some x13x) none (.bin .neq (.t x12x) (.c (.n 0))) .nil))) (.cond (.t x13x) (.seq (.reg (.cons (some 
  x14x) none (.mv (.t x5x)) (.cons (some x2x) none (.mv (.c (.n 0))) (.cons (some x3x) none (.mv (.c (.n 0))) (.cons (some x4x) none (.mv (.t x14x)) .nil))))) .ret) .skip))) (.seq 
  (.seq (.reg (.cons (some x15x) none (.ld 2 true (.t x1x)) (.cons (some x16x) none (.call 48 (.cons (.t x15x) .nil)) (.cons (some x17x) none (.len (.t x16x)) (.cons (some x18x) 
  none (.mv (.c (.n 0))) .nil))))) (.block 0 (.loop (.seq (.reg (.cons (some x19x) none (.bin .lss (.t x18x) (.t x17x)) .nil)) (.seq (.cond (.t x19x) .skip (.exit 0)) (.seq (.block 
  1 (.seq (.reg (.cons (some x20x) none (.ixs 3 (.t x16x) (.t x18x)) (.cons (some x21x) none (.ld 3 true (.t x20x)) (.cons (some x7x) none (.alloc 71 (.cons (.n 0) (.cons .ns 
  (.cons (.n 0) .nil))) 3) (.cons none none (.st 3 (.t x7x) (.t x21x)) .nil))))) (.seq (.reg (.cons (some x23x) none (.ld 3 true (.t x7x)) (.cons (some x24x) none (.call 54 (.cons 
  (.t x23x) .nil)) (.cons (some x22x) none (.mv (.t x24x)) (.cons (some x25x) none (.ext 0 (.t x22x)) (.cons (some x26x) none (.ext 1 (.t x22x)) (.cons (some x8x) none (.mv (.t 
  x25x)) (.cons (some x9x) none (.mv (.t x26x)) .nil)))))))) (.seq (.reg (.cons (some x27x) none (.mv (.t x2x)) (.cons (some x28x) none (.mv (.t x8x)) (.cons (some x29x) none (.bin 
  .add (.t x27x) (.t x28x)) (.cons (some x2x) none (.mv (.t x29x)) .nil))))) (.reg (.cons (some x30x) none (.mv (.t x3x)) (.cons (some x31x) none (.mv (.t x9x)) (.cons (some x32x) 
  none (.bin .add (.t x30x) (.t x31x)) (.cons (some x3x) none (.mv (.t x32x)) .nil))))))))) (.reg (.cons (some x33x) none (.bin .add (.t x18x) (.c (.n 1))) (.cons (some x18x) none 
  (.mv (.t x33x)) .nil))))))))) (.seq (.reg (.cons (some x34x) none (.mv (.t x2x)) (.cons (some x35x) none (.mv (.t x3x)) (.cons (some x2x) none (.mv (.t x34x)) (.cons (some x3x) 
  none (.mv (.t x35x)) (.cons (some x4x) none (.mv (.c (.n 0))) .nil)))))) .ret)))) [(.tmp x2x), (.tmp x3x), (.tmp x4x)])
theorem cc25 : compF Try.prog drops true true Try.f25 = some i25 := by kernel_rfl
noncomputable def i26 : FnI := (.mk true false (.seq (.reg (.cons (some x2x) none (.mv (.c .ns)) .nil)) (.seq (.reg (.cons (some x3x) none (.mv (.t x0x)) (.cons (some x2x) none (.mv (.t x3x)) .nil))) .ret)) 
  [(.tmp x2x)])
theorem cc26 : compF Try.prog drops true false Try.f26 = some i26 := by kernel_rfl
noncomputable def i27 : FnI := (.mk true false (.seq (.reg (.cons (some x2x) none (.mv (.c .ns)) (.cons (some x3x) none (.mv (.c (.n 0))) .nil))) (.seq (.seq (.reg (.cons (some x7x) none (.mv (.t x0x)) (.cons 
  (some x8x) none (.call 55 (.cons (.t x7x) .nil)) (.cons (some x4x) none (.mv (.t x8x)) .nil)))) (.seq (.reg (.cons (some x9x) none (.mv (.t x4x)) (.cons (some x10x) none (.bin 
  .neq (.t x9x) (.c (.n 0))) .nil))) (.cond (.t x10x) (.seq (.reg (.cons (some x11x) none (.mv (.t x4x)) (.cons (some x2x) none (.mv (.c .ns)) (.cons (some x3x) none (.mv (.t 
  x11x)) .nil)))) .ret) .skip))) (.seq (.reg (.cons (some x5x) none (.mv (.c .ns)) .nil)) (.seq (.seq (.reg (.cons (some x12x) none (.mv (.t x0x)) (.cons (some x13x) none (.call 56 
  (.cons (.t x12x) .nil)) (.cons (some x14x) none (.mv (.c (.n 0))) .nil)))) (.block 0 (.loop (.seq (.reg (.cons (some x15x) none (.bin .lss (.t x14x) (.t x13x)) .nil)) (.seq 
  (.cond (.t x15x) .skip (.exit 0)) (.seq (.block 1 (.seq (.reg (.cons (some x16x) none (.mv (.t x14x)) (.cons (some x6x) none (.mv (.t x16x)) .nil))) (.seq (.reg (.cons (some 
  x17x) none (.mv (.t x0x)) (.cons (some x18x) none (.mv (.t x6x)) (.cons (some x19x) none (.call 57 (.cons (.t x17x) (.cons (.t x18x) .nil))) (.cons (some x20x) none (.bin .eql 
  (.t x19x) (.c (.n 0))) .nil))))) (.cond (.t x20x) (.reg (.cons (some x21x) none (.mv (.t x5x)) (.cons (some x22x) none (.mv (.t x6x)) (.cons (some x23x) none (.bsl 3 1 1 (.cons 
  (.n 0) .nil) (.cons 0 1 (.t x22x) .nil)) (.cons (some x24x) none (.app 3 1 8 (.t x21x) (.t x23x)) (.cons (some x5x) none (.mv (.t x24x)) .nil)))))) .skip)))) (.reg (.cons (some 
  x25x) none (.bin .add (.t x14x) (.c (.n 1))) (.cons (some x14x) none (.mv (.t x25x)) .nil))))))))) (.seq (.reg (.cons (some x26x) none (.mv (.t x5x)) (.cons (some x2x) none (.mv 
  (.t x26x)) (.cons (some x3x) none (.mv (.c (.n 0))) .nil)))) .ret))))) [(.tmp x2x), (.tmp x3x)])
theorem cc27 : compF Try.prog drops true false Try.f27 = some i27 := by kernel_rfl
noncomputable def i28 : FnI := (.mk true true (.seq (.reg (.cons (some x4x) none (.mv (.c (.n 0))) (.cons (some x5x) none (.mv (.c (.n 0))) .nil))) (.seq (.seq (.reg (.cons (some x7x) none (.mv (.t x0x)) (.cons 
  (some x8x) none (.call 55 (.cons (.t x7x) .nil)) (.cons (some x6x) none (.mv (.t x8x)) .nil)))) (.seq (.reg (.cons (some x9x) none (.mv (.t x6x)) (.cons (some x10x) none (.bin 
  .neq (.t x9x) (.c (.n 0))) .nil))) (.cond (.t x10x) (.seq (.reg (.cons (some x11x) none (.mv (.t x6x)) (.cons (some x4x) none (.mv (.c (.n 0))) (.cons (some x5x) none (.mv (.t 
  x11x)) .nil)))) .ret) .skip))) (.seq (.seq (.reg (.cons (some x12x) none (.mv (.t x0x)) (.cons (some x13x) none (.mv (.t x1x)) (.cons (some x14x) none (.call 51 (.cons (.t x12x) 
  (.cons (.t x13x) .nil))) (.cons (some x15x) none (.not (.t x14x)) .nil))))) (.cond (.t x15x) (.seq (.reg (.cons (some x4x) none (.mv (.c (.n 0))) (.cons (some x5x) none (.mv (.c 
  (.n 2))) .nil))) .ret) .skip)) (.seq (.reg (.cons (some x16x) none (.mv (.t x0x)) (.cons (some x17x) none (.mv (.t x1x)) (.cons (some x18x) none (.call 58 (.cons (.t x16x) (.cons 
  (.t x17x) .nil))) (.cons (some x4x) none (.mv (.t x18x)) (.cons (some x5x) none (.mv (.c (.n 0))) .nil)))))) .ret)))) [(.tmp x4x), (.tmp x5x)])
theorem cc28 : compF Try.prog drops true true Try.f28 = some i28 := by kernel_rfl
noncomputable def i29 : FnI := (.mk true false (.seq (.reg (.cons (some x2x) none (.mv (.c .ns)) (.cons (some x3x) none (.mv (.c (.n 0))) .nil))) (.seq (.seq (.reg (.cons (some x5x) none (.mv (.t x0x)) (.cons 
  (some x6x) none (.call 59 (.cons (.t x5x) .nil)) (.cons (some x4x) none (.mv (.t x6x)) .nil)))) (.seq (.reg (.cons (some x7x) none (.mv (.t x4x)) (.cons (some x8x) none (.bin 
  .neq (.t x7x) (.c (.n 0))) .nil))) (.cond (.t x8x) (.seq (.reg (.cons (some x9x) none (.mv (.t x4x)) (.cons (some x2x) none (.mv (.c .ns)) (.cons (some x3x) none (.mv (.t x9x)) 
  .nil)))) .ret) .skip))) (.seq (.reg (.cons (some x10x) none (.mv (.t x0x)) (.cons (some x11x) none (.call 60 (.cons (.t x10x) .nil)) (.cons (some x2x) none (.mv (.t x11x)) (.cons 
  (some x3x) none (.mv (.c (.n 0))) .nil))))) .ret))) [(.tmp x2x), (.tmp x3x)])
theorem cc29 : compF Try.prog drops true false Try.f29 = some i29 := by kernel_rfl
noncomputable def i30 : FnI := (.mk true true (.seq (.reg (.cons (some x2x) none (.mv (.c (.n 0))) (.cons (some x3x) none (.mv (.c (.n 0))) .nil))) (.seq (.seq (.reg (.cons (some x5x) none (.mv (.t x0x)) (.cons 
  (some x6x) none (.call 59 (.cons (.t x5x) .nil)) (.cons (some x4x) none (.mv (.t x6x)) .nil)))) (.seq (.reg (.cons (some x7x) none (.mv (.t x4x)) (.cons (some x8x) none (.bin 
  .neq (.t x7x) (.c (.n 0))) .nil))) (.cond (.t x8x) (.seq (.reg (.cons (some x9x) none (.mv (.t x4x)) (.cons (some x2x) none (.mv (.c (.n 0))) (.cons (some x3x) none (.mv (.t 
  x9x)) .nil)))) .ret) .skip))) (.seq (.reg (.cons (some x10x) none (.mv (.t x0x)) (.cons (some x11x) none (.call 56 (.cons (.t x10x) .nil)) (.cons (some x12x) none (.mv (.t x0x)) 
  (.cons (some x13x) none (.call 60 (.cons (.t x12x) .nil)) (.cons (some x14x) none (.len (.t x13x)) (.cons (some x15x) none (.bin .sub (.t x11x) (.t x14x)) (.cons (some x2x) none 
  (.mv (.t x15x)) (.cons (some x3x) none (.mv (.c (.n 0))) .nil))))))))) .ret))) [(.tmp x2x), (.tmp x3x)])
theorem cc30 : compF Try.prog drops true true Try.f30 = some i30 := by kernel_rfl
noncomputable def i31 : FnI := (.mk true false (.seq (.reg (.cons (some x2x) none (.mv (.c .ns)) .nil)) (.seq (.reg (.cons (some x3x) none (.mv (.t x0x)) (.cons (some x2x) none (.mv (.t x3x)) .nil))) .ret)) 
  [(.tmp x2x)])
theorem cc31 : compF Try.prog drops true false Try.f31 = some i31 := by kernel_rfl
noncomputable def i32 : FnI := (.mk true true (.seq (.reg (.cons (some x4x) none (.mv (.c (.n 0))) .nil)) (.seq (.seq (.reg (.cons (some x7x) none (.mv (.t x0x)) (.cons (some x8x) none (.call 44 (.cons (.t x7x) 
  .nil)) (.cons (some x9x) none (.not (.t x8x)) .nil)))) (.cond (.t x9x) (.seq (.reg (.cons (some x4x) none (.mv (.c (.n 1))) .nil)) .ret) .skip)) (.seq (.seq (.reg (.cons (some 
  x10x) none (.mv (.t x1x)) (.cons (some x11x) none (.len (.t x10x)) (.cons (some x12x) none (.mv (.c (.n 0))) .nil)))) (.block 0 (.loop (.seq (.reg (.cons (some x13x) none (.bin 
  .lss (.t x12x) (.t x11x)) .nil)) (.seq (.cond (.t x13x) .skip (.exit 0)) (.seq (.block 1 (.seq (.reg (.cons (some x14x) none (.mv (.t x12x)) (.cons (some x15x) none (.ixs 1 (.t 
  x10x) (.t x12x)) (.cons (some x16x) none (.ld 1 false (.t x15x)) (.cons (some x5x) none (.mv (.t x14x)) (.cons (some x6x) none (.mv (.t x16x)) .nil)))))) (.seq (.seq (.reg (.cons 
  (some x17x) none (.mv (.t x0x)) (.cons (some x18x) none (.mv (.t x6x)) (.cons (some x19x) none (.call 51 (.cons (.t x17x) (.cons (.t x18x) .nil))) (.cons (some x20x) none (.not 
  (.t x19x)) .nil))))) (.cond (.t x20x) (.seq (.reg (.cons (some x4x) none (.mv (.c (.n 2))) .nil)) .ret) .skip)) (.seq (.reg (.cons (some x21x) none (.mv (.t x5x)) (.cons (some 
  x22x) none (.bin .gtr (.t x21x) (.c (.n 0))) (.cons (some x23x) none (.mv (.t x22x)) (.cons (some x24x) (some (.mk x23x true)) (.mv (.t x6x)) (.cons (some x25x) (some (.mk x23x 
  true)) (.mv (.t x1x)) (.cons (some x26x) (some (.mk x23x true)) (.mv (.t x5x)) (.cons (some x27x) (some (.mk x23x true)) (.bin .sub (.t x26x) (.c (.n 1))) (.cons (some x28x) 
  (some (.mk x23x true)) (.ixs 1 (.t x25x) (.t x27x)) (.cons (some x29x) (some (.mk x23x true)) (.ld 1 false (.t x28x)) (.cons (some x30x) (some (.mk x23x true)) (.bin .leq (.t 
  x24x) (.t x29x)) (.cons (some x31x) none (.pick (.t x23x) (.t x30x) (.c (.b false))) .nil)))))))))))) (.cond (.t x31x) (.seq (.reg (.cons (some x4x) none (.mv (.c (.n 7))) .nil)) 
  .ret) .skip))))) (.reg (.cons (some x32x) none (.bin .add (.t x12x) (.c (.n 1))) (.cons (some x12x) none (.mv (.t x32x)) .nil))))))))) (.seq (.reg (.cons (some x4x) none (.mv (.c 
  (.n 0))) .nil)) .ret)))) [(.tmp x4x)])
theorem cc32 : compF Try.prog drops true true Try.f32 = some i32 := by kernel_rfl
noncomputable def i33 : FnI := (.mk true false (.seq (.reg (.cons (some x4x) none (.mv (.c .ns)) .nil)) (.seq (.reg (.cons (some x9x) none (.mv (.t x0x)) (.cons (some x10x) none (.call 56 (.cons (.t x9x) .nil)) 
  (.cons (some x11x) none (.mks 3 1 8 1 (.cons (.n 0) .nil) (.t x10x) (.t x10x)) (.cons (some x5x) none (.mv (.t x11x)) .nil))))) (.seq (.seq (.reg (.cons (some x12x) none (.mv (.t 
  x1x)) (.cons (some x13x) none (.len (.t x12x)) (.cons (some x14x) none (.mv (.c (.n 0))) .nil)))) (.block 0 (.loop (.seq (.reg (.cons (some x15x) none (.bin .lss (.t x14x) (.t 
  x13x)) .nil)) (.seq (.cond (.t x15x) .skip (.exit 0)) (.seq (.block 1 (.seq (.reg (.cons (some x16x) none (.ixs 1 (.t x12x) (.t x14x)) (.cons (some x17x) none (.ld 1 false (.t 
  x16x)) (.cons (some x7x) none (.mv (.t x17x)) .nil)))) (.seq (.reg (.cons (some x18x) none (.mv (.t x5x)) (.cons (some x19x) none (.mv (.t x7x)) (.cons (some x20x) none (.ixs 1 
  (.t x18x) (.t x19x)) (.cons (some x21x) none (.ld 1 false (.t x20x)) (.cons (some x22x) none (.bin .add (.t x21x) (.c (.n 1))) (.cons (some x23x) none (.ixs 1 (.t x18x) (.t 
  x19x)) (.cons none none (.st 1 (.t x23x) (.t x22x)) .nil)))))))) (.seq (.reg (.cons (some x24x) none (.mv (.t x0x)) (.cons (some x25x) none (.mv (.c (.n 0))) .nil))) (.block 2 
  (.loop (.seq (.reg (.cons (some x26x) none (.bin .lss (.t x25x) (.t x24x)) .nil)) (.seq (.cond (.t x26x) .skip (.exit 2)) (.seq (.block 3 (.seq (.reg (.cons (some x27x) none (.mv 
  (.t x25x)) (.cons (some x8x) none (.mv (.t x27x)) .nil))) (.reg (.cons (some x28x) none (.mv (.t x5x)) (.cons (some x29x) none (.mv (.t x7x)) (.cons (some x30x) none (.mv (.t 
  x8x)) (.cons (some x31x) none (.call 61 (.cons (.t x29x) (.cons (.t x30x) .nil))) (.cons (some x32x) none (.ixs 1 (.t x28x) (.t x31x)) (.cons (some x33x) none (.ld 1 false (.t 
  x32x)) (.cons (some x34x) none (.bin .add (.t x33x) (.c (.n 1))) (.cons (some x35x) none (.ixs 1 (.t x28x) (.t x31x)) (.cons none none (.st 1 (.t x35x) (.t x34x)) 
  .nil)))))))))))) (.reg (.cons (some x36x) none (.bin .add (.t x25x) (.c (.n 1))) (.cons (some x25x) none (.mv (.t x36x)) .nil)))))))))))) (.reg (.cons (some x37x) none (.bin .add 
  (.t x14x) (.c (.n 1))) (.cons (some x14x) none (.mv (.t x37x)) .nil))))))))) (.seq (.reg (.cons (some x38x) none (.mv (.t x5x)) (.cons (some x4x) none (.mv (.t x38x)) .nil))) 
  .ret)))) [(.tmp x4x)])
theorem cc33 : compF Try.prog drops true false Try.f33 = some i33 := by kernel_rfl
noncomputable def i34 : FnI := (.mk true true (.seq (.reg (.cons (some x4x) none (.mv (.c (.n 0))) .nil)) (.seq (.seq (.reg (.cons (some x6x) none (.mv (.t x0x)) (.cons (some x7x) none (.call 62 (.cons (.t x6x) 
  (.cons (.c (.n 1)) (.cons (.c (.n 7)) .nil)))) (.cons (some x8x) none (.not (.t x7x)) .nil)))) (.cond (.t x8x) (.seq (.reg (.cons (some x4x) none (.mv (.c (.n 1))) .nil)) .ret) 
  .skip)) (.seq (.seq (.reg (.cons (some x5x) none (.mv (.c (.n 0))) .nil)) (.block 0 (.loop (.seq (.seq (.reg (.cons (some x9x) none (.mv (.t x5x)) (.cons (some x10x) none (.mv 
  (.t x1x)) (.cons (some x11x) none (.len (.t x10x)) (.cons (some x12x) none (.bin .lss (.t x9x) (.t x11x)) .nil))))) (.cond (.t x12x) .skip (.exit 0))) (.seq (.block 1 (.seq (.seq 
  (.draw [(.mk (some x15x) none true [] false [] [] [x1x] (.mv (.t x1x)) false [] [] []), (.mk (some x16x) none true [] false [false] [] [x5x] (.mv (.t x5x)) false [] [] []), (.mk 
  (some x17x) none true [] false [true, true] [] [x15x, x16x] (.ixs 1 (.t x15x) (.t x16x)) false [] [] []), (.mk (some x18x) none false [] false [true, true, true] [] [x17x] (.ld 1 
  false (.t x17x)) false [] [] []), (.mk (some x19x) none true [] false [false, false, false, false] [] [x0x] (.mv (.t x0x)) false [] [] []), (.mk (some x20x) none false [] false 
  [true, false, false, false, false] [] [x19x] (.call 35 (.cons (.t x19x) .nil)) false [] [] []), (.mk (some x21x) none true [] false [true, true, false, false, false, false] [] 
  [x20x] (.bin .sub (.t x20x) (.c (.n 1))) false [] [] []), (.mk (some x22x) none false [] false [true, true, true, true, true, true, true] [] [x18x, x21x] (.call 62 (.cons (.t 
  x18x) (.cons (.c (.n 0)) (.cons (.t x21x) .nil)))) false [] [] []), (.mk (some x23x) none true [] false [true, true, true, true, true, true, true, true] [] [x22x] (.not (.t 
  x22x)) false [] [] [])]) (.cond (.t x23x) (.seq (.reg (.cons (some x4x) none (.mv (.c (.n 2))) .nil)) .ret) .skip)) (.seq (.draw [(.mk (some x24x) none true [] false [] [] [x5x] 
  (.mv (.t x5x)) false [] [] []), (.mk (some x25x) none true [] false [true] [] [x24x] (.bin .gtr (.t x24x) (.c (.n 0))) false [] [] []), (.mk (some x26x) none true [] false [true, 
  true] [] [x25x] (.mv (.t x25x)) false [] [] []), (.mk (some x27x) (some (.mk x26x true)) true [] false [true, true, true] [] [x26x, x1x] (.mv (.t x1x)) false [] [] []), (.mk 
  (some x28x) (some (.mk x26x true)) true [] false [false, true, true, true] [] [x26x, x5x] (.mv (.t x5x)) false [] [] []), (.mk (some x29x) (some (.mk x26x true)) true [] false 
  [true, true, true, true, true] [] [x26x, x27x, x28x] (.ixs 1 (.t x27x) (.t x28x)) false [] [] []), (.mk (some x30x) (some (.mk x26x true)) false [] false [true, true, true, true, 
  true, true] [] [x26x, x29x] (.ld 1 false (.t x29x)) false [] [] []), (.mk (some x31x) (some (.mk x26x true)) true [] false [false, false, false, false, true, true, true] [] 
  [x26x, x1x] (.mv (.t x1x)) false [] [] []), (.mk (some x32x) (some (.mk x26x true)) true [] false [false, false, false, false, false, true, true, true] [] [x26x, x5x] (.mv (.t 
  x5x)) false [] [] []), (.mk (some x33x) (some (.mk x26x true)) true [] false [true, false, false, false, false, false, true, true, true] [] [x26x, x32x] (.bin .sub (.t x32x) (.c 
  (.n 1))) false [] [] []), (.mk (some x34x) (some (.mk x26x true)) true [] false [true, true, true, false, false, false, false, true, true, true] [] [x26x, x31x, x33x] (.ixs 1 (.t 
  x31x) (.t x33x)) false [] [] []), (.mk (some x35x) (some (.mk x26x true)) false [] false [true, true, true, true, false, false, false, false, true, true, true] [] [x26x, x34x] 
  (.ld 1 false (.t x34x)) false [] [] []), (.mk (some x36x) (some (.mk x26x true)) true [] false [true, true, true, true, true, true, true, true, true, true, true, true] [] [x26x, 
  x30x, x35x] (.bin .leq (.t x30x) (.t x35x)) false [] [] []), (.mk (some x37x) none true [] false [true, true, true, true, true, true, true, true, true, true, true, true, true] [] 
  [x26x, x36x] (.pick (.t x26x) (.t x36x) (.c (.b false))) false [] [] [])]) (.cond (.t x37x) (.seq (.reg (.cons (some x4x) none (.mv (.c (.n 7))) .nil)) .ret) .skip)))) (.reg 
  (.cons (some x13x) none (.mv (.t x5x)) (.cons (some x14x) none (.bin .add (.t x13x) (.c (.n 1))) (.cons (some x5x) none (.mv (.t x14x)) .nil))))))))) (.seq (.reg (.cons (some 
  x4x) none (.mv (.c (.n 0))) .nil)) .ret)))) [(.tmp x4x)])
theorem cc34 : compF Try.prog drops true true Try.f34 = some i34 := by kernel_rfl
noncomputable def i35 : FnI := (.mk true true (.seq (.reg (.cons (some x2x) none (.mv (.c (.n 0))) .nil)) (.seq (.reg (.cons (some x3x) none (.mv (.c (.n 1))) .nil)) (.seq (.seq (.reg (.cons (some x4x) none (.mv 
  (.c (.n 0))) .nil)) (.block 0 (.loop (.seq (.seq (.reg (.cons (some x5x) none (.mv (.t x4x)) (.cons (some x6x) none (.mv (.t x0x)) (.cons (some x7x) none (.bin .lss (.t x5x) (.t 
  x6x)) .nil)))) (.cond (.t x7x) .skip (.exit 0))) (.seq (.block 1 (.reg (.cons (some x10x) none (.mv (.t x3x)) (.cons (some x11x) none (.bin .mul (.t x10x) (.c (.n 2))) (.cons 
  (some x3x) none (.mv (.t x11x)) .nil))))) (.reg (.cons (some x8x) none (.mv (.t x4x)) (.cons (some x9x) none (.bin .add (.t x8x) (.c (.n 1))) (.cons (some x4x) none (.mv (.t 
  x9x)) .nil))))))))) (.seq (.reg (.cons (some x12x) none (.mv (.t x3x)) (.cons (some x2x) none (.mv (.t x12x)) .nil))) .ret)))) [(.tmp x2x)])
theorem cc35 : compF Try.prog drops true true Try.f35 = some i35 := by kernel_rfl
noncomputable def i36 : FnI := (.mk true true (.seq (.reg (.cons (some x6x) none (.mv (.c (.n 0))) .nil)) (.seq (.reg (.cons (some x7x) none (.mv (.c (.n 0))) .nil)) (.seq (.seq (.reg (.cons (some x9x) none (.mv 
  (.t x1x)) (.cons (some x10x) none (.mv (.t x2x)) (.cons (some x11x) none (.call 40 (.cons (.t x9x) (.cons (.t x10x) .nil))) .nil)))) (.cond (.t x11x) (.reg (.cons (some x12x) 
  none (.mv (.t x7x)) (.cons (some x13x) none (.bin .add (.t x12x) (.c (.n 1))) (.cons (some x7x) none (.mv (.t x13x)) .nil)))) .skip)) (.seq (.seq (.reg (.cons (some x8x) none 
  (.mv (.c (.n 0))) .nil)) (.block 0 (.loop (.seq (.seq (.reg (.cons (some x14x) none (.mv (.t x8x)) (.cons (some x15x) none (.mv (.t x0x)) (.cons (some x16x) none (.bin .lss (.t 
  x14x) (.t x15x)) .nil)))) (.cond (.t x16x) .skip (.exit 0))) (.seq (.block 1 (.seq (.reg (.cons (some x19x) none (.mv (.t x1x)) (.cons (some x20x) none (.mv (.t x2x)) (.cons 
  (some x21x) none (.mv (.t x8x)) (.cons (some x22x) none (.call 41 (.cons (.t x20x) (.cons (.t x21x) .nil))) (.cons (some x23x) none (.call 40 (.cons (.t x19x) (.cons (.t x22x) 
  .nil))) .nil)))))) (.cond (.t x23x) (.reg (.cons (some x24x) none (.mv (.t x7x)) (.cons (some x25x) none (.bin .add (.t x24x) (.c (.n 1))) (.cons (some x7x) none (.mv (.t x25x)) 
  .nil)))) .skip))) (.reg (.cons (some x17x) none (.mv (.t x8x)) (.cons (some x18x) none (.bin .add (.t x17x) (.c (.n 1))) (.cons (some x8x) none (.mv (.t x18x)) .nil))))))))) 
  (.seq (.reg (.cons (some x26x) none (.mv (.t x7x)) (.cons (some x6x) none (.mv (.t x26x)) .nil))) .ret))))) [(.tmp x6x)])
theorem cc36 : compF Try.prog drops true true Try.f36 = some i36 := by kernel_rfl
noncomputable def i37 : FnI := (.mk true false (.seq (.reg (.cons (some x4x) none (.mv (.c .ns)) .nil)) (.seq (.reg (.cons (some x5x) none (.mv (.c .ns)) .nil)) (.seq (.seq (.reg (.cons (some x6x) none (.mv (.c 
  (.n 0))) .nil)) (.block 0 (.loop (.seq (.seq (.reg (.cons (some x7x) none (.mv (.t x6x)) (.cons (some x8x) none (.mv (.t x0x)) (.cons (some x9x) none (.call 35 (.cons (.t x8x) 
  .nil)) (.cons (some x10x) none (.bin .lss (.t x7x) (.t x9x)) .nil))))) (.cond (.t x10x) .skip (.exit 0))) (.seq (.block 1 (.seq (.reg (.cons (some x13x) none (.mv (.t x0x)) 
  (.cons (some x14x) none (.mv (.t x1x)) (.cons (some x15x) none (.mv (.t x6x)) (.cons (some x16x) none (.call 36 (.cons (.t x13x) (.cons (.t x14x) (.cons (.t x15x) .nil)))) (.cons 
  (some x17x) none (.bin .eql (.t x16x) (.c (.n 0))) .nil)))))) (.cond (.t x17x) (.reg (.cons (some x18x) none (.mv (.t x5x)) (.cons (some x19x) none (.mv (.t x6x)) (.cons (some 
  x20x) none (.bsl 3 1 1 (.cons (.n 0) .nil) (.cons 0 1 (.t x19x) .nil)) (.cons (some x21x) none (.app 3 1 8 (.t x18x) (.t x20x)) (.cons (some x5x) none (.mv (.t x21x)) .nil)))))) 
  .skip))) (.reg (.cons (some x11x) none (.mv (.t x6x)) (.cons (some x12x) none (.bin .add (.t x11x) (.c (.n 1))) (.cons (some x6x) none (.mv (.t x12x)) .nil))))))))) (.seq (.reg 
  (.cons (some x22x) none (.mv (.t x5x)) (.cons (some x4x) none (.mv (.t x22x)) .nil))) .ret)))) [(.tmp x4x)])
theorem cc37 : compF Try.prog drops true false Try.f37 = some i37 := by kernel_rfl
noncomputable def i38 : FnI := (.mk true false (.seq (.reg (.cons (some x4x) none (.alloc 29 (.cons (.n 0) (.cons .ns .nil)) 2) .nil)) (.seq (.reg (.cons (some x9x) none (.mv (.t x0x)) (.cons (some x10x) none 
  (.build (.cons (.n 0) (.cons .ns .nil)) (.cons 0 1 (.t x9x) .nil)) (.cons (some x5x) none (.alloc 29 (.cons (.n 0) (.cons .ns .nil)) 2) (.cons none none (.st 2 (.t x5x) (.t 
  x10x)) .nil))))) (.seq (.seq (.reg (.cons (some x11x) none (.mv (.t x0x)) (.cons (some x12x) none (.mv (.c (.n 0))) .nil))) (.block 0 (.loop (.seq (.reg (.cons (some x13x) none 
  (.bin .lss (.t x12x) (.t x11x)) .nil)) (.seq (.cond (.t x13x) .skip (.exit 0)) (.seq (.block 1 (.seq (.reg (.cons (some x14x) none (.mv (.t x12x)) (.cons (some x6x) none (.mv (.t 
  x14x)) .nil))) (.seq (.reg (.cons (some x15x) none (.mv (.t x0x)) (.cons (some x16x) none (.call 45 (.cons (.t x15x) .nil)) (.cons (some x17x) none (.mks 3 1 8 1 (.cons (.n 0) 
  .nil) (.t x16x) (.t x16x)) (.cons (some x7x) none (.mv (.t x17x)) .nil))))) (.seq (.seq (.reg (.cons (some x18x) none (.mv (.t x7x)) (.cons (some x19x) none (.len (.t x18x)) 
  (.cons (some x20x) none (.mv (.c (.n 0))) .nil)))) (.block 2 (.loop (.seq (.reg (.cons (some x21x) none (.bin .lss (.t x20x) (.t x19x)) .nil)) (.seq (.cond (.t x21x) .skip (.exit 
  2)) (.seq (.block 3 (.seq (.reg (.cons (some x22x) none (.mv (.t x20x)) (.cons (some x8x) none (.mv (.t x22x)) .nil))) (.reg (.cons (some x23x) none (.mv (.t x7x)) (.cons (some 
  x24x) none (.mv (.t x8x)) (.cons (some x25x) none (.mv (.t x1x)) (.cons (some x26x) none (.mv (.t x8x)) (.cons (some x27x) none (.mv (.t x6x)) (.cons (some x28x) none (.call 63 
  (.cons (.t x25x) (.cons (.t x26x) (.cons (.t x27x) .nil)))) (.cons (some x29x) none (.ixs 1 (.t x23x) (.t x24x)) (.cons none none (.st 1 (.t x29x) (.t x28x)) .nil))))))))))) 
  (.reg (.cons (some x30x) none (.bin .add (.t x20x) (.c (.n 1))) (.cons (some x20x) none (.mv (.t x30x)) .nil))))))))) (.reg (.cons (some x31x) none (.fad 1 (.t x5x)) (.cons (some 
  x32x) none (.ld 1 false (.t x31x)) (.cons (some x33x) none (.mv (.t x7x)) (.cons (some x34x) none (.bsl 22 1 1 (.cons .ns .nil) (.cons 0 1 (.t x33x) .nil)) (.cons (some x35x) 
  none (.app 22 1 24 (.t x32x) (.t x34x)) (.cons (some x36x) none (.fad 1 (.t x5x)) (.cons none none (.st 1 (.t x36x) (.t x35x)) .nil)))))))))))) (.reg (.cons (some x37x) none 
  (.bin .add (.t x12x) (.c (.n 1))) (.cons (some x12x) none (.mv (.t x37x)) .nil))))))))) (.seq (.reg (.cons (some x38x) none (.ld 2 true (.t x5x)) (.cons none none (.st 2 (.t x4x) 
  (.t x38x)) .nil))) .ret)))) [(.cell x4x 2 true)])
theorem cc38 : compF Try.prog drops true false Try.f38 = some i38 := by kernel_rfl
noncomputable def i39 : FnI := (.mk true true (.seq (.reg (.cons (some x4x) none (.mv (.c (.n 0))) .nil)) (.seq (.reg (.cons (some x5x) none (.mv (.t x0x)) (.cons (some x6x) none (.mv (.t x1x)) (.cons (some x7x) 
  none (.call 35 (.cons (.t x6x) .nil)) (.cons (some x8x) none (.bin .quo (.t x5x) (.t x7x)) (.cons (some x9x) none (.bin .rem (.t x8x) (.c (.n 2))) (.cons (some x4x) none (.mv (.t 
  x9x)) .nil))))))) .ret)) [(.tmp x4x)])
theorem cc39 : compF Try.prog drops true true Try.f39 = some i39 := by kernel_rfl
noncomputable def i40 : FnI := (.mk true true (.seq (.reg (.cons (some x4x) none (.mv (.c (.b false))) .nil)) (.seq (.seq (.reg (.cons (some x5x) none (.mv (.c (.n 0))) .nil)) (.block 0 (.loop (.seq (.seq (.reg 
  (.cons (some x6x) none (.mv (.t x5x)) (.cons (some x7x) none (.mv (.t x0x)) (.cons (some x8x) none (.len (.t x7x)) (.cons (some x9x) none (.bin .lss (.t x6x) (.t x8x)) .nil))))) 
  (.cond (.t x9x) .skip (.exit 0))) (.seq (.block 1 (.seq (.reg (.cons (some x12x) none (.mv (.t x0x)) (.cons (some x13x) none (.mv (.t x5x)) (.cons (some x14x) none (.ixs 1 (.t 
  x12x) (.t x13x)) (.cons (some x15x) none (.ld 1 false (.t x14x)) (.cons (some x16x) none (.mv (.t x1x)) (.cons (some x17x) none (.bin .eql (.t x15x) (.t x16x)) .nil))))))) (.cond 
  (.t x17x) (.seq (.reg (.cons (some x4x) none (.mv (.c (.b true))) .nil)) .ret) .skip))) (.reg (.cons (some x10x) none (.mv (.t x5x)) (.cons (some x11x) none (.bin .add (.t x10x) 
  (.c (.n 1))) (.cons (some x5x) none (.mv (.t x11x)) .nil))))))))) (.seq (.reg (.cons (some x4x) none (.mv (.c (.b false))) .nil)) .ret))) [(.tmp x4x)])
theorem cc40 : compF Try.prog drops true true Try.f40 = some i40 := by kernel_rfl
noncomputable def i41 : FnI := (.mk true true (.seq (.reg (.cons (some x4x) none (.mv (.c (.n 0))) .nil)) (.seq (.seq (.reg (.cons (some x5x) none (.mv (.t x0x)) (.cons (some x6x) none (.mv (.t x1x)) (.cons 
  (some x7x) none (.call 39 (.cons (.t x5x) (.cons (.t x6x) .nil))) (.cons (some x8x) none (.bin .eql (.t x7x) (.c (.n 1))) .nil))))) (.cond (.t x8x) (.seq (.reg (.cons (some x9x) 
  none (.mv (.t x0x)) (.cons (some x10x) none (.mv (.t x1x)) (.cons (some x11x) none (.call 35 (.cons (.t x10x) .nil)) (.cons (some x12x) none (.bin .sub (.t x9x) (.t x11x)) (.cons 
  (some x4x) none (.mv (.t x12x)) .nil)))))) .ret) .skip)) (.seq (.reg (.cons (some x13x) none (.mv (.t x0x)) (.cons (some x14x) none (.mv (.t x1x)) (.cons (some x15x) none (.call 
  35 (.cons (.t x14x) .nil)) (.cons (some x16x) none (.bin .add (.t x13x) (.t x15x)) (.cons (some x4x) none (.mv (.t x16x)) .nil)))))) .ret))) [(.tmp x4x)])
theorem cc41 : compF Try.prog drops true true Try.f41 = some i41 := by kernel_rfl
noncomputable def i42 : FnI := (.mk true true (.seq (.reg (.cons (some x4x) none (.mv (.c (.n 0))) .nil)) (.seq (.reg (.cons (some x6x) none (.mv (.t x1x)) (.cons (some x7x) none (.call 35 (.cons (.t x6x) .nil)) 
  (.cons (some x5x) none (.mv (.t x7x)) .nil)))) (.seq (.draw [(.mk (some x8x) none true [] false [] [] [x0x] (.mv (.t x0x)) false [] [] []), (.mk (some x9x) none true [] false 
  [false] [] [x5x] (.mv (.t x5x)) false [] [] []), (.mk (some x10x) none true [] false [true, true] [] [x8x, x9x] (.bin .rem (.t x8x) (.t x9x)) false [] [] []), (.mk (some x11x) 
  none true [] false [false, false, false] [] [x0x] (.mv (.t x0x)) false [] [] []), (.mk (some x12x) none true [] false [false, false, false, false] [] [x5x] (.mv (.t x5x)) false 
  [] [] []), (.mk (some x13x) none true [] false [true, false, false, false, false] [] [x12x] (.bin .mul (.c (.n 2)) (.t x12x)) false [] [] []), (.mk (some x14x) none true [] false 
  [true, true, true, false, false, false] [] [x11x, x13x] (.bin .quo (.t x11x) (.t x13x)) false [] [] []), (.mk (some x15x) none true [] false [false, false, false, false, false, 
  false, false] [] [x5x] (.mv (.t x5x)) false [] [] []), (.mk (some x16x) none true [] false [true, true, true, true, true, false, false, false] [] [x14x, x15x] (.bin .mul (.t 
  x14x) (.t x15x)) false [] [] []), (.mk (some x17x) none true [] false [true, true, true, true, true, true, true, true, true] [] [x10x, x16x] (.bin .add (.t x10x) (.t x16x)) false 
  [] [] []), (.mk (some x4x) none true [] false [true, true, true, true, true, true, true, true, true, true] [] [x17x] (.mv (.t x17x)) false [] [] [])]) .ret))) [(.tmp x4x)])
theorem cc42 : compF Try.prog drops true true Try.f42 = some i42 := by kernel_rfl
noncomputable def i43 : FnI := (.mk true true (.seq (.reg (.cons (some x4x) none (.mv (.c (.n 0))) .nil)) (.seq (.seq (.reg (.cons (some x6x) none (.mv (.t x0x)) (.cons (some x7x) none (.len (.t x6x)) (.cons 
  (some x8x) none (.mv (.c (.n 0))) .nil)))) (.block 0 (.loop (.seq (.reg (.cons (some x9x) none (.bin .lss (.t x8x) (.t x7x)) .nil)) (.seq (.cond (.t x9x) .skip (.exit 0)) (.seq 
  (.block 1 (.seq (.reg (.cons (some x10x) none (.mv (.t x8x)) (.cons (some x5x) none (.mv (.t x10x)) .nil))) (.seq (.reg (.cons (some x11x) none (.mv (.t x1x)) (.cons (some x12x) 
  none (.mv (.t x0x)) (.cons (some x13x) none (.mv (.t x5x)) (.cons (some x14x) none (.ixs 1 (.t x12x) (.t x13x)) (.cons (some x15x) none (.ld 1 false (.t x14x)) (.cons (some x16x) 
  none (.bin .eql (.t x11x) (.t x15x)) .nil))))))) (.cond (.t x16x) (.seq (.reg (.cons (some x17x) none (.mv (.t x5x)) (.cons (some x4x) none (.mv (.t x17x)) .nil))) .ret) 
  .skip)))) (.reg (.cons (some x18x) none (.bin .add (.t x8x) (.c (.n 1))) (.cons (some x8x) none (.mv (.t x18x)) .nil))))))))) (.seq (.reg (.cons (some x4x) none (.mv (.c (.i .i64 
  (.negSucc 0)))) .nil)) .ret))) [(.tmp x4x)])
theorem cc43 : compF Try.prog drops true true Try.f43 = some i43 := by kernel_rfl
noncomputable def i44 : FnI := (.mk true true (.seq (.reg (.cons (some x2x) none (.mv (.c (.b false))) .nil)) (.seq (.reg (.cons (some x3x) none (.mv (.t x0x)) (.cons (some x4x) none (.bin .geq (.t x3x) (.c (.n 
  1))) (.cons (some x5x) none (.mv (.t x4x)) (.cons (some x6x) (some (.mk x5x true)) (.mv (.t x0x)) (.cons (some x7x) (some (.mk x5x true)) (.bin .leq (.t x6x) (.c (.n 7))) (.cons 
  (some x8x) none (.pick (.t x5x) (.t x7x) (.c (.b false))) (.cons (some x2x) none (.mv (.t x8x)) .nil)))))))) .ret)) [(.tmp x2x)])
theorem cc44 : compF Try.prog drops true true Try.f44 = some i44 := by kernel_rfl
noncomputable def i45 : FnI := (.mk true true (.seq (.reg (.cons (some x2x) none (.mv (.c (.n 0))) .nil)) (.seq (.reg (.cons (some x3x) none (.mv (.t x0x)) (.cons (some x4x) none (.bin .sub (.t x3x) (.c (.n 1))) 
  (.cons (some x5x) none (.call 56 (.cons (.t x4x) .nil)) (.cons (some x2x) none (.mv (.t x5x)) .nil))))) .ret)) [(.tmp x2x)])
theorem cc45 : compF Try.prog drops true true Try.f45 = some i45 := by kernel_rfl
noncomputable def i46 : FnI := (.mk true true (.seq (.reg (.cons (some x4x) none (.mv (.c (.b false))) .nil)) (.seq (.reg (.cons (some x5x) none (.mv (.t x0x)) (.cons (some x6x) none (.mv (.t x1x)) (.cons (some 
  x7x) none (.call 64 (.cons (.t x5x) (.cons (.t x6x) .nil))) (.cons (some x8x) none (.bin .geq (.t x7x) (.c (.n 0))) (.cons (some x4x) none (.mv (.t x8x)) .nil)))))) .ret)) [(.tmp 
  x4x)])
theorem cc46 : compF Try.prog drops true true Try.f46 = some i46 := by kernel_rfl
noncomputable def i47 : FnI := (.mk true true (.seq (.reg (.cons (some x2x) none (.mv (.c (.b false))) .nil)) (.seq (.reg (.cons (some x3x) none (.mv (.t x0x)) (.cons (some x4x) none (.bin .neq (.t x3x) (.c (.n 
  0))) (.cons (some x5x) none (.mv (.t x4x)) (.cons (some x6x) (some (.mk x5x true)) (.mv (.t x0x)) (.cons (some x7x) (some (.mk x5x true)) (.bin .neq (.t x6x) (.c (.n 1))) (.cons 
  (some x8x) none (.pick (.t x5x) (.t x7x) (.c (.b false))) (.cons (some x9x) none (.mv (.t x8x)) (.cons (some x10x) (some (.mk x9x true)) (.mv (.t x0x)) (.cons (some x11x) (some 
  (.mk x9x true)) (.bin .neq (.t x10x) (.c (.n 2))) (.cons (some x12x) none (.pick (.t x9x) (.t x11x) (.c (.b false))) (.cons (some x2x) none (.mv (.t x12x)) .nil)))))))))))) 
  .ret)) [(.tmp x2x)])
theorem cc47 : compF Try.prog drops true true Try.f47 = some i47 := by kernel_rfl
noncomputable def i48 : FnI := (.mk true false (.seq (.reg (.cons (some x1x) none (.box 29 (.t x0x)) (.cons (some x2x) none (.mv (.c .ns)) .nil))) (.seq (.reg (.cons (some x3x) none (.mv (.c .ns)) .nil)) (.seq 
  (.seq (.reg (.cons (some x5x) none (.fad 0 (.t x1x)) (.cons (some x6x) none (.ld 1 false (.t x5x)) (.cons (some x7x) none (.call 56 (.cons (.t x6x) .nil)) (.cons (some x8x) none 
  (.mv (.c (.n 0))) .nil))))) (.block 0 (.loop (.seq (.reg (.cons (some x9x) none (.bin .lss (.t x8x) (.t x7x)) .nil)) (.seq (.cond (.t x9x) .skip (.exit 0)) (.seq (.block 1 (.seq 
  (.reg (.cons (some x10x) none (.mv (.t x8x)) (.cons (some x4x) none (.mv (.t x10x)) .nil))) (.reg (.cons (some x11x) none (.mv (.t x3x)) (.cons (some x12x) none (.ld 2 true (.t 
  x1x)) (.cons (some x13x) none (.mv (.t x4x)) (.cons (some x14x) none (.build (.cons (.n 0) (.cons .ns (.cons (.n 0) .nil))) (.cons 0 2 (.t x12x) (.cons 2 1 (.t x13x) .nil))) 
  (.cons (some x15x) none (.bsl 71 3 1 (.cons (.n 0) (.cons .ns (.cons (.n 0) .nil))) (.cons 0 3 (.t x14x) .nil)) (.cons (some x16x) none (.app 71 3 40 (.t x11x) (.t x15x)) (.cons 
  (some x3x) none (.mv (.t x16x)) .nil)))))))))) (.reg (.cons (some x17x) none (.bin .add (.t x8x) (.c (.n 1))) (.cons (some x8x) none (.mv (.t x17x)) .nil))))))))) (.seq (.reg 
  (.cons (some x18x) none (.mv (.t x3x)) (.cons (some x2x) none (.mv (.t x18x)) .nil))) .ret)))) [(.tmp x2x)])
theorem cc48 : compF Try.prog drops true false Try.f48 = some i48 := by kernel_rfl
noncomputable def i49 : FnI := (.mk true true (.seq (.reg (.cons (some x1x) none (.box 71 (.t x0x)) (.cons (some x2x) none (.mv (.c (.b false))) .nil))) (.seq (.reg (.cons (some x6x) none (.ld 3 true (.t x1x)) 
  (.cons (some x7x) none (.call 54 (.cons (.t x6x) .nil)) (.cons (some x5x) none (.mv (.t x7x)) (.cons (some x8x) none (.ext 0 (.t x5x)) (.cons (some x9x) none (.ext 1 (.t x5x)) 
  (.cons (some x3x) none (.mv (.t x8x)) (.cons (some x4x) none (.mv (.t x9x)) .nil)))))))) (.seq (.reg (.cons (some x10x) none (.mv (.t x3x)) (.cons (some x11x) none (.bin .gtr (.t 
  x10x) (.c (.n 0))) (.cons (some x12x) none (.mv (.t x11x)) (.cons (some x13x) (some (.mk x12x true)) (.mv (.t x4x)) (.cons (some x14x) (some (.mk x12x true)) (.bin .eql (.t x13x) 
  (.c (.n 0))) (.cons (some x15x) none (.pick (.t x12x) (.t x14x) (.c (.b false))) (.cons (some x2x) none (.mv (.t x15x)) .nil)))))))) .ret))) [(.tmp x2x)])
theorem cc49 : compF Try.prog drops true true Try.f49 = some i49 := by kernel_rfl
noncomputable def i50 : FnI := (.mk true true (.seq (.reg (.cons (some x4x) none (.mv (.c (.b false))) .nil)) (.seq (.reg (.cons (some x5x) none (.mv (.t x0x)) (.cons (some x6x) none (.call 65 (.cons (.t x5x) 
  .nil)) (.cons (some x7x) none (.mv (.t x6x)) (.cons (some x8x) (some (.mk x7x true)) (.mv (.t x1x)) (.cons (some x9x) (some (.mk x7x true)) (.call 65 (.cons (.t x8x) .nil)) 
  (.cons (some x10x) (some (.mk x7x true)) (.not (.t x9x)) (.cons (some x11x) none (.pick (.t x7x) (.t x10x) (.c (.b false))) (.cons (some x12x) none (.mv (.t x11x)) (.cons (some 
  x13x) (some (.mk x12x false)) (.mv (.t x0x)) (.cons (some x14x) (some (.mk x12x false)) (.mv (.t x1x)) (.cons (some x15x) (some (.mk x12x false)) (.bin .lss (.t x13x) (.t x14x)) 
  (.cons (some x16x) none (.pick (.t x12x) (.c (.b true)) (.t x15x)) (.cons (some x4x) none (.mv (.t x16x)) .nil)))))))))))))) .ret)) [(.tmp x4x)])
theorem cc50 : compF Try.prog drops true true Try.f50 = some i50 := by kernel_rfl
noncomputable def i51 : FnI := (.mk true true (.seq (.reg (.cons (some x4x) none (.mv (.c (.b false))) .nil)) (.seq (.reg (.cons (some x5x) none (.mv (.t x1x)) (.cons (some x6x) none (.bin .geq (.t x5x) (.c (.n 
  0))) (.cons (some x7x) none (.mv (.t x6x)) (.cons (some x8x) (some (.mk x7x true)) (.mv (.t x1x)) (.cons (some x9x) (some (.mk x7x true)) (.mv (.t x0x)) (.cons (some x10x) (some 
  (.mk x7x true)) (.call 56 (.cons (.t x9x) .nil)) (.cons (some x11x) (some (.mk x7x true)) (.bin .lss (.t x8x) (.t x10x)) (.cons (some x12x) none (.pick (.t x7x) (.t x11x) (.c (.b 
  false))) (.cons (some x4x) none (.mv (.t x12x)) .nil)))))))))) .ret)) [(.tmp x4x)])
theorem cc51 : compF Try.prog drops true true Try.f51 = some i51 := by kernel_rfl
noncomputable def i52 : FnI := (.mk true true (.seq (.reg (.cons (some x4x) none (.mv (.c (.n 0))) .nil)) (.seq (.reg (.cons (some x7x) none (.mv (.t x0x)) (.cons (some x8x) none (.mv (.t x1x)) (.cons (some x9x) 
  none (.bin .shl (.c (.n 1)) (.t x8x)) (.cons (some x10x) none (.bin .rem (.t x7x) (.t x9x)) (.cons (some x5x) none (.mv (.t x10x)) .nil)))))) (.seq (.reg (.cons (some x11x) none 
  (.mv (.t x0x)) (.cons (some x12x) none (.mv (.t x1x)) (.cons (some x13x) none (.bin .add (.t x12x) (.c (.n 1))) (.cons (some x14x) none (.bin .shr (.t x11x) (.t x13x)) (.cons 
  (some x6x) none (.mv (.t x14x)) .nil)))))) (.seq (.reg (.cons (some x15x) none (.mv (.t x6x)) (.cons (some x16x) none (.mv (.t x1x)) (.cons (some x17x) none (.bin .shl (.t x15x) 
  (.t x16x)) (.cons (some x18x) none (.mv (.t x5x)) (.cons (some x19x) none (.bin .add (.t x17x) (.t x18x)) (.cons (some x4x) none (.mv (.t x19x)) .nil))))))) .ret)))) [(.tmp 
  x4x)])
theorem cc52 : compF Try.prog drops true true Try.f52 = some i52 := by kernel_rfl
noncomputable def i53 : FnI := (.mk true false (.seq (.reg (.cons (some x1x) none (.box 71 (.t x0x)) (.cons (some x2x) none (.mv (.c .ns)) .nil))) (.seq (.reg (.cons (some x6x) none (.fad 0 (.t x1x)) (.cons 
  (some x7x) none (.fad 0 (.t x6x)) (.cons (some x8x) none (.ld 1 false (.t x7x)) (.cons (some x9x) none (.mks 3 1 8 1 (.cons (.n 0) .nil) (.t x8x) (.t x8x)) (.cons (some x3x) none 
  (.mv (.t x9x)) .nil)))))) (.seq (.seq (.reg (.cons (some x10x) none (.fad 0 (.t x1x)) (.cons (some x11x) none (.fad 1 (.t x10x)) (.cons (some x12x) none (.ld 1 false (.t x11x)) 
  (.cons (some x13x) none (.len (.t x12x)) (.cons (some x14x) none (.mv (.c (.n 0))) .nil)))))) (.block 0 (.loop (.seq (.reg (.cons (some x15x) none (.bin .lss (.t x14x) (.t x13x)) 
  .nil)) (.seq (.cond (.t x15x) .skip (.exit 0)) (.seq (.block 1 (.seq (.reg (.cons (some x16x) none (.mv (.t x14x)) (.cons (some x17x) none (.ixs 1 (.t x12x) (.t x14x)) (.cons 
  (some x18x) none (.ld 1 false (.t x17x)) (.cons (some x4x) none (.mv (.t x16x)) (.cons (some x5x) none (.mv (.t x18x)) .nil)))))) (.reg (.cons (some x19x) none (.mv (.t x3x)) 
  (.cons (some x20x) none (.mv (.t x4x)) (.cons (some x21x) none (.mv (.t x5x)) (.cons (some x22x) none (.fad 2 (.t x1x)) (.cons (some x23x) none (.ld 1 false (.t x22x)) (.cons 
  (some x24x) none (.mv (.t x4x)) (.cons (some x25x) none (.call 52 (.cons (.t x23x) (.cons (.t x24x) .nil))) (.cons (some x26x) none (.ixs 1 (.t x21x) (.t x25x)) (.cons (some 
  x27x) none (.ld 1 false (.t x26x)) (.cons (some x28x) none (.ixs 1 (.t x19x) (.t x20x)) (.cons none none (.st 1 (.t x28x) (.t x27x)) .nil)))))))))))))) (.reg (.cons (some x29x) 
  none (.bin .add (.t x14x) (.c (.n 1))) (.cons (some x14x) none (.mv (.t x29x)) .nil))))))))) (.seq (.reg (.cons (some x30x) none (.mv (.t x3x)) (.cons (some x2x) none (.mv (.t 
  x30x)) .nil))) .ret)))) [(.tmp x2x)])
theorem cc53 : compF Try.prog drops true false Try.f53 = some i53 := by kernel_rfl
noncomputable def i54 : FnI := (.mk true true (.seq (.reg (.cons (some x1x) none (.box 71 (.t x0x)) (.cons (some x2x) none (.mv (.c (.n 0))) (.cons (some x3x) none (.mv (.c (.n 0))) .nil)))) (.seq (.seq (.reg 
  (.cons (some x6x) none (.ld 3 true (.t x1x)) (.cons (some x7x) none (.call 53 (.cons (.t x6x) .nil)) (.cons (some x8x) none (.len (.t x7x)) (.cons (some x9x) none (.mv (.c (.n 
  0))) .nil))))) (.block 0 (.loop (.seq (.reg (.cons (some x10x) none (.bin .lss (.t x9x) (.t x8x)) .nil)) (.seq (.cond (.t x10x) .skip (.exit 0)) (.seq (.block 1 (.seq (.reg 
  (.cons (some x11x) none (.mv (.t x9x)) (.cons (some x12x) none (.ixs 1 (.t x7x) (.t x9x)) (.cons (some x13x) none (.ld 1 false (.t x12x)) (.cons (some x4x) none (.mv (.t x11x)) 
  (.cons (some x5x) none (.mv (.t x13x)) .nil)))))) (.seq (.reg (.cons (some x14x) none (.mv (.t x5x)) .nil)) (.block 2 (.seq (.reg (.cons (some x18x) none (.bin .eql (.t x14x) (.c 
  (.n 2))) (.cons (some x17x) none (.mv (.t x18x)) .nil))) (.cond (.t x17x) .skip (.seq (.reg (.cons (some x20x) none (.fad 2 (.t x1x)) (.cons (some x21x) none (.ld 1 false (.t 
  x20x)) (.cons (some x22x) none (.mv (.t x4x)) (.cons (some x23x) none (.call 66 (.cons (.t x21x) (.cons (.t x22x) .nil))) (.cons (some x24x) none (.bin .eql (.t x14x) (.t x23x)) 
  (.cons (some x19x) none (.mv (.t x24x)) .nil))))))) (.cond (.t x19x) (.reg (.cons (some x25x) none (.mv (.t x2x)) (.cons (some x26x) none (.bin .add (.t x25x) (.c (.n 1))) (.cons 
  (some x2x) none (.mv (.t x26x)) .nil)))) (.reg (.cons (some x15x) none (.mv (.t x3x)) (.cons (some x16x) none (.bin .add (.t x15x) (.c (.n 1))) (.cons (some x3x) none (.mv (.t 
  x16x)) .nil)))))))))))) (.reg (.cons (some x27x) none (.bin .add (.t x9x) (.c (.n 1))) (.cons (some x9x) none (.mv (.t x27x)) .nil))))))))) (.seq (.reg (.cons (some x28x) none 
  (.mv (.t x2x)) (.cons (some x29x) none (.mv (.t x3x)) (.cons (some x2x) none (.mv (.t x28x)) (.cons (some x3x) none (.mv (.t x29x)) .nil))))) .ret))) [(.tmp x2x), (.tmp x3x)])
theorem cc54 : compF Try.prog drops true true Try.f54 = some i54 := by kernel_rfl
noncomputable def i55 : FnI := (.mk true true (.seq (.reg (.cons (some x2x) none (.mv (.c (.n 0))) .nil)) (.seq (.block 0 (.seq (.reg (.cons (some x4x) none (.mv (.t x0x)) (.cons (some x5x) none (.call 44 (.cons 
  (.t x4x) .nil)) (.cons (some x6x) none (.not (.t x5x)) (.cons (some x3x) none (.mv (.t x6x)) .nil))))) (.cond (.t x3x) (.seq (.reg (.cons (some x2x) none (.mv (.c (.n 1))) .nil)) 
  .ret) (.seq (.reg (.cons (some x8x) none (.mv (.t x0x)) (.cons (some x9x) none (.call 56 (.cons (.t x8x) .nil)) (.cons (some x10x) none (.mv (.t x0x)) (.cons (some x11x) none 
  (.bin .add (.t x10x) (.c (.n 1))) (.cons (some x12x) none (.bin .rem (.t x9x) (.t x11x)) (.cons (some x13x) none (.bin .neq (.t x12x) (.c (.n 0))) (.cons (some x7x) none (.mv (.t 
  x13x)) .nil)))))))) (.cond (.t x7x) (.seq (.reg (.cons (some x2x) none (.mv (.c (.n 12))) .nil)) .ret) .skip))))) (.seq (.reg (.cons (some x2x) none (.mv (.c (.n 0))) .nil)) 
  .ret))) [(.tmp x2x)])
theorem cc55 : compF Try.prog drops true true Try.f55 = some i55 := by kernel_rfl
noncomputable def i56 : FnI := (.mk true true (.seq (.reg (.cons (some x2x) none (.mv (.c (.n 0))) .nil)) (.seq (.reg (.cons (some x3x) none (.mv (.t x0x)) (.cons (some x4x) none (.bin .shl (.c (.n 1)) (.t x3x)) 
  (.cons (some x2x) none (.mv (.t x4x)) .nil)))) .ret)) [(.tmp x2x)])
theorem cc56 : compF Try.prog drops true true Try.f56 = some i56 := by kernel_rfl
noncomputable def i57 : FnI := (.mk true true (.seq (.reg (.cons (some x4x) none (.mv (.c (.n 0))) .nil)) (.seq (.reg (.cons (some x5x) none (.mv (.c (.n 0))) .nil)) (.seq (.seq (.reg (.cons (some x7x) none (.mv 
  (.t x0x)) (.cons (some x8x) none (.mv (.c (.n 0))) .nil))) (.block 0 (.loop (.seq (.reg (.cons (some x9x) none (.bin .lss (.t x8x) (.t x7x)) .nil)) (.seq (.cond (.t x9x) .skip 
  (.exit 0)) (.seq (.block 1 (.seq (.reg (.cons (some x10x) none (.mv (.t x8x)) (.cons (some x6x) none (.mv (.t x10x)) .nil))) (.seq (.reg (.cons (some x11x) none (.mv (.t x1x)) 
  (.cons (some x12x) none (.mv (.t x6x)) (.cons (some x13x) none (.call 66 (.cons (.t x11x) (.cons (.t x12x) .nil))) (.cons (some x14x) none (.bin .eql (.t x13x) (.c (.n 1))) 
  .nil))))) (.cond (.t x14x) (.reg (.cons (some x15x) none (.mv (.t x5x)) (.cons (some x16x) none (.mv (.t x6x)) (.cons (some x17x) none (.bin .add (.t x16x) (.c (.n 1))) (.cons 
  (some x18x) none (.bin .xor (.t x15x) (.t x17x)) (.cons (some x5x) none (.mv (.t x18x)) .nil)))))) .skip)))) (.reg (.cons (some x19x) none (.bin .add (.t x8x) (.c (.n 1))) (.cons 
  (some x8x) none (.mv (.t x19x)) .nil))))))))) (.seq (.reg (.cons (some x20x) none (.mv (.t x5x)) (.cons (some x4x) none (.mv (.t x20x)) .nil))) .ret)))) [(.tmp x4x)])
theorem cc57 : compF Try.prog drops true true Try.f57 = some i57 := by kernel_rfl
noncomputable def i58 : FnI := (.mk true true (.seq (.reg (.cons (some x4x) none (.mv (.c (.n 0))) .nil)) (.seq (.reg (.cons (some x6x) none (.mv (.t x0x)) (.cons (some x7x) none (.mv (.t x1x)) (.cons (some x8x) 
  none (.call 57 (.cons (.t x6x) (.cons (.t x7x) .nil))) (.cons (some x5x) none (.mv (.t x8x)) .nil))))) (.seq (.seq (.reg (.cons (some x9x) none (.mv (.t x5x)) (.cons (some x10x) 
  none (.bin .eql (.t x9x) (.c (.n 0))) .nil))) (.cond (.t x10x) (.seq (.reg (.cons (some x11x) none (.mv (.t x1x)) (.cons (some x4x) none (.mv (.t x11x)) .nil))) .ret) .skip)) 
  (.seq (.reg (.cons (some x12x) none (.mv (.t x1x)) (.cons (some x13x) none (.mv (.t x5x)) (.cons (some x14x) none (.bin .sub (.t x13x) (.c (.n 1))) (.cons (some x15x) none (.call 
  61 (.cons (.t x12x) (.cons (.t x14x) .nil))) (.cons (some x4x) none (.mv (.t x15x)) .nil)))))) .ret)))) [(.tmp x4x)])
theorem cc58 : compF Try.prog drops true true Try.f58 = some i58 := by kernel_rfl
noncomputable def i59 : FnI := (.mk true true (.seq (.reg (.cons (some x2x) none (.mv (.c (.n 0))) .nil)) (.seq (.block 0 (.seq (.reg (.cons (some x4x) none (.mv (.t x0x)) (.cons (some x5x) none (.call 44 (.cons 
  (.t x4x) .nil)) (.cons (some x6x) none (.not (.t x5x)) (.cons (some x3x) none (.mv (.t x6x)) .nil))))) (.cond (.t x3x) (.seq (.reg (.cons (some x2x) none (.mv (.c (.n 1))) .nil)) 
  .ret) (.seq (.reg (.cons (some x8x) none (.mv (.t x0x)) (.cons (some x9x) none (.bin .gtr (.t x8x) (.c (.n 4))) (.cons (some x7x) none (.mv (.t x9x)) .nil)))) (.cond (.t x7x) 
  (.seq (.reg (.cons (some x2x) none (.mv (.c (.n 3))) .nil)) .ret) .skip))))) (.seq (.reg (.cons (some x2x) none (.mv (.c (.n 0))) .nil)) .ret))) [(.tmp x2x)])
theorem cc59 : compF Try.prog drops true true Try.f59 = some i59 := by kernel_rfl
noncomputable def i60 : FnI := (.mk true false (.seq (.reg (.cons (some x2x) none (.mv (.c .ns)) .nil)) (.seq (.reg (.cons (some x3x) none (.mv (.c (.n 1))) .nil)) (.block 0 (.loop (.block 1 (.seq (.seq (.reg 
  (.cons (some x7x) none (.mv (.t x0x)) (.cons (some x8x) none (.mv (.t x3x)) (.cons (some x9x) none (.call 67 (.cons (.t x7x) (.cons (.c .ns) (.cons (.t x8x) .nil)))) (.cons (some 
  x6x) none (.mv (.t x9x)) (.cons (some x10x) none (.ext 0 (.t x6x)) (.cons (some x11x) none (.ext 1 (.t x6x)) (.cons (some x4x) none (.mv (.t x10x)) (.cons (some x5x) none (.mv 
  (.t x11x)) .nil))))))))) (.seq (.reg (.cons (some x12x) none (.mv (.t x5x)) .nil)) (.cond (.t x12x) (.seq (.reg (.cons (some x13x) none (.mv (.t x4x)) (.cons (some x2x) none (.mv 
  (.t x13x)) .nil))) .ret) .skip))) (.reg (.cons (some x14x) none (.mv (.t x3x)) (.cons (some x15x) none (.bin .add (.t x14x) (.c (.n 1))) (.cons (some x3x) none (.mv (.t x15x)) 
  .nil)))))))))) [(.tmp x2x)])
theorem cc60 : compF Try.prog drops true false Try.f60 = some i60 := by kernel_rfl
noncomputable def i61 : FnI := (.mk true true (.seq (.reg (.cons (some x4x) none (.mv (.c (.n 0))) .nil)) (.seq (.reg (.cons (some x5x) none (.mv (.t x0x)) (.cons (some x6x) none (.mv (.t x1x)) (.cons (some x7x) 
  none (.bin .shl (.c (.n 1)) (.t x6x)) (.cons (some x8x) none (.bin .xor (.t x5x) (.t x7x)) (.cons (some x4x) none (.mv (.t x8x)) .nil)))))) .ret)) [(.tmp x4x)])
theorem cc61 : compF Try.prog drops true true Try.f61 = some i61 := by kernel_rfl
noncomputable def i62 : FnI := (.mk true true (.seq (.reg (.cons (some x6x) none (.mv (.c (.b false))) .nil)) (.seq (.reg (.cons (some x7x) none (.mv (.t x0x)) (.cons (some x8x) none (.mv (.t x1x)) (.cons (some 
  x9x) none (.bin .geq (.t x7x) (.t x8x)) (.cons (some x10x) none (.mv (.t x9x)) (.cons (some x11x) (some (.mk x10x true)) (.mv (.t x0x)) (.cons (some x12x) (some (.mk x10x true)) 
  (.mv (.t x2x)) (.cons (some x13x) (some (.mk x10x true)) (.bin .leq (.t x11x) (.t x12x)) (.cons (some x14x) none (.pick (.t x10x) (.t x13x) (.c (.b false))) (.cons (some x6x) 
  none (.mv (.t x14x)) .nil)))))))))) .ret)) [(.tmp x6x)])
theorem cc62 : compF Try.prog drops true true Try.f62 = some i62 := by kernel_rfl
noncomputable def i64 : FnI := (.mk true true (.seq (.reg (.cons (some x4x) none (.mv (.c (.n 0))) .nil)) (.seq (.seq (.reg (.cons (some x6x) none (.mv (.t x0x)) (.cons (some x7x) none (.len (.t x6x)) (.cons 
  (some x8x) none (.mv (.c (.n 0))) .nil)))) (.block 0 (.loop (.seq (.reg (.cons (some x9x) none (.bin .lss (.t x8x) (.t x7x)) .nil)) (.seq (.cond (.t x9x) .skip (.exit 0)) (.seq 
  (.block 1 (.seq (.reg (.cons (some x10x) none (.mv (.t x8x)) (.cons (some x5x) none (.mv (.t x10x)) .nil))) (.seq (.reg (.cons (some x11x) none (.mv (.t x1x)) (.cons (some x12x) 
  none (.mv (.t x0x)) (.cons (some x13x) none (.mv (.t x5x)) (.cons (some x14x) none (.ixs 1 (.t x12x) (.t x13x)) (.cons (some x15x) none (.ld 1 false (.t x14x)) (.cons (some x16x) 
  none (.callv (.t x11x) (.cons (.t x15x) .nil)) .nil))))))) (.cond (.t x16x) (.seq (.reg (.cons (some x17x) none (.mv (.t x5x)) (.cons (some x4x) none (.mv (.t x17x)) .nil))) 
  .ret) .skip)))) (.reg (.cons (some x18x) none (.bin .add (.t x8x) (.c (.n 1))) (.cons (some x8x) none (.mv (.t x18x)) .nil))))))))) (.seq (.reg (.cons (some x4x) none (.mv (.c 
  (.i .i64 (.negSucc 0)))) .nil)) .ret))) [(.tmp x4x)])
theorem cc64 : compF Try.prog drops true true Try.f64 = some i64 := by kernel_rfl
noncomputable def i65 : FnI := (.mk true true (.seq (.reg (.cons (some x2x) none (.mv (.c (.b false))) .nil)) (.seq (.reg (.cons (some x3x) none (.mv (.t x0x)) (.cons (some x4x) none (.mv (.t x0x)) (.cons (some 
  x5x) none (.bin .neq (.t x3x) (.t x4x)) (.cons (some x2x) none (.mv (.t x5x)) .nil))))) .ret)) [(.tmp x2x)])
theorem cc65 : compF Try.prog drops true true Try.f65 = some i65 := by kernel_rfl
noncomputable def i66 : FnI := (.mk true true (.seq (.reg (.cons (some x4x) none (.mv (.c (.n 0))) .nil)) (.seq (.seq (.reg (.cons (some x5x) none (.mv (.t x0x)) (.cons (some x6x) none (.mv (.t x1x)) (.cons 
  (some x7x) none (.bin .shr (.t x5x) (.t x6x)) (.cons (some x8x) none (.bin .and (.t x7x) (.c (.n 1))) (.cons (some x9x) none (.bin .eql (.t x8x) (.c (.n 1))) .nil)))))) (.cond 
  (.t x9x) (.seq (.reg (.cons (some x4x) none (.mv (.c (.n 1))) .nil)) .ret) .skip)) (.seq (.reg (.cons (some x4x) none (.mv (.c (.n 0))) .nil)) .ret))) [(.tmp x4x)])
theorem cc66 : compF Try.prog drops true true Try.f66 = some i66 := by kernel_rfl
noncomputable def i67 : FnI := (.mk true false (.seq (.reg (.cons (some x6x) none (.mv (.c .ns)) (.cons (some x7x) none (.mv (.c (.b false))) .nil))) (.seq (.seq (.reg (.cons (some x12x) none (.mv (.t x1x)) 
  (.cons (some x13x) none (.len (.t x12x)) (.cons (some x14x) none (.mv (.t x2x)) (.cons (some x15x) none (.bin .eql (.t x13x) (.t x14x)) .nil))))) (.cond (.t x15x) (.seq (.reg 
  (.cons (some x16x) none (.mv (.t x1x)) (.cons (some x17x) none (.mv (.t x0x)) (.cons (some x18x) none (.mv (.t x1x)) (.cons (some x19x) none (.call 69 (.cons (.t x17x) (.cons (.t 
  x18x) .nil))) (.cons (some x6x) none (.mv (.t x16x)) (.cons (some x7x) none (.mv (.t x19x)) .nil))))))) .ret) .skip)) (.seq (.reg (.cons (some x8x) none (.mv (.c (.n 0))) .nil)) 
  (.seq (.seq (.reg (.cons (some x20x) none (.mv (.t x1x)) (.cons (some x21x) none (.len (.t x20x)) (.cons (some x22x) none (.bin .gtr (.t x21x) (.c (.n 0))) .nil)))) (.cond (.t 
  x22x) (.reg (.cons (some x23x) none (.mv (.t x1x)) (.cons (some x24x) none (.mv (.t x1x)) (.cons (some x25x) none (.len (.t x24x)) (.cons (some x26x) none (.bin .sub (.t x25x) 
  (.c (.n 1))) (.cons (some x27x) none (.ixs 1 (.t x23x) (.t x26x)) (.cons (some x28x) none (.ld 1 false (.t x27x)) (.cons (some x29x) none (.bin .add (.t x28x) (.c (.n 1))) (.cons 
  (some x8x) none (.mv (.t x29x)) .nil))))))))) .skip)) (.seq (.block 0 (.loop (.seq (.seq (.reg (.cons (some x30x) none (.mv (.t x8x)) (.cons (some x31x) none (.mv (.t x0x)) 
  (.cons (some x32x) none (.call 56 (.cons (.t x31x) .nil)) (.cons (some x33x) none (.bin .lss (.t x30x) (.t x32x)) .nil))))) (.cond (.t x33x) .skip (.exit 0))) (.seq (.block 1 
  (.seq (.reg (.cons (some x36x) none (.mv (.t x1x)) (.cons (some x37x) none (.call 70 (.cons (.t x36x) .nil)) (.cons (some x38x) none (.mv (.t x8x)) (.cons (some x39x) none (.bsl 
  3 1 1 (.cons (.n 0) .nil) (.cons 0 1 (.t x38x) .nil)) (.cons (some x40x) none (.app 3 1 8 (.t x37x) (.t x39x)) (.cons (some x9x) none (.mv (.t x40x)) .nil))))))) (.seq (.reg 
  (.cons (some x42x) none (.mv (.t x0x)) (.cons (some x43x) none (.mv (.t x9x)) (.cons (some x44x) none (.mv (.t x2x)) (.cons (some x45x) none (.call 67 (.cons (.t x42x) (.cons (.t 
  x43x) (.cons (.t x44x) .nil)))) (.cons (some x41x) none (.mv (.t x45x)) (.cons (some x46x) none (.ext 0 (.t x41x)) (.cons (some x47x) none (.ext 1 (.t x41x)) (.cons (some x10x) 
  none (.mv (.t x46x)) (.cons (some x11x) none (.mv (.t x47x)) .nil)))))))))) (.seq (.reg (.cons (some x48x) none (.mv (.t x11x)) .nil)) (.cond (.t x48x) (.seq (.reg (.cons (some 
  x49x) none (.mv (.t x10x)) (.cons (some x6x) none (.mv (.t x49x)) (.cons (some x7x) none (.mv (.c (.b true))) .nil)))) .ret) .skip))))) (.reg (.cons (some x34x) none (.mv (.t 
  x8x)) (.cons (some x35x) none (.bin .add (.t x34x) (.c (.n 1))) (.cons (some x8x) none (.mv (.t x35x)) .nil)))))))) (.seq (.reg (.cons (some x6x) none (.mv (.c .ns)) (.cons (some 
  x7x) none (.mv (.c (.b false))) .nil))) .ret)))))) [(.tmp x6x), (.tmp x7x)])
theorem cc67 : compF Try.prog drops true false Try.f67 = some i67 := by kernel_rfl
noncomputable def i68 : FnI := (.mk true false (.seq (.reg (.cons (some x4x) none (.mv (.c (.n 0))) (.cons (some x5x) none (.mv (.c (.n 0))) .nil))) (.seq (.reg (.cons (some x8x) none (.mv (.t x0x)) (.cons (some 
  x9x) none (.mv (.t x1x)) (.cons (some x10x) none (.bin .shl (.c (.n 1)) (.t x9x)) (.cons (some x11x) none (.bin .rem (.t x8x) (.t x10x)) (.cons (some x6x) none (.mv (.t x11x)) 
  .nil)))))) (.seq (.reg (.cons (some x12x) none (.mv (.t x0x)) (.cons (some x13x) none (.mv (.t x1x)) (.cons (some x14x) none (.bin .shr (.t x12x) (.t x13x)) (.cons (some x7x) 
  none (.mv (.t x14x)) .nil))))) (.seq (.reg (.cons (some x15x) none (.mv (.t x7x)) (.cons (some x16x) none (.mv (.t x1x)) (.cons (some x17x) none (.bin .add (.t x16x) (.c (.n 1))) 
  (.cons (some x18x) none (.bin .shl (.t x15x) (.t x17x)) (.cons (some x19x) none (.mv (.t x6x)) (.cons (some x20x) none (.bin .add (.t x18x) (.t x19x)) (.cons (some x4x) none (.mv 
  (.t x20x)) .nil)))))))) (.seq (.reg (.cons (some x21x) none (.mv (.t x4x)) (.cons (some x22x) none (.mv (.t x4x)) (.cons (some x23x) none (.mv (.t x1x)) (.cons (some x24x) none 
  (.call 61 (.cons (.t x22x) (.cons (.t x23x) .nil))) (.cons (some x4x) none (.mv (.t x21x)) (.cons (some x5x) none (.mv (.t x24x)) .nil))))))) .ret))))) [(.tmp x4x), (.tmp x5x)])
theorem cc68 : compF Try.prog drops true false Try.f68 = some i68 := by kernel_rfl
noncomputable def i69 : FnI := (.mk true true (.seq (.reg (.cons (some x4x) none (.mv (.c (.b false))) .nil)) (.seq (.reg (.cons (some x5x) none (.mv (.t x0x)) (.cons (some x6x) none (.mv (.t x1x)) (.cons (some 
  x7x) none (.call 33 (.cons (.t x5x) (.cons (.t x6x) .nil))) (.cons (some x8x) none (.call 17 (.cons (.t x7x) (.cons (.c (.n 0)) .nil))) (.cons (some x9x) none (.not (.t x8x)) 
  (.cons (some x4x) none (.mv (.t x9x)) .nil))))))) .ret)) [(.tmp x4x)])
theorem cc69 : compF Try.prog drops true true Try.f69 = some i69 := by kernel_rfl
noncomputable def i70 : FnI := (.mk true false (.seq (.reg (.cons (some x2x) none (.mv (.c .ns)) .nil)) (.seq (.seq (.reg (.cons (some x3x) none (.mv (.t x0x)) (.cons (some x4x) none (.eqn false (.t x3x) (.c 
  .ns)) .nil))) (.cond (.t x4x) (.seq (.reg (.cons (some x2x) none (.mv (.c .ns)) .nil)) .ret) .skip)) (.seq (.reg (.cons (some x5x) none (.bsl 3 1 0 .nil .nil) (.cons (some x6x) 
  none (.mv (.t x0x)) (.cons (some x7x) none (.app 3 1 8 (.t x5x) (.t x6x)) (.cons (some x2x) none (.mv (.t x7x)) .nil))))) .ret))) [(.tmp x2x)])
theorem cc70 : compF Try.prog drops true false Try.f70 = some i70 := by kernel_rfl
noncomputable def i63 : FnI := (.mk true false (.seq (.reg (.cons (some x6x) none (.mv (.c (.n 0))) .nil)) (.seq (.reg (.cons (some x12x) none (.mv (.t x1x)) (.cons (some x13x) none (.mv (.t x2x)) (.cons (some 
  x14x) none (.call 68 (.cons (.t x12x) (.cons (.t x13x) .nil))) (.cons (some x11x) none (.mv (.t x14x)) (.cons (some x15x) none (.ext 0 (.t x11x)) (.cons (some x16x) none (.ext 1 
  (.t x11x)) (.cons (some x7x) none (.mv (.t x15x)) (.cons (some x8x) none (.mv (.t x16x)) .nil))))))))) (.seq (.reg (.cons (some x17x) none (.mv (.t x0x)) (.cons (some x18x) none 
  (.mv (.t x7x)) (.cons (some x19x) none (.call 17 (.cons (.t x17x) (.cons (.t x18x) .nil))) (.cons (some x20x) none (.mv (.t x0x)) (.cons (some x21x) none (.mv (.t x8x)) (.cons 
  (some x22x) none (.call 17 (.cons (.t x20x) (.cons (.t x21x) .nil))) (.cons (some x9x) none (.mv (.t x19x)) (.cons (some x10x) none (.mv (.t x22x)) .nil))))))))) (.seq (.block 0 
  (.seq (.reg (.cons (some x24x) none (.mv (.t x9x)) (.cons (some x25x) none (.mv (.t x10x)) (.cons (some x26x) none (.eqb false (.t x24x) (.t x25x)) (.cons (some x23x) none (.mv 
  (.t x26x)) .nil))))) (.cond (.t x23x) (.seq (.reg (.cons (some x6x) none (.mv (.c (.n 2))) .nil)) .ret) (.seq (.reg (.cons (some x28x) none (.mv (.t x9x)) (.cons (some x27x) none 
  (.mv (.t x28x)) .nil))) (.cond (.t x27x) (.seq (.reg (.cons (some x6x) none (.mv (.c (.n 1))) .nil)) .ret) .skip))))) (.seq (.reg (.cons (some x6x) none (.mv (.c (.n 0))) .nil)) 
  .ret))))) [(.tmp x6x)])
theorem cc63 : compF Try.prog drops true false Try.f63 = some i63 := by kernel_rfl
noncomputable def fs63 : List (Nat × FnI) := (63, i63) :: []
theorem l63 : Listed Try.prog fs63 := listed_cons Try.func63 cc63 listed_nil (by decide)
noncomputable def fs70 : List (Nat × FnI) := (70, i70) :: fs63
theorem l70 : Listed Try.prog fs70 := listed_cons Try.func70 cc70 l63 (by decide)
noncomputable def fs69 : List (Nat × FnI) := (69, i69) :: fs70
theorem l69 : Listed Try.prog fs69 := listed_cons Try.func69 cc69 l70 (by decide)
noncomputable def fs68 : List (Nat × FnI) := (68, i68) :: fs69
theorem l68 : Listed Try.prog fs68 := listed_cons Try.func68 cc68 l69 (by decide)
noncomputable def fs67 : List (Nat × FnI) := (67, i67) :: fs68
theorem l67 : Listed Try.prog fs67 := listed_cons Try.func67 cc67 l68 (by decide)
noncomputable def fs66 : List (Nat × FnI) := (66, i66) :: fs67
theorem l66 : Listed Try.prog fs66 := listed_cons Try.func66 cc66 l67 (by decide)
noncomputable def fs65 : List (Nat × FnI) := (65, i65) :: fs66
theorem l65 : Listed Try.prog fs65 := listed_cons Try.func65 cc65 l66 (by decide)
noncomputable def fs64 : List (Nat × FnI) := (64, i64) :: fs65
theorem l64 : Listed Try.prog fs64 := listed_cons Try.func64 cc64 l65 (by decide)
noncomputable def fs62 : List (Nat × FnI) := (62, i62) :: fs64
theorem l62 : Listed Try.prog fs62 := listed_cons Try.func62 cc62 l64 (by decide)
noncomputable def fs61 : List (Nat × FnI) := (61, i61) :: fs62
theorem l61 : Listed Try.prog fs61 := listed_cons Try.func61 cc61 l62 (by decide)
noncomputable def fs60 : List (Nat × FnI) := (60, i60) :: fs61
theorem l60 : Listed Try.prog fs60 := listed_cons Try.func60 cc60 l61 (by decide)
noncomputable def fs59 : List (Nat × FnI) := (59, i59) :: fs60
theorem l59 : Listed Try.prog fs59 := listed_cons Try.func59 cc59 l60 (by decide)
noncomputable def fs58 : List (Nat × FnI) := (58, i58) :: fs59
theorem l58 : Listed Try.prog fs58 := listed_cons Try.func58 cc58 l59 (by decide)
noncomputable def fs57 : List (Nat × FnI) := (57, i57) :: fs58
theorem l57 : Listed Try.prog fs57 := listed_cons Try.func57 cc57 l58 (by decide)
noncomputable def fs56 : List (Nat × FnI) := (56, i56) :: fs57
theorem l56 : Listed Try.prog fs56 := listed_cons Try.func56 cc56 l57 (by decide)
noncomputable def fs55 : List (Nat × FnI) := (55, i55) :: fs56
theorem l55 : Listed Try.prog fs55 := listed_cons Try.func55 cc55 l56 (by decide)
noncomputable def fs54 : List (Nat × FnI) := (54, i54) :: fs55
theorem l54 : Listed Try.prog fs54 := listed_cons Try.func54 cc54 l55 (by decide)
noncomputable def fs53 : List (Nat × FnI) := (53, i53) :: fs54
theorem l53 : Listed Try.prog fs53 := listed_cons Try.func53 cc53 l54 (by decide)
noncomputable def fs52 : List (Nat × FnI) := (52, i52) :: fs53
theorem l52 : Listed Try.prog fs52 := listed_cons Try.func52 cc52 l53 (by decide)
noncomputable def fs51 : List (Nat × FnI) := (51, i51) :: fs52
theorem l51 : Listed Try.prog fs51 := listed_cons Try.func51 cc51 l52 (by decide)
noncomputable def fs50 : List (Nat × FnI) := (50, i50) :: fs51
theorem l50 : Listed Try.prog fs50 := listed_cons Try.func50 cc50 l51 (by decide)
noncomputable def fs49 : List (Nat × FnI) := (49, i49) :: fs50
theorem l49 : Listed Try.prog fs49 := listed_cons Try.func49 cc49 l50 (by decide)
noncomputable def fs48 : List (Nat × FnI) := (48, i48) :: fs49
theorem l48 : Listed Try.prog fs48 := listed_cons Try.func48 cc48 l49 (by decide)
noncomputable def fs47 : List (Nat × FnI) := (47, i47) :: fs48
theorem l47 : Listed Try.prog fs47 := listed_cons Try.func47 cc47 l48 (by decide)
noncomputable def fs46 : List (Nat × FnI) := (46, i46) :: fs47
theorem l46 : Listed Try.prog fs46 := listed_cons Try.func46 cc46 l47 (by decide)
noncomputable def fs45 : List (Nat × FnI) := (45, i45) :: fs46
theorem l45 : Listed Try.prog fs45 := listed_cons Try.func45 cc45 l46 (by decide)
noncomputable def fs44 : List (Nat × FnI) := (44, i44) :: fs45
theorem l44 : Listed Try.prog fs44 := listed_cons Try.func44 cc44 l45 (by decide)
noncomputable def fs43 : List (Nat × FnI) := (43, i43) :: fs44
theorem l43 : Listed Try.prog fs43 := listed_cons Try.func43 cc43 l44 (by decide)
noncomputable def fs42 : List (Nat × FnI) := (42, i42) :: fs43
theorem l42 : Listed Try.prog fs42 := listed_cons Try.func42 cc42 l43 (by decide)
noncomputable def fs41 : List (Nat × FnI) := (41, i41) :: fs42
theorem l41 : Listed Try.prog fs41 := listed_cons Try.func41 cc41 l42 (by decide)
noncomputable def fs40 : List (Nat × FnI) := (40, i40) :: fs41
theorem l40 : Listed Try.prog fs40 := listed_cons Try.func40 cc40 l41 (by decide)
noncomputable def fs39 : List (Nat × FnI) := (39, i39) :: fs40
theorem l39 : Listed Try.prog fs39 := listed_cons Try.func39 cc39 l40 (by decide)
noncomputable def fs38 : List (Nat × FnI) := (38, i38) :: fs39
theorem l38 : Listed Try.prog fs38 := listed_cons Try.func38 cc38 l39 (by decide)
noncomputable def fs37 : List (Nat × FnI) := (37, i37) :: fs38
theorem l37 : Listed Try.prog fs37 := listed_cons Try.func37 cc37 l38 (by decide)
noncomputable def fs36 : List (Nat × FnI) := (36, i36) :: fs37
theorem l36 : Listed Try.prog fs36 := listed_cons Try.func36 cc36 l37 (by decide)
noncomputable def fs35 : List (Nat × FnI) := (35, i35) :: fs36
theorem l35 : Listed Try.prog fs35 := listed_cons Try.func35 cc35 l36 (by decide)
noncomputable def fs34 : List (Nat × FnI) := (34, i34) :: fs35
theorem l34 : Listed Try.prog fs34 := listed_cons Try.func34 cc34 l35 (by decide)
noncomputable def fs33 : List (Nat × FnI) := (33, i33) :: fs34
theorem l33 : Listed Try.prog fs33 := listed_cons Try.func33 cc33 l34 (by decide)
noncomputable def fs32 : List (Nat × FnI) := (32, i32) :: fs33
theorem l32 : Listed Try.prog fs32 := listed_cons Try.func32 cc32 l33 (by decide)
noncomputable def fs31 : List (Nat × FnI) := (31, i31) :: fs32
theorem l31 : Listed Try.prog fs31 := listed_cons Try.func31 cc31 l32 (by decide)
noncomputable def fs30 : List (Nat × FnI) := (30, i30) :: fs31
theorem l30 : Listed Try.prog fs30 := listed_cons Try.func30 cc30 l31 (by decide)
noncomputable def fs29 : List (Nat × FnI) := (29, i29) :: fs30
theorem l29 : Listed Try.prog fs29 := listed_cons Try.func29 cc29 l30 (by decide)
noncomputable def fs28 : List (Nat × FnI) := (28, i28) :: fs29
theorem l28 : Listed Try.prog fs28 := listed_cons Try.func28 cc28 l29 (by decide)
noncomputable def fs27 : List (Nat × FnI) := (27, i27) :: fs28
theorem l27 : Listed Try.prog fs27 := listed_cons Try.func27 cc27 l28 (by decide)
noncomputable def fs26 : List (Nat × FnI) := (26, i26) :: fs27
theorem l26 : Listed Try.prog fs26 := listed_cons Try.func26 cc26 l27 (by decide)
noncomputable def fs25 : List (Nat × FnI) := (25, i25) :: fs26
theorem l25 : Listed Try.prog fs25 := listed_cons Try.func25 cc25 l26 (by decide)
noncomputable def fs24 : List (Nat × FnI) := (24, i24) :: fs25
theorem l24 : Listed Try.prog fs24 := listed_cons Try.func24 cc24 l25 (by decide)
noncomputable def fs23 : List (Nat × FnI) := (23, i23) :: fs24
theorem l23 : Listed Try.prog fs23 := listed_cons Try.func23 cc23 l24 (by decide)
noncomputable def fs22 : List (Nat × FnI) := (22, i22) :: fs23
theorem l22 : Listed Try.prog fs22 := listed_cons Try.func22 cc22 l23 (by decide)
noncomputable def fs21 : List (Nat × FnI) := (21, i21) :: fs22
theorem l21 : Listed Try.prog fs21 := listed_cons Try.func21 cc21 l22 (by decide)
noncomputable def fs20 : List (Nat × FnI) := (20, i20) :: fs21
theorem l20 : Listed Try.prog fs20 := listed_cons Try.func20 cc20 l21 (by decide)
noncomputable def fs19 : List (Nat × FnI) := (19, i19) :: fs20
theorem l19 : Listed Try.prog fs19 := listed_cons Try.func19 cc19 l20 (by decide)
noncomputable def fs18 : List (Nat × FnI) := (18, i18) :: fs19
theorem l18 : Listed Try.prog fs18 := listed_cons Try.func18 cc18 l19 (by decide)
noncomputable def fs17 : List (Nat × FnI) := (17, i17) :: fs18
theorem l17 : Listed Try.prog fs17 := listed_cons Try.func17 cc17 l18 (by decide)
noncomputable def fs16 : List (Nat × FnI) := (16, i16) :: fs17
theorem l16 : Listed Try.prog fs16 := listed_cons Try.func16 cc16 l17 (by decide)
noncomputable def fs15 : List (Nat × FnI) := (15, i15) :: fs16
theorem l15 : Listed Try.prog fs15 := listed_cons Try.func15 cc15 l16 (by decide)
noncomputable def fs14 : List (Nat × FnI) := (14, i14) :: fs15
theorem l14 : Listed Try.prog fs14 := listed_cons Try.func14 cc14 l15 (by decide)
noncomputable def fs13 : List (Nat × FnI) := (13, i13) :: fs14
theorem l13 : Listed Try.prog fs13 := listed_cons Try.func13 cc13 l14 (by decide)
noncomputable def fs12 : List (Nat × FnI) := (12, i12) :: fs13
theorem l12 : Listed Try.prog fs12 := listed_cons Try.func12 cc12 l13 (by decide)
noncomputable def fs11 : List (Nat × FnI) := (11, i11) :: fs12
theorem l11 : Listed Try.prog fs11 := listed_cons Try.func11 cc11 l12 (by decide)
noncomputable def fs10 : List (Nat × FnI) := (10, i10) :: fs11
theorem l10 : Listed Try.prog fs10 := listed_cons Try.func10 cc10 l11 (by decide)
noncomputable def fs9 : List (Nat × FnI) := (9, i9) :: fs10
theorem l9 : Listed Try.prog fs9 := listed_cons Try.func9 cc9 l10 (by decide)
noncomputable def fs8 : List (Nat × FnI) := (8, i8) :: fs9
theorem l8 : Listed Try.prog fs8 := listed_cons Try.func8 cc8 l9 (by decide)
noncomputable def fs7 : List (Nat × FnI) := (7, i7) :: fs8
theorem l7 : Listed Try.prog fs7 := listed_cons Try.func7 cc7 l8 (by decide)
noncomputable def fs6 : List (Nat × FnI) := (6, i6) :: fs7
theorem l6 : Listed Try.prog fs6 := listed_cons Try.func6 cc6 l7 (by decide)
noncomputable def fs5 : List (Nat × FnI) := (5, i5) :: fs6
theorem l5 : Listed Try.prog fs5 := listed_cons Try.func5 cc5 l6 (by decide)
noncomputable def fs4 : List (Nat × FnI) := (4, i4) :: fs5
theorem l4 : Listed Try.prog fs4 := listed_cons Try.func4 cc4 l5 (by decide)
noncomputable def FS : List (Nat × FnI) := fs4
theorem listed : Listed Try.prog FS := l4
noncomputable def cmp : Nat → Code → Option IC := fun N c => compC Try.prog drops N c
noncomputable def PRT : FT := FT.of FS
noncomputable def EQ (W : FF → FF) (d : Nat) : FF := evQ cmp PRT W d
noncomputable def EF (d : Nat) : FF := EQ (fun G => G) d
theorem follows : Try.prog.follows .mixedOrders = true := by kernel_rfl
theorem EQ_ok {W : FF → FF} (hM : ∀ G, FF.mono G → (W G).mono) (hW : ∀ G, FOK Try.prog G → FOK Try.prog (W G)) (d : Nat) : FOK Try.prog (EQ W d) := evQ_sound follows listed hM hW d
theorem EQ_mono {W : FF → FF} (hM : ∀ G, FF.mono G → (W G).mono) (d : Nat) : (EQ W d).mono := evQ_mono _ _ hM d
theorem EF_ok (d : Nat) : FOK Try.prog (EF d) := EQ_ok (fun _ h => h) (fun _ h => h) d
theorem EF_mono (d : Nat) : (EF d).mono := EQ_mono (fun _ h => h) d
def zs64 : List Int := [0, 1, 56, 2, 57, 49, 28, 3, 61, 58, 42, 50, 38, 29, 17, 4, 62, 47, 59, 36, 45, 43, 51, 22, 53, 39, 33, 30, 24, 18, 12, 5, 63, 55, 48, 27, 60, 41, 37, 16, 46, 35, 44, 21, 52, 32, 23, 11, 54, 26, 40, 15, 34, 20, 31, 10, 25, 14, 19, 9, 13, 8, 7, 6]
noncomputable def tbH (el : TypeId) : Hp := tabH [(1, el, kL .u8 zs64)]
end Go.Proofs.Ythgaekbcmhbbgaa.Ev
/- Codes as sets: bits of numbers, elements, and how often colourings are covered. -/
namespace Go.Proofs.Ythgaekbcmhbbgaa.Ev
set_option linter.unusedVariables false
set_option maxRecDepth 100000
open Go Go.Proofs Go.RowKit

/-! Bits of numbers. -/
theorem nn_I {a b : Nat} (ha : a < 9223372036854775808) (hb : b < 9223372036854775808) (f : Nat → Nat → V) (S : V) : onNN (I (a : Int)) (I (b : Int)) f S = f a b := by
  unfold onNN
  rw [onN_I _ _ (by omega) (by omega), onN_I _ _ (by omega) (by omega)]
  simp
theorem bin_xorN {a b : Nat} (ha : a < 2 ^ 62) (hb : b < 2 ^ 62) : binV .xor (I (a : Int)) (I (b : Int)) = I ((a ^^^ b : Nat) : Int) := by
  refine (binV_eq _ _ _).trans ((nn_I (by omega) (by omega) _ _).trans (small_len _ ?_))
  have := Nat.xor_lt_two_pow ha hb
  show a ^^^ b < _
  omega
theorem bin_orN {a b : Nat} (ha : a < 2 ^ 62) (hb : b < 2 ^ 62) : binV .or (I (a : Int)) (I (b : Int)) = I ((a ||| b : Nat) : Int) := by
  refine (binV_eq _ _ _).trans ((nn_I (by omega) (by omega) _ _).trans (small_len _ ?_))
  have := Nat.or_lt_two_pow ha hb
  show a ||| b < _
  omega
theorem bin_andN {a b : Nat} (ha : a < 2 ^ 62) (hb : b < 2 ^ 62) : binV .and (I (a : Int)) (I (b : Int)) = I ((a &&& b : Nat) : Int) := by
  refine (binV_eq _ _ _).trans ((nn_I (by omega) (by omega) _ _).trans ?_)
  rw [fN_eq]
  have h : a &&& b ≤ a := Nat.and_le_left
  exact n_I (show a &&& b < _ by omega)
theorem bin_shrN {a b : Nat} (ha : a < 2 ^ 62) (hb : b ≤ 64) : binV .shr (I (a : Int)) (I (b : Int)) = I ((a >>> b : Nat) : Int) := by
  refine (binV_eq _ _ _).trans ((nn_I (by omega) (by omega) _ _).trans ?_)
  rw [show Nat.ble b 64 = true from Nat.ble_eq.mpr hb]
  show fN (Nat.shiftRight a b) V.n = _
  rw [fN_eq]
  have h : a >>> b ≤ a := by rw [Nat.shiftRight_eq_div_pow]; exact Nat.div_le_self _ _
  exact n_I (show a >>> b < _ by omega)
theorem bin_shlN {a b : Nat} (ha : a < 2 ^ 62) (hb : b ≤ 64) (h : a <<< b < 2 ^ 62) : binV .shl (I (a : Int)) (I (b : Int)) = I ((a <<< b : Nat) : Int) := by
  refine (binV_eq _ _ _).trans ((nn_I (by omega) (by omega) _ _).trans ?_)
  rw [show Nat.ble b 64 = true from Nat.ble_eq.mpr hb]
  exact small_len _ (show a <<< b < _ by omega)
/-- The bits of one number that another one lacks. -/
def bnN (a b : Nat) : Nat := (BitVec.ofNat 64 a &&& ~~~ BitVec.ofNat 64 b).toNat
theorem bnN_le {a b : Nat} (ha : a < 2 ^ 62) : bnN a b ≤ a := by
  unfold bnN
  rw [BitVec.toNat_and]
  have : (BitVec.ofNat 64 a).toNat = a := by rw [BitVec.toNat_ofNat]; omega
  rw [this]
  exact Nat.and_le_left
theorem bnN_bit {a b e : Nat} (he : e < 64) : (bnN a b).testBit e = (a.testBit e && !b.testBit e) := by
  unfold bnN
  rw [BitVec.testBit_toNat, BitVec.getLsbD_and, BitVec.getLsbD_not, BitVec.getLsbD_ofNat, BitVec.getLsbD_ofNat]
  simp [he]
theorem bin_bnN {a b : Nat} (ha : a < 2 ^ 62) : binV .andNot (I (a : Int)) (I (b : Int)) = I (bnN a b : Int) := by
  refine (binV_eq _ _ _).trans ?_
  show slowB .andNot _ _ = _
  rw [slow_I _ _ _ (by simp) (by simp)]
  have h := bnN_le (b := b) ha
  have e : (BitVec.ofInt IntKind.i64.bits (a : Int) &&& ~~~ BitVec.ofInt IntKind.i64.bits (b : Int)).toNat = bnN a b := by
    unfold bnN
    rw [BitVec.ofInt_natCast, BitVec.ofInt_natCast]
    rfl
  simp only [slowI, e]
  rw [wrap64 (by omega) (by omega)]
  rfl

/-! The elements of a set. -/
def elN (s k : Nat) : List Nat := (List.range k).filter fun c => s.testBit c
theorem elN_succ (s k : Nat) : elN s (k + 1) = elN s k ++ (if s.testBit k = true then [k] else []) := by
  unfold elN
  rw [List.range_succ, List.filter_append]
  congr 1
  cases h : s.testBit k <;> simp [h]
theorem elN_lt {s k x : Nat} (h : x ∈ elN s k) : x < k ∧ s.testBit x = true := by
  unfold elN at h
  rw [List.mem_filter, List.mem_range] at h
  exact h
theorem elN_end {s k : Nat} (h : s >>> k = 0) : ∀ j, elN s (k + j) = elN s k
  | 0 => rfl
  | j + 1 => by
    rw [show k + (j + 1) = k + j + 1 by omega, elN_succ, elN_end h j]
    have : s.testBit (k + j) = false := by
      have h2 : (s >>> k).testBit j = false := by rw [h]; simp
      rwa [Nat.testBit_shiftRight] at h2
    rw [this]; simp
theorem elN_16 {s k : Nat} (hk : k ≤ 16) (h : s >>> k = 0) : elN s 16 = elN s k := by
  have := elN_end h (16 - k)
  rwa [show k + (16 - k) = 16 by omega] at this

/-! How often a colouring is covered. -/
def hitN (n e v : Nat) : Nat := (if v = e then 1 else 0) + ((List.range n).map fun i => if v = e ^^^ (1 <<< i) then 1 else 0).sum
def cntN (n : Nat) (xs : List Nat) (v : Nat) : Nat := (xs.map fun e => hitN n e v).sum
theorem cntN_app (n : Nat) (xs ys : List Nat) (v : Nat) : cntN n (xs ++ ys) v = cntN n xs v + cntN n ys v := by
  unfold cntN; rw [List.map_append, List.sum_append]
theorem cntN_el (n s v : Nat) : ∀ k, cntN n (elN s k) v = ((List.range k).map fun e => if s.testBit e = true then hitN n e v else 0).sum
  | 0 => rfl
  | k + 1 => by
    rw [elN_succ, cntN_app, cntN_el n s v k, List.range_succ, List.map_append, List.sum_append]
    cases h : s.testBit k <;> simp [cntN, h]
theorem sum_ins (f : Nat → Nat) (a b : Nat → Bool) (c : Nat) (hac : a c = true) (hbc : b c = false) (hab : ∀ e, e ≠ c → a e = b e) : ∀ k, ((List.range k).map fun e => if a e = true then f e else 0).sum = ((List.range k).map fun e => if b e = true then f e else 0).sum + (if c < k then f c else 0)
  | 0 => rfl
  | k + 1 => by
    rw [List.range_succ, List.map_append, List.sum_append, List.map_append, List.sum_append, sum_ins f a b c hac hbc hab k]
    by_cases h : k = c
    · subst h
      simp [hac, hbc]
    · simp only [List.map_cons, List.map_nil, List.sum_cons, List.sum_nil, hab k h]
      by_cases h2 : c < k
      · rw [if_pos h2, if_pos (show c < k + 1 by omega)]; omega
      · rw [if_neg h2, if_neg (show ¬ c < k + 1 by omega)]; omega
/-- One more element: what it covers is covered once more. -/
theorem cnt_more {n s c v : Nat} (hs : s < 65536) (hc : c < 16) : cntN n (elN (s ||| 1 <<< c) 16) v = cntN n (elN (bnN s (1 <<< c)) 16) v + hitN n c v := by
  rw [cntN_el, cntN_el]
  have bitc : ∀ e, (1 <<< c).testBit e = decide (c = e) := fun e => by
    rw [Nat.one_shiftLeft, Nat.testBit_two_pow]
  have h := sum_ins (fun e => hitN n e v) (fun e => (s ||| 1 <<< c).testBit e) (fun e => decide (e < 64) && (s.testBit e && !(1 <<< c).testBit e)) c (by simp [bitc]) (by simp [bitc]) (fun e he => by
    have h0 : (1 <<< c).testBit e = false := by rw [bitc]; simp; omega
    show (s ||| 1 <<< c).testBit e = _
    rw [Nat.testBit_or, h0]
    by_cases h6 : e < 64
    · simp [h6]
    · have : s.testBit e = false := Nat.testBit_lt_two_pow (Nat.lt_of_lt_of_le hs (by
        have : (2 : Nat) ^ 16 ≤ 2 ^ e := Nat.pow_le_pow_right (by omega) (by omega)
        omega))
      simp [this, h6]) 16
  rw [if_pos hc] at h
  have h2 : ((List.range 16).map fun e => if (decide (e < 64) && (s.testBit e && !(1 <<< c).testBit e)) = true then hitN n e v else 0) = (List.range 16).map fun e => if (bnN s (1 <<< c)).testBit e = true then hitN n e v else 0 := by
    refine List.map_congr_left fun e he => ?_
    rw [List.mem_range] at he
    rw [bnN_bit (by omega), show decide (e < 64) = true from decide_eq_true (by omega), Bool.true_and]
  rw [← h2]
  exact h
/-- What an element covers: at a distance of at most one. -/
def nearB (x c : Nat) : Bool := decide ((x ^^^ c) &&& ((x ^^^ c) - 1) = 0)
theorem hit_near : ∀ n, n < 5 → ∀ c, c < 2 ^ n → ∀ x, x < 2 ^ n → hitN n c x = if nearB x c = true then 1 else 0 := by decide +kernel
end Go.Proofs.Ythgaekbcmhbbgaa.Ev
/- Lists of ints that grow from nil, one by one. -/
namespace Go.Proofs.Ythgaekbcmhbbgaa.Ev
set_option linter.unusedVariables false
set_option linter.unusedSimpArgs false
set_option maxRecDepth 100000
open Go Go.Proofs
noncomputable def svH (ps : Nat) (l : List Int) (h : Hp) : Hp := if l.length = 0 then h else h.put (some (blkL 3 (iL l))) (tp ps)
theorem svH_same {p : Nat} {l : List Int} {h : Hp} (hl : l.length ≠ 0) : (svH p l h).get (tp p) = some (blkL 3 (iL l)) := by
  rw [svH, if_neg hl]; exact hget_same _ _ _
theorem put_other {p q : Nat} {x : Option Blk} {h : Hp} (hp : p < 4294967296) (hq : q < 4294967296) (hn : p ≠ q) : (h.put x (tp p)).get (tp q) = h.get (tp q) := by
  rw [Hp.get_put, if_neg (fun e => hn (tp_inj hq hp e).symm)]
theorem coll_1 (h : Hp) (n m : Nat) (hn : 1 ≤ n) (hm : m = 1) : coll h n m = .cons (tp (n - 1)) (h.get (tp (n - 1))) .nil := by
  subst hm
  have e : posF 63 n = tp (n - 1) := by show _ = posF 63 (n - 1 + 1); rw [Nat.sub_add_cancel hn]
  rw [← e]; rfl
theorem baseA_1t (a : Pos) (x : Option Blk) (acc : List Dl) (an : List Bool) (h : Hp) : baseA (.cons a x .nil :: acc) (true :: an) h = (baseA acc an h).put x a := rfl
theorem baseA_1f (a : Pos) (x : Option Blk) (acc : List Dl) (an : List Bool) (h : Hp) : baseA (.cons a x .nil :: acc) (false :: an) h = baseA acc an h := rfl
theorem baseR_1t (a : Pos) (x : Option Blk) (acc : List Dl) (an : List Bool) (h : Hp) : baseR (.cons a x .nil :: acc) (true :: an) h = baseR acc an h := rfl
theorem baseR_1f (a : Pos) (x : Option Blk) (acc : List Dl) (an : List Bool) (h : Hp) : baseR (.cons a x .nil :: acc) (false :: an) h = (baseR acc an h).put none a := rfl
theorem baseR_1n (a : Pos) (x : Option Blk) (acc : List Dl) (h : Hp) : baseR (.cons a x .nil :: acc) [] h = (baseR acc [] h).put none a := rfl
theorem appAll_1' (acc : List Dl) (h : Hp) (a : Pos) (x : Option Blk) : appAll (.cons a x .nil :: acc) h = (appAll acc h).put x a := rfl
noncomputable def slN (p off : Nat) (xs : List Int) : V := if xs.length = 0 then .ns else .sl (tp p) off 1 (xs.length - off) none
noncomputable def apB (xs : List Int) (off : Nat) (z : Int) : Blk := if xs.length = 0 then blkL 3 (.cons (I z) .nil) else grown (blkL 3 (iL xs)) off (xs.length - off) (.cons (I z) .nil)
noncomputable def apK (h : Hp) (p : Nat) (xs : List Int) : Hp := if xs.length = 0 then h else h.put none (tp p)
theorem grown_leO {el : TypeId} {xs : List Int} {z : Int} {off : Nat} (ho : off ≤ xs.length) (hm : xs.length + 1 ≤ 1099511627776) : BlkLe (blkL el (iL (xs.drop off ++ [z]))) (grown (blkL el (iL xs)) off (xs.length - off) (.cons (I z) .nil)) := by
  obtain ⟨g1, g2, g3⟩ := grown_spec (blkL el (iL xs)) off (xs.length - off) (.cons (I z) .nil) (by simp [L.allC, I_isC]) (by simp [L.length, maxSize]; omega)
  have hd : (xs.drop off).length = xs.length - off := List.length_drop ..
  refine ⟨.inl rfl, g1.symm, by rw [g2, blkL_size, iL_len]; simp [L.length], fun k hk => .inr ?_⟩
  rw [blkL_size, iL_len, List.length_append] at hk
  simp at hk
  rw [g3 k (by simp [L.length]; omega), blkL_cell _ _ _ (by rw [iL_len, List.length_append]; simp; omega), iL_get _ _ (by rw [List.length_append]; simp; omega)]
  by_cases hlt : k < xs.length - off
  · rw [if_pos hlt, blkL_cell _ _ _ (by rw [iL_len]; omega), iL_get _ _ (by omega)]
    simp [At, List.getElem?_append_left (show k < (xs.drop off).length by omega)]
  · rw [if_neg hlt]
    obtain rfl : k = xs.length - off := by omega
    simp [At, L.get, List.getElem?_append_right (show (xs.drop off).length ≤ xs.length - off by omega), hd]
theorem apB_le {xs : List Int} {z : Int} {off : Nat} (ho : off ≤ xs.length) (hm : xs.length + 1 ≤ 1099511627776) : BlkLe (blkL 3 (iL (xs.drop off ++ [z]))) (apB xs off z) := by
  unfold apB
  split
  · rename_i hz
    obtain rfl : xs = [] := List.eq_nil_of_length_eq_zero hz
    obtain rfl : off = 0 := by simpa using ho
    exact BlkLe.refl _
  · exact grown_leO ho hm
theorem apX_gen {p off q : Nat} {xs : List Int} {z : Int} {h : Hp} {n lim : Nat} (ho : off ≤ xs.length) (hm : xs.length ≤ 1000) (hg : xs.length ≠ 0 → p < 4294967296 ∧ lim ≤ p + 1 ∧ h.get (tp p) = some (blkL 3 (iL xs))) (hq : h.get (tp q) = some (blkL 3 (.cons (I z) .nil))) :
    apX 3 1 8 (slN p off xs) (.sl (tp q) 0 1 1 (some 1)) lim h n = newB (apB xs off z) (fun p' => .sl p' 0 1 ((xs.drop off).length + 1) none) (apK h p xs) n := by
  have hl : (blkL 3 (.cons (I z) .nil)).getL 0 (1 * 1) = .cons (I z) .nil := by
    show (blkL 3 (.cons (I z) .nil)).getL 0 1 = _
    rw [getL_blkL _ _ _ (by simp [L.length])]
  have hd : (xs.drop off).length = xs.length - off := List.length_drop ..
  unfold slN apB apK
  by_cases hz : xs.length = 0
  · obtain rfl : xs = [] := List.eq_nil_of_length_eq_zero hz
    rw [if_pos hz, if_pos hz, if_pos hz, apX_ns _ _ _ _ _ _ _ _ _ _ (by omega), hq, apN_some, hl, if_pos ⟨by simp [blkL_size, L.length], by simp [L.allC, I_isC], by omega, by omega⟩]
    simp
  · obtain ⟨h1, h2, h3⟩ := hg hz
    have hgl : (blkL 3 (iL xs)).getL off ((xs.length - off) * 1) = iL (xs.drop off) := by
      refine L_ext (by rw [getL_length, iL_len, hd, Nat.mul_one]) fun j hj => ?_
      rw [getL_length, Nat.mul_one] at hj
      rw [getL_get _ _ _ _ (by omega), blkL_cell _ _ _ (by rw [iL_len]; omega), iL_get _ _ (by omega), iL_get _ _ (by omega)]
      simp [At]
    rw [if_neg hz, if_neg hz, if_neg hz, apX_sl _ _ _ _ _ _ _ _ _ _ _ _ _ (by omega) (fun bs hb => by rw [h3] at hb; cases hb; rw [blkL_size, iL_len]; omega), hq, h3, apS_some _ _ _ _ _ _ h1, hl, if_pos ⟨⟨by simp [blkL_size, L.length], by simp [L.allC, I_isC], by omega, by omega⟩, ⟨rfl, by rw [blkL_size, iL_len]; omega, by omega, by omega⟩, h2⟩, hd]
    simp
theorem apK_other {p q : Nat} {xs : List Int} {h : Hp} (hq : q < 4294967296) (hp : xs.length ≠ 0 → p < 4294967296 ∧ p ≠ q) : (apK h p xs).get (tp q) = h.get (tp q) := by
  unfold apK
  split
  · rfl
  · rename_i hz; exact put_other (hp hz).1 hq (hp hz).2
theorem svH_other' {p q : Nat} {l : List Int} {h : Hp} (hq : q < 4294967296) (hn : l.length ≠ 0 → p < 4294967296 ∧ p ≠ q) : (svH p l h).get (tp q) = h.get (tp q) := by
  unfold svH
  split
  · rfl
  · rename_i hl; exact put_other (hn hl).1 hq (hn hl).2
theorem svH_le' {p : Nat} {l : List Int} {h0 h : Hp} (h1 : l.length ≠ 0 → ∃ b, h.get (tp p) = some b ∧ BlkLe (blkL 3 (iL l)) b) (h2 : HpLe h0 h) : HpLe (svH p l h0) h := by
  unfold svH
  split
  · exact h2
  · rename_i hl
    exact HpLe.put (h1 hl) h2
theorem slN_app {p : Nat} {xs : List Int} {z : Int} : slN p 0 (xs ++ [z]) = .sl (tp p) 0 1 (xs.length + 1) none := by
  rw [slN, if_neg (by simp), List.length_append]; rfl
end Go.Proofs.Ythgaekbcmhbbgaa.Ev
