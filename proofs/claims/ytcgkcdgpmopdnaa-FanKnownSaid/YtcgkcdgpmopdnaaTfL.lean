/- The compiled code of the functions of layer 4, in full. -/
import Derived.Test.YtcgkcdgpmopdnaaEvFa
import Derived.Test.YtcgkcdgpmopdnaaEvLw
import Derived.Test.YtcgkcdgpmopdnaaProg
import Derived.KernelRfl
namespace Go.Proofs.Ytcgkcdgpmopdnaa.Ev
set_option linter.unusedVariables false
set_option maxRecDepth 100000
open Go Go.Proofs Go.RowKit
def drops : List Nat := [3, 4, 7, 8, 9, 12, 13, 14, 16, 17, 18, 24, 26, 44, 45, 47, 48, 49, 52, 56, 57, 58, 59, 60, 61, 64, 85, 86, 87, 89, 90, 1000010, 2000000]
def x0x : Pos := .h
def x1x : Pos := (.o .h)
def x2x : Pos := (.i .h)
def x3x : Pos := (.o (.o .h))
def x4x : Pos := (.i (.o .h))
def x5x : Pos := (.o (.i .h))
def x6x : Pos := (.i (.i .h))
def x7x : Pos := (.o (.o (.o .h)))
def x8x : Pos := (.i (.o (.o .h)))
def x9x : Pos := (.o (.i (.o .h)))
def x10x : Pos := (.i (.i (.o .h)))
def x11x : Pos := (.o (.o (.i .h)))
def x12x : Pos := (.i (.o (.i .h)))
def x13x : Pos := (.o (.i (.i .h)))
def x14x : Pos := (.i (.i (.i .h)))
def x15x : Pos := (.o (.o (.o (.o .h))))
def x16x : Pos := (.i (.o (.o (.o .h))))
def x17x : Pos := (.o (.i (.o (.o .h))))
def x18x : Pos := (.i (.i (.o (.o .h))))
def x19x : Pos := (.o (.o (.i (.o .h))))
def x20x : Pos := (.i (.o (.i (.o .h))))
def x21x : Pos := (.o (.i (.i (.o .h))))
def x22x : Pos := (.i (.i (.i (.o .h))))
def x23x : Pos := (.o (.o (.o (.i .h))))
def x24x : Pos := (.i (.o (.o (.i .h))))
def x25x : Pos := (.o (.i (.o (.i .h))))
def x26x : Pos := (.i (.i (.o (.i .h))))
def x27x : Pos := (.o (.o (.i (.i .h))))
def x28x : Pos := (.i (.o (.i (.i .h))))
def x29x : Pos := (.o (.i (.i (.i .h))))
def x30x : Pos := (.i (.i (.i (.i .h))))
def x31x : Pos := (.o (.o (.o (.o (.o .h)))))
def x32x : Pos := (.i (.o (.o (.o (.o .h)))))
def x33x : Pos := (.o (.i (.o (.o (.o .h)))))
def x34x : Pos := (.i (.i (.o (.o (.o .h)))))
def x35x : Pos := (.o (.o (.i (.o (.o .h)))))
def x36x : Pos := (.i (.o (.i (.o (.o .h)))))
def x37x : Pos := (.o (.i (.i (.o (.o .h)))))
def x38x : Pos := (.i (.i (.i (.o (.o .h)))))
def x39x : Pos := (.o (.o (.o (.i (.o .h)))))
def x40x : Pos := (.i (.o (.o (.i (.o .h)))))
def x41x : Pos := (.o (.i (.o (.i (.o .h)))))
def x42x : Pos := (.i (.i (.o (.i (.o .h)))))
def x43x : Pos := (.o (.o (.i (.i (.o .h)))))
def x44x : Pos := (.i (.o (.i (.i (.o .h)))))
def x45x : Pos := (.o (.i (.i (.i (.o .h)))))
def x46x : Pos := (.i (.i (.i (.i (.o .h)))))
def x47x : Pos := (.o (.o (.o (.o (.i .h)))))
def x48x : Pos := (.i (.o (.o (.o (.i .h)))))
def x49x : Pos := (.o (.i (.o (.o (.i .h)))))
def x50x : Pos := (.i (.i (.o (.o (.i .h)))))
def x51x : Pos := (.o (.o (.i (.o (.i .h)))))
def x52x : Pos := (.i (.o (.i (.o (.i .h)))))
def x53x : Pos := (.o (.i (.i (.o (.i .h)))))
def x54x : Pos := (.i (.i (.i (.o (.i .h)))))
def x55x : Pos := (.o (.o (.o (.i (.i .h)))))
def x56x : Pos := (.i (.o (.o (.i (.i .h)))))
def x57x : Pos := (.o (.i (.o (.i (.i .h)))))
def x58x : Pos := (.i (.i (.o (.i (.i .h)))))
def x59x : Pos := (.o (.o (.i (.i (.i .h)))))
def x60x : Pos := (.i (.o (.i (.i (.i .h)))))
def x61x : Pos := (.o (.i (.i (.i (.i .h)))))
def x62x : Pos := (.i (.i (.i (.i (.i .h)))))
def x63x : Pos := (.o (.o (.o (.o (.o (.o .h))))))
def x64x : Pos := (.i (.o (.o (.o (.o (.o .h))))))
def x65x : Pos := (.o (.i (.o (.o (.o (.o .h))))))
def x66x : Pos := (.i (.i (.o (.o (.o (.o .h))))))
def x67x : Pos := (.o (.o (.i (.o (.o (.o .h))))))
def x68x : Pos := (.i (.o (.i (.o (.o (.o .h))))))
def x69x : Pos := (.o (.i (.i (.o (.o (.o .h))))))
def x70x : Pos := (.i (.i (.i (.o (.o (.o .h))))))
def x71x : Pos := (.o (.o (.o (.i (.o (.o .h))))))
def x72x : Pos := (.i (.o (.o (.i (.o (.o .h))))))
def x73x : Pos := (.o (.i (.o (.i (.o (.o .h))))))
def x74x : Pos := (.i (.i (.o (.i (.o (.o .h))))))
def x75x : Pos := (.o (.o (.i (.i (.o (.o .h))))))
def x76x : Pos := (.i (.o (.i (.i (.o (.o .h))))))
def x77x : Pos := (.o (.i (.i (.i (.o (.o .h))))))
def x78x : Pos := (.i (.i (.i (.i (.o (.o .h))))))
def x79x : Pos := (.o (.o (.o (.o (.i (.o .h))))))
def x80x : Pos := (.i (.o (.o (.o (.i (.o .h))))))
def x81x : Pos := (.o (.i (.o (.o (.i (.o .h))))))
def x82x : Pos := (.i (.i (.o (.o (.i (.o .h))))))
def x83x : Pos := (.o (.o (.i (.o (.i (.o .h))))))
def x84x : Pos := (.i (.o (.i (.o (.i (.o .h))))))
def x85x : Pos := (.o (.i (.i (.o (.i (.o .h))))))
def x86x : Pos := (.i (.i (.i (.o (.i (.o .h))))))
def x87x : Pos := (.o (.o (.o (.i (.i (.o .h))))))
def x88x : Pos := (.i (.o (.o (.i (.i (.o .h))))))
def x89x : Pos := (.o (.i (.o (.i (.i (.o .h))))))
def x90x : Pos := (.i (.i (.o (.i (.i (.o .h))))))
def x91x : Pos := (.o (.o (.i (.i (.i (.o .h))))))
def x92x : Pos := (.i (.o (.i (.i (.i (.o .h))))))
def x93x : Pos := (.o (.i (.i (.i (.i (.o .h))))))
def x94x : Pos := (.i (.i (.i (.i (.i (.o .h))))))
def x95x : Pos := (.o (.o (.o (.o (.o (.i .h))))))
def x96x : Pos := (.i (.o (.o (.o (.o (.i .h))))))
def x97x : Pos := (.o (.i (.o (.o (.o (.i .h))))))
def x98x : Pos := (.i (.i (.o (.o (.o (.i .h))))))
def x99x : Pos := (.o (.o (.i (.o (.o (.i .h))))))
def x100x : Pos := (.i (.o (.i (.o (.o (.i .h))))))
def x101x : Pos := (.o (.i (.i (.o (.o (.i .h))))))
def x102x : Pos := (.i (.i (.i (.o (.o (.i .h))))))
def x103x : Pos := (.o (.o (.o (.i (.o (.i .h))))))
def x104x : Pos := (.i (.o (.o (.i (.o (.i .h))))))
def x105x : Pos := (.o (.i (.o (.i (.o (.i .h))))))
def x106x : Pos := (.i (.i (.o (.i (.o (.i .h))))))
def x107x : Pos := (.o (.o (.i (.i (.o (.i .h))))))
def x108x : Pos := (.i (.o (.i (.i (.o (.i .h))))))
def x109x : Pos := (.o (.i (.i (.i (.o (.i .h))))))
def x110x : Pos := (.i (.i (.i (.i (.o (.i .h))))))
def x111x : Pos := (.o (.o (.o (.o (.i (.i .h))))))
def x112x : Pos := (.i (.o (.o (.o (.i (.i .h))))))
def x113x : Pos := (.o (.i (.o (.o (.i (.i .h))))))
def x114x : Pos := (.i (.i (.o (.o (.i (.i .h))))))
def x115x : Pos := (.o (.o (.i (.o (.i (.i .h))))))
def x116x : Pos := (.i (.o (.i (.o (.i (.i .h))))))
def x117x : Pos := (.o (.i (.i (.o (.i (.i .h))))))
def x118x : Pos := (.i (.i (.i (.o (.i (.i .h))))))
def x119x : Pos := (.o (.o (.o (.i (.i (.i .h))))))
def x120x : Pos := (.i (.o (.o (.i (.i (.i .h))))))
def x121x : Pos := (.o (.i (.o (.i (.i (.i .h))))))
def x122x : Pos := (.i (.i (.o (.i (.i (.i .h))))))
def x123x : Pos := (.o (.o (.i (.i (.i (.i .h))))))
def x124x : Pos := (.i (.o (.i (.i (.i (.i .h))))))
def x125x : Pos := (.o (.i (.i (.i (.i (.i .h))))))
def x126x : Pos := (.i (.i (.i (.i (.i (.i .h))))))
def x127x : Pos := (.o (.o (.o (.o (.o (.o (.o .h)))))))
def x128x : Pos := (.i (.o (.o (.o (.o (.o (.o .h)))))))
def x129x : Pos := (.o (.i (.o (.o (.o (.o (.o .h)))))))
def x130x : Pos := (.i (.i (.o (.o (.o (.o (.o .h)))))))
def x131x : Pos := (.o (.o (.i (.o (.o (.o (.o .h)))))))
def x132x : Pos := (.i (.o (.i (.o (.o (.o (.o .h)))))))
def x133x : Pos := (.o (.i (.i (.o (.o (.o (.o .h)))))))
def x134x : Pos := (.i (.i (.i (.o (.o (.o (.o .h)))))))
def x135x : Pos := (.o (.o (.o (.i (.o (.o (.o .h)))))))
def x136x : Pos := (.i (.o (.o (.i (.o (.o (.o .h)))))))
def x137x : Pos := (.o (.i (.o (.i (.o (.o (.o .h)))))))
def x138x : Pos := (.i (.i (.o (.i (.o (.o (.o .h)))))))
def x139x : Pos := (.o (.o (.i (.i (.o (.o (.o .h)))))))
def x140x : Pos := (.i (.o (.i (.i (.o (.o (.o .h)))))))
def x141x : Pos := (.o (.i (.i (.i (.o (.o (.o .h)))))))
def x142x : Pos := (.i (.i (.i (.i (.o (.o (.o .h)))))))
def x143x : Pos := (.o (.o (.o (.o (.i (.o (.o .h)))))))
def x144x : Pos := (.i (.o (.o (.o (.i (.o (.o .h)))))))
def x145x : Pos := (.o (.i (.o (.o (.i (.o (.o .h)))))))
def x146x : Pos := (.i (.i (.o (.o (.i (.o (.o .h)))))))
def x147x : Pos := (.o (.o (.i (.o (.i (.o (.o .h)))))))
def x148x : Pos := (.i (.o (.i (.o (.i (.o (.o .h)))))))
def x149x : Pos := (.o (.i (.i (.o (.i (.o (.o .h)))))))
def x150x : Pos := (.i (.i (.i (.o (.i (.o (.o .h)))))))
def x151x : Pos := (.o (.o (.o (.i (.i (.o (.o .h)))))))
def x152x : Pos := (.i (.o (.o (.i (.i (.o (.o .h)))))))
def x153x : Pos := (.o (.i (.o (.i (.i (.o (.o .h)))))))
def x154x : Pos := (.i (.i (.o (.i (.i (.o (.o .h)))))))
def x155x : Pos := (.o (.o (.i (.i (.i (.o (.o .h)))))))
def x156x : Pos := (.i (.o (.i (.i (.i (.o (.o .h)))))))
def x157x : Pos := (.o (.i (.i (.i (.i (.o (.o .h)))))))
def x158x : Pos := (.i (.i (.i (.i (.i (.o (.o .h)))))))
def x159x : Pos := (.o (.o (.o (.o (.o (.i (.o .h)))))))
def x160x : Pos := (.i (.o (.o (.o (.o (.i (.o .h)))))))
def x161x : Pos := (.o (.i (.o (.o (.o (.i (.o .h)))))))
def x162x : Pos := (.i (.i (.o (.o (.o (.i (.o .h)))))))
def x163x : Pos := (.o (.o (.i (.o (.o (.i (.o .h)))))))
def x164x : Pos := (.i (.o (.i (.o (.o (.i (.o .h)))))))
def x165x : Pos := (.o (.i (.i (.o (.o (.i (.o .h)))))))
def x166x : Pos := (.i (.i (.i (.o (.o (.i (.o .h)))))))
def x167x : Pos := (.o (.o (.o (.i (.o (.i (.o .h)))))))
noncomputable def i3 : FnI := (.mk true true (.seq (.reg (.cons (some x3x) none (.box 4 (.t x1x)) (.cons (some x4x) none (.mv (.c (.b false))) .nil))) (.seq (.reg (.cons (some x20x) none (.mv (.t x0x)) (.cons 
  (some x21x) none (.conv .i64 (.t x20x)) (.cons (some x22x) none (.bin .rem (.t x21x) (.c (.n 6))) (.cons (some x23x) none (.bin .add (.c (.n 1)) (.t x22x)) (.cons (some x5x) none 
  (.alloc 3 (.cons (.n 0) .nil) 1) (.cons none none (.st 1 (.t x5x) (.t x23x)) .nil))))))) (.seq (.reg (.cons (some x24x) none (.ld 1 false (.t x5x)) (.cons (some x25x) none (.ld 1 
  false (.t x5x)) (.cons (some x26x) none (.bin .mul (.c (.n 2)) (.t x25x)) (.cons (some x27x) none (.bin .sub (.t x26x) (.c (.n 1))) (.cons (some x28x) none (.bin .mul (.t x24x) 
  (.t x27x)) (.cons (some x6x) none (.alloc 3 (.cons (.n 0) .nil) 1) (.cons none none (.st 1 (.t x6x) (.t x28x)) .nil)))))))) (.seq (.seq (.reg (.cons (some x7x) none (.mv (.c (.n 
  1))) .nil)) (.block 0 (.loop (.seq (.seq (.reg (.cons (some x29x) none (.mv (.t x7x)) (.cons (some x30x) none (.ld 1 false (.t x5x)) (.cons (some x31x) none (.bin .leq (.t x29x) 
  (.t x30x)) .nil)))) (.cond (.t x31x) .skip (.exit 0))) (.seq (.block 1 (.draw [(.mk (some x34x) none false [] false [] [] [x6x] (.ld 1 false (.t x6x)) false [] [] []), (.mk (some 
  x35x) none true [] false [false] [] [x7x] (.mv (.t x7x)) false [] [] []), (.mk (some x36x) none false [] false [false, false] [] [x3x] (.ld 1 false (.t x3x)) false [] [] []), 
  (.mk (some x37x) none false [] false [true, true, false] [] [x35x, x36x] (.call 7 (.cons (.t x35x) (.cons (.t x36x) .nil))) false [] [] []), (.mk (some x38x) none true [] false 
  [true, true, true, true] [] [x34x, x37x] (.bin .sub (.t x34x) (.t x37x)) false [] [] []), (.mk none none false [x6x] false [true, true, true, true, true] [] [x6x, x38x] (.st 1 
  (.t x6x) (.t x38x)) false [] [] [])])) (.reg (.cons (some x32x) none (.mv (.t x7x)) (.cons (some x33x) none (.bin .add (.t x32x) (.c (.n 1))) (.cons (some x7x) none (.mv (.t 
  x33x)) .nil))))))))) (.seq (.reg (.cons (some x40x) none (.ld 1 false (.t x5x)) (.cons (some x41x) none (.ld 1 false (.t x3x)) (.cons (some x42x) none (.call 8 (.cons (.t x40x) 
  (.cons (.t x41x) .nil))) (.cons (some x39x) none (.mv (.t x42x)) (.cons (some x43x) none (.ext 0 (.t x39x)) (.cons (some x44x) none (.ext 1 (.t x39x)) (.cons (some x8x) none (.mv 
  (.t x43x)) (.cons (some x9x) none (.mv (.t x44x)) .nil))))))))) (.seq (.reg (.cons (some x46x) none (.ld 1 false (.t x5x)) (.cons (some x47x) none (.ld 1 false (.t x3x)) (.cons 
  (some x48x) none (.call 9 (.cons (.t x46x) (.cons (.t x47x) .nil))) (.cons (some x45x) none (.mv (.t x48x)) (.cons (some x49x) none (.ext 0 (.t x45x)) (.cons (some x50x) none 
  (.ext 1 (.t x45x)) (.cons (some x10x) none (.mv (.t x49x)) (.cons (some x11x) none (.mv (.t x50x)) .nil))))))))) (.seq (.reg (.cons (some x12x) none (.alloc 3 (.cons (.n 0) .nil) 
  1) (.cons none none (.st 1 (.t x12x) (.c (.n 0))) .nil))) (.seq (.reg (.cons (some x13x) none (.alloc 4 (.cons (.b false) .nil) 1) (.cons none none (.st 1 (.t x13x) (.c (.b 
  true))) .nil))) (.seq (.reg (.cons (some x14x) none (.alloc 28 (.cons .ns .nil) 1) .nil)) (.seq (.draw [(.mk (some x51x) none false [] false [] [] [x5x] (.ld 1 false (.t x5x)) 
  false [] [] []), (.mk (some x52x) none true [] false [true] [] [x51x] (.bin .mul (.c (.n 2)) (.t x51x)) false [] [] []), (.mk (some x53x) none true [] true [true, true] [] [x52x, 
  x52x] (.mks 3 1 8 1 (.cons (.n 0) .nil) (.t x52x) (.t x52x)) false [] [] []), (.mk (some x54x) none false [] false [false, false, false] [] [x5x] (.ld 1 false (.t x5x)) false [] 
  [] []), (.mk (some x55x) none false [] false [false, false, false, false] [] [x3x] (.ld 1 false (.t x3x)) false [] [] []), (.mk (some x56x) none true [] false [false, false, 
  false, false, false] [] [x12x, x5x, x13x, x6x, x3x, x14x] (.mkf 11 .nil (.cons (.t x12x) (.cons (.t x5x) (.cons (.t x13x) (.cons (.t x6x) (.cons (.t x3x) (.cons (.t x14x) 
  .nil))))))) false [] [] []), (.mk (some x57x) none true [] false [] [] [] (.call 10 (.cons (.t x53x) (.cons (.t x54x) (.cons (.t x55x) (.cons (.t x56x) .nil))))) true [] [] [])]) 
  (.seq (.draw [(.mk (some x58x) none false [] false [] [] [x5x] (.ld 1 false (.t x5x)) false [] [] []), (.mk (some x59x) none false [] false [false] [] [x3x] (.ld 1 false (.t 
  x3x)) false [] [] []), (.mk (some x60x) none false [] false [false, false] [] [x5x] (.ld 1 false (.t x5x)) false [] [] []), (.mk (some x61x) none true [] false [true, false, 
  false] [] [x60x] (.bin .mul (.c (.n 2)) (.t x60x)) false [] [] []), (.mk (some x62x) none true [] true [true, true, false, false] [] [x61x, x61x] (.mks 3 1 8 1 (.cons (.n 0) 
  .nil) (.t x61x) (.t x61x)) false [] [] []), (.mk (some x63x) none true [] false [true, true, true, true, true] [] [x58x, x59x, x62x] (.build (.cons (.n 0) (.cons (.b false) 
  (.cons .ns .nil))) (.cons 0 1 (.t x58x) (.cons 1 1 (.t x59x) (.cons 2 1 (.t x62x) .nil)))) false [] [] []), (.mk (some x15x) none true [] true [false, false, false, false, false, 
  false] [] [] (.alloc 36 (.cons (.n 0) (.cons (.b false) (.cons .ns .nil))) 3) false [] [] []), (.mk none none false [x15x] false [true, true, true, true, true, true, true] [] 
  [x15x, x63x] (.st 3 (.t x15x) (.t x63x)) false [] [] [])]) (.seq (.reg (.cons (some x65x) none (.ld 3 true (.t x15x)) (.cons (some x66x) none (.call 15 (.cons (.t x65x) .nil)) 
  (.cons (some x64x) none (.mv (.t x66x)) (.cons (some x67x) none (.ext 0 (.t x64x)) (.cons (some x68x) none (.ext 1 (.t x64x)) (.cons (some x16x) none (.alloc 36 (.cons (.n 0) 
  (.cons (.b false) (.cons .ns .nil))) 3) (.cons none none (.st 3 (.t x16x) (.t x67x)) (.cons (some x17x) none (.mv (.t x68x)) .nil))))))))) (.seq (.reg (.cons (some x70x) none 
  (.ld 3 true (.t x15x)) (.cons (some x71x) none (.call 16 (.cons (.t x70x) .nil)) (.cons (some x69x) none (.mv (.t x71x)) (.cons (some x72x) none (.ext 0 (.t x69x)) (.cons (some 
  x73x) none (.ext 1 (.t x69x)) (.cons (some x18x) none (.mv (.t x72x)) (.cons (some x19x) none (.mv (.t x73x)) .nil)))))))) (.seq (.seq (.reg (.cons (some x74x) none (.mv (.t 
  x9x)) (.cons (some x75x) none (.bin .neq (.t x74x) (.c (.n 0))) (.cons (some x76x) none (.mv (.t x75x)) (.cons (some x77x) (some (.mk x76x false)) (.mv (.t x19x)) (.cons (some 
  x78x) (some (.mk x76x false)) (.bin .neq (.t x77x) (.c (.n 0))) (.cons (some x79x) none (.pick (.t x76x) (.c (.b true)) (.t x78x)) (.cons (some x80x) none (.mv (.t x79x)) (.cons 
  (some x81x) (some (.mk x80x false)) (.ld 1 false (.t x13x)) (.cons (some x82x) (some (.mk x80x false)) (.not (.t x81x)) (.cons (some x83x) none (.pick (.t x80x) (.c (.b true)) 
  (.t x82x)) (.cons (some x84x) none (.mv (.t x83x)) (.cons (some x85x) (some (.mk x84x false)) (.mv (.t x8x)) (.cons (some x86x) (some (.mk x84x false)) (.ld 1 false (.t x12x)) 
  (.cons (some x87x) (some (.mk x84x false)) (.bin .gtr (.t x86x) (.c (.n 0))) (.cons (some x88x) (some (.mk x84x false)) (.eqb true (.t x85x) (.t x87x)) (.cons (some x89x) none 
  (.pick (.t x84x) (.c (.b true)) (.t x88x)) (.cons (some x90x) none (.mv (.t x89x)) (.cons (some x91x) (some (.mk x90x false)) (.mv (.t x8x)) (.cons (some x92x) (some (.mk x90x 
  false)) (.ld 1 false (.t x6x)) (.cons (some x93x) (some (.mk x90x false)) (.bin .rem (.t x92x) (.c (.n 2))) (.cons (some x94x) (some (.mk x90x false)) (.bin .eql (.t x93x) (.c 
  (.n 0))) (.cons (some x95x) (some (.mk x90x false)) (.eqb true (.t x91x) (.t x94x)) (.cons (some x96x) none (.pick (.t x90x) (.c (.b true)) (.t x95x)) (.cons (some x97x) none 
  (.mv (.t x96x)) (.cons (some x98x) (some (.mk x97x false)) (.mv (.t x18x)) (.cons (some x99x) (some (.mk x97x false)) (.ld 1 false (.t x12x)) (.cons (some x100x) (some (.mk x97x 
  false)) (.bin .neq (.t x98x) (.t x99x)) (.cons (some x101x) none (.pick (.t x97x) (.c (.b true)) (.t x100x)) .nil))))))))))))))))))))))))))))) (.cond (.t x101x) (.seq (.reg 
  (.cons (some x4x) none (.mv (.c (.b false))) .nil)) .ret) .skip)) (.seq (.seq (.reg (.cons (some x102x) none (.mv (.t x8x)) (.cons (some x103x) none (.not (.t x102x)) .nil))) 
  (.cond (.t x103x) (.seq (.reg (.cons (some x104x) none (.mv (.t x11x)) (.cons (some x105x) none (.bin .eql (.t x104x) (.c (.n 12))) (.cons (some x106x) none (.mv (.t x105x)) 
  (.cons (some x107x) (some (.mk x106x true)) (.mv (.t x10x)) (.cons (some x108x) (some (.mk x106x true)) (.bin .eql (.t x107x) (.c (.n 0))) (.cons (some x109x) none (.pick (.t 
  x106x) (.t x108x) (.c (.b false))) (.cons (some x110x) none (.mv (.t x109x)) (.cons (some x111x) (some (.mk x110x true)) (.mv (.t x17x)) (.cons (some x112x) (some (.mk x110x 
  true)) (.bin .eql (.t x111x) (.c (.n 12))) (.cons (some x113x) none (.pick (.t x110x) (.t x112x) (.c (.b false))) (.cons (some x114x) none (.mv (.t x113x)) (.cons (some x115x) 
  (some (.mk x114x true)) (.fad 2 (.t x16x)) (.cons (some x116x) (some (.mk x114x true)) (.ld 1 false (.t x115x)) (.cons (some x117x) (some (.mk x114x true)) (.len (.t x116x)) 
  (.cons (some x118x) (some (.mk x114x true)) (.bin .eql (.t x117x) (.c (.n 0))) (.cons (some x119x) none (.pick (.t x114x) (.t x118x) (.c (.b false))) (.cons (some x120x) none 
  (.mv (.t x119x)) (.cons (some x121x) (some (.mk x120x true)) (.call 17 .nil) (.cons (some x122x) none (.pick (.t x120x) (.t x121x) (.c (.b false))) (.cons (some x4x) none (.mv 
  (.t x122x)) .nil))))))))))))))))))))) .ret) .skip)) (.seq (.reg (.cons (some x123x) none (.mv (.t x11x)) (.cons (some x124x) none (.bin .eql (.t x123x) (.c (.n 0))) (.cons (some 
  x125x) none (.mv (.t x124x)) (.cons (some x126x) (some (.mk x125x true)) (.mv (.t x10x)) (.cons (some x127x) (some (.mk x125x true)) (.bin .mul (.c (.n 2)) (.t x126x)) (.cons 
  (some x128x) (some (.mk x125x true)) (.ld 1 false (.t x6x)) (.cons (some x129x) (some (.mk x125x true)) (.bin .eql (.t x127x) (.t x128x)) (.cons (some x130x) none (.pick (.t 
  x125x) (.t x129x) (.c (.b false))) (.cons (some x131x) none (.mv (.t x130x)) (.cons (some x132x) (some (.mk x131x true)) (.mv (.t x17x)) (.cons (some x133x) (some (.mk x131x 
  true)) (.bin .eql (.t x132x) (.c (.n 0))) (.cons (some x134x) none (.pick (.t x131x) (.t x133x) (.c (.b false))) (.cons (some x135x) none (.mv (.t x134x)) (.cons (some x136x) 
  (some (.mk x135x true)) (.fad 0 (.t x16x)) (.cons (some x137x) (some (.mk x135x true)) (.ld 1 false (.t x136x)) (.cons (some x138x) (some (.mk x135x true)) (.ld 1 false (.t x5x)) 
  (.cons (some x139x) (some (.mk x135x true)) (.bin .eql (.t x137x) (.t x138x)) (.cons (some x140x) none (.pick (.t x135x) (.t x139x) (.c (.b false))) (.cons (some x141x) none (.mv 
  (.t x140x)) (.cons (some x142x) (some (.mk x141x true)) (.fad 1 (.t x16x)) (.cons (some x143x) (some (.mk x141x true)) (.ld 1 false (.t x142x)) (.cons (some x144x) (some (.mk 
  x141x true)) (.ld 1 false (.t x3x)) (.cons (some x145x) (some (.mk x141x true)) (.eqb false (.t x143x) (.t x144x)) (.cons (some x146x) none (.pick (.t x141x) (.t x145x) (.c (.b 
  false))) (.cons (some x147x) none (.mv (.t x146x)) (.cons (some x148x) (some (.mk x147x true)) (.fad 2 (.t x16x)) (.cons (some x149x) (some (.mk x147x true)) (.ld 1 false (.t 
  x148x)) (.cons (some x150x) (some (.mk x147x true)) (.ld 1 false (.t x14x)) (.cons (some x151x) (some (.mk x147x true)) (.call 18 (.cons (.t x149x) (.cons (.t x150x) .nil))) 
  (.cons (some x152x) none (.pick (.t x147x) (.t x151x) (.c (.b false))) (.cons (some x153x) none (.mv (.t x152x)) (.cons (some x154x) (some (.mk x153x true)) (.call 17 .nil) 
  (.cons (some x155x) none (.pick (.t x153x) (.t x154x) (.c (.b false))) (.cons (some x4x) none (.mv (.t x155x)) .nil))))))))))))))))))))))))))))))))))) .ret)))))))))))))))) [(.tmp 
  x4x)])
theorem cc3 : compF Try.prog drops true true Try.f3 = some i3 := by kernel_rfl
noncomputable def i4 : FnI := (.mk true true (.seq (.reg (.cons (some x0x) none (.mv (.c (.b false))) .nil)) (.seq (.reg (.cons (some x20x) none (.call 20 .nil) (.cons (some x21x) none (.call 19 (.cons (.t 
  x20x) (.cons (.c (.n 1)) .nil))) (.cons (some x19x) none (.mv (.t x21x)) (.cons (some x22x) none (.ext 0 (.t x19x)) (.cons (some x23x) none (.ext 1 (.t x19x)) (.cons (some x1x) 
  none (.mv (.t x22x)) (.cons (some x2x) none (.mv (.t x23x)) .nil)))))))) (.seq (.reg (.cons (some x25x) none (.call 20 .nil) (.cons (some x26x) none (.call 21 (.cons (.t x25x) 
  (.cons (.c (.n 4)) (.cons (.c (.n 2)) .nil)))) (.cons (some x24x) none (.mv (.t x26x)) (.cons (some x27x) none (.ext 0 (.t x24x)) (.cons (some x28x) none (.ext 1 (.t x24x)) 
  (.cons (some x3x) none (.alloc 36 (.cons (.n 0) (.cons (.b false) (.cons .ns .nil))) 3) (.cons none none (.st 3 (.t x3x) (.t x27x)) (.cons (some x4x) none (.mv (.t x28x)) 
  .nil))))))))) (.seq (.reg (.cons (some x30x) none (.call 20 .nil) (.cons (some x31x) none (.call 21 (.cons (.t x30x) (.cons (.c (.n 2)) (.cons (.c (.n 6)) .nil)))) (.cons (some 
  x29x) none (.mv (.t x31x)) (.cons (some x32x) none (.ext 0 (.t x29x)) (.cons (some x33x) none (.ext 1 (.t x29x)) (.cons (some x5x) none (.alloc 36 (.cons (.n 0) (.cons (.b false) 
  (.cons .ns .nil))) 3) (.cons none none (.st 3 (.t x5x) (.t x32x)) (.cons (some x6x) none (.mv (.t x33x)) .nil))))))))) (.seq (.reg (.cons (some x35x) none (.call 20 .nil) (.cons 
  (some x36x) none (.call 21 (.cons (.t x35x) (.cons (.c (.n 3)) (.cons (.c (.n 0)) .nil)))) (.cons (some x34x) none (.mv (.t x36x)) (.cons (some x37x) none (.ext 0 (.t x34x)) 
  (.cons (some x38x) none (.ext 1 (.t x34x)) (.cons (some x7x) none (.alloc 36 (.cons (.n 0) (.cons (.b false) (.cons .ns .nil))) 3) (.cons none none (.st 3 (.t x7x) (.t x37x)) 
  (.cons (some x8x) none (.mv (.t x38x)) .nil))))))))) (.seq (.reg (.cons (some x40x) none (.call 23 .nil) (.cons (some x41x) none (.call 22 (.cons (.t x40x) (.cons (.c (.n 1)) 
  .nil))) (.cons (some x39x) none (.mv (.t x41x)) (.cons (some x42x) none (.ext 0 (.t x39x)) (.cons (some x43x) none (.ext 1 (.t x39x)) (.cons (some x9x) none (.mv (.t x42x)) 
  (.cons (some x10x) none (.mv (.t x43x)) .nil)))))))) (.seq (.reg (.cons (some x45x) none (.call 20 .nil) (.cons (some x46x) none (.call 16 (.cons (.t x45x) .nil)) (.cons (some 
  x44x) none (.mv (.t x46x)) (.cons (some x47x) none (.ext 0 (.t x44x)) (.cons (some x48x) none (.ext 1 (.t x44x)) (.cons (some x11x) none (.mv (.t x47x)) (.cons (some x12x) none 
  (.mv (.t x48x)) .nil)))))))) (.seq (.reg (.cons (some x50x) none (.call 20 .nil) (.cons (some x51x) none (.call 24 (.cons (.t x50x) (.cons (.c (.n 0)) .nil))) (.cons (some x49x) 
  none (.mv (.t x51x)) (.cons (some x52x) none (.ext 0 (.t x49x)) (.cons (some x53x) none (.ext 1 (.t x49x)) (.cons (some x13x) none (.mv (.t x52x)) (.cons (some x14x) none (.mv 
  (.t x53x)) .nil)))))))) (.seq (.seq (.reg (.cons (some x54x) none (.mv (.t x2x)) (.cons (some x55x) none (.bin .neq (.t x54x) (.c (.n 0))) (.cons (some x56x) none (.mv (.t x55x)) 
  (.cons (some x57x) (some (.mk x56x false)) (.mv (.t x4x)) (.cons (some x58x) (some (.mk x56x false)) (.bin .neq (.t x57x) (.c (.n 16))) (.cons (some x59x) none (.pick (.t x56x) 
  (.c (.b true)) (.t x58x)) (.cons (some x60x) none (.mv (.t x59x)) (.cons (some x61x) (some (.mk x60x false)) (.mv (.t x6x)) (.cons (some x62x) (some (.mk x60x false)) (.bin .neq 
  (.t x61x) (.c (.n 15))) (.cons (some x63x) none (.pick (.t x60x) (.c (.b true)) (.t x62x)) (.cons (some x64x) none (.mv (.t x63x)) (.cons (some x65x) (some (.mk x64x false)) (.mv 
  (.t x8x)) (.cons (some x66x) (some (.mk x64x false)) (.bin .neq (.t x65x) (.c (.n 6))) (.cons (some x67x) none (.pick (.t x64x) (.c (.b true)) (.t x66x)) (.cons (some x68x) none 
  (.mv (.t x67x)) (.cons (some x69x) (some (.mk x68x false)) (.mv (.t x10x)) (.cons (some x70x) (some (.mk x68x false)) (.bin .neq (.t x69x) (.c (.n 0))) (.cons (some x71x) none 
  (.pick (.t x68x) (.c (.b true)) (.t x70x)) (.cons (some x72x) none (.mv (.t x71x)) (.cons (some x73x) (some (.mk x72x false)) (.mv (.t x12x)) (.cons (some x74x) (some (.mk x72x 
  false)) (.bin .neq (.t x73x) (.c (.n 0))) (.cons (some x75x) none (.pick (.t x72x) (.c (.b true)) (.t x74x)) (.cons (some x76x) none (.mv (.t x75x)) (.cons (some x77x) (some (.mk 
  x76x false)) (.mv (.t x14x)) (.cons (some x78x) (some (.mk x76x false)) (.bin .neq (.t x77x) (.c (.n 4))) (.cons (some x79x) none (.pick (.t x76x) (.c (.b true)) (.t x78x)) 
  (.cons (some x80x) none (.mv (.t x79x)) (.cons (some x81x) (some (.mk x80x false)) (.mv (.t x1x)) (.cons (some x82x) (some (.mk x80x false)) (.bsl 3 1 3 (.cons (.n 0) (.cons (.n 
  0) (.cons (.n 0) .nil))) (.cons 0 1 (.c (.n 0)) (.cons 1 1 (.c (.n 3)) (.cons 2 1 (.c (.n 6)) .nil)))) (.cons (some x83x) (some (.mk x80x false)) (.call 25 (.cons (.t x82x) 
  .nil)) (.cons (some x84x) (some (.mk x80x false)) (.call 18 (.cons (.t x81x) (.cons (.t x83x) .nil))) (.cons (some x85x) (some (.mk x80x false)) (.not (.t x84x)) (.cons (some 
  x86x) none (.pick (.t x80x) (.c (.b true)) (.t x85x)) (.cons (some x87x) none (.mv (.t x86x)) (.cons (some x88x) (some (.mk x87x false)) (.mv (.t x9x)) (.cons (some x89x) (some 
  (.mk x87x false)) (.bsl 3 1 1 (.cons (.n 0) .nil) (.cons 0 1 (.c (.n 2)) .nil)) (.cons (some x90x) (some (.mk x87x false)) (.call 25 (.cons (.t x89x) .nil)) (.cons (some x91x) 
  (some (.mk x87x false)) (.call 18 (.cons (.t x88x) (.cons (.t x90x) .nil))) (.cons (some x92x) (some (.mk x87x false)) (.not (.t x91x)) (.cons (some x93x) none (.pick (.t x87x) 
  (.c (.b true)) (.t x92x)) (.cons (some x94x) none (.mv (.t x93x)) (.cons (some x95x) (some (.mk x94x false)) (.mv (.t x11x)) (.cons (some x96x) (some (.mk x94x false)) (.bin .neq 
  (.t x95x) (.c (.n 2))) (.cons (some x97x) none (.pick (.t x94x) (.c (.b true)) (.t x96x)) .nil))))))))))))))))))))))))))))))))))))))))))))) (.cond (.t x97x) (.seq (.reg (.cons 
  (some x0x) none (.mv (.c (.b false))) .nil)) .ret) .skip)) (.seq (.seq (.reg (.cons (some x98x) none (.build (.cons (.n 0) (.cons (.n 0) (.cons (.n 0) .nil))) (.cons 0 1 (.c (.n 
  3)) (.cons 1 1 (.c (.n 1)) (.cons 2 1 (.c (.n 2)) .nil)))) (.cons (some x99x) none (.build (.cons (.n 0) (.cons (.n 0) (.cons (.n 0) .nil))) (.cons 0 1 (.c (.n 4)) (.cons 1 1 (.c 
  (.n 1)) (.cons 2 1 (.c (.n 2)) .nil)))) (.cons (some x100x) none (.build (.cons (.n 0) (.cons (.n 0) (.cons (.n 0) .nil))) (.cons 0 1 (.c (.n 7)) (.cons 1 1 (.c (.n 1)) (.cons 2 
  1 (.c (.n 52)) .nil)))) (.cons (some x101x) none (.build (.cons (.n 0) (.cons (.n 0) (.cons (.n 0) .nil))) (.cons 0 1 (.c (.n 1)) (.cons 1 1 (.c (.n 0)) (.cons 2 1 (.c (.n 1)) 
  .nil)))) (.cons (some x102x) none (.build (.cons (.n 0) (.cons (.n 0) (.cons (.n 0) .nil))) (.cons 0 1 (.c (.n 4)) (.cons 1 1 (.c (.n 0)) (.cons 2 1 (.c (.n 6)) .nil)))) (.cons 
  (some x103x) none (.build (.cons (.n 0) (.cons (.n 0) (.cons (.n 0) .nil))) (.cons 0 1 (.c (.n 5)) (.cons 1 1 (.c (.n 0)) (.cons 2 1 (.c (.n 10)) .nil)))) (.cons (some x104x) 
  none (.bsl 49 3 6 (.cons (.n 0) (.cons (.n 0) (.cons (.n 0) (.cons (.n 0) (.cons (.n 0) (.cons (.n 0) (.cons (.n 0) (.cons (.n 0) (.cons (.n 0) (.cons (.n 0) (.cons (.n 0) (.cons 
  (.n 0) (.cons (.n 0) (.cons (.n 0) (.cons (.n 0) (.cons (.n 0) (.cons (.n 0) (.cons (.n 0) .nil)))))))))))))))))) (.cons 0 3 (.t x98x) (.cons 3 3 (.t x99x) (.cons 6 3 (.t x100x) 
  (.cons 9 3 (.t x101x) (.cons 12 3 (.t x102x) (.cons 15 3 (.t x103x) .nil))))))) (.cons (some x105x) none (.len (.t x104x)) (.cons (some x106x) none (.mv (.c (.n 0))) 
  .nil)))))))))) (.block 0 (.loop (.seq (.reg (.cons (some x107x) none (.bin .lss (.t x106x) (.t x105x)) .nil)) (.seq (.cond (.t x107x) .skip (.exit 0)) (.seq (.block 1 (.seq (.reg 
  (.cons (some x108x) none (.ixs 3 (.t x104x) (.t x106x)) (.cons (some x109x) none (.ld 3 true (.t x108x)) (.cons (some x16x) none (.alloc 49 (.cons (.n 0) (.cons (.n 0) (.cons (.n 
  0) .nil))) 3) (.cons none none (.st 3 (.t x16x) (.t x109x)) .nil))))) (.seq (.draw [(.mk (some x111x) none true [] false [] [] [x16x] (.ixa 3 1 (.t x16x) (.c (.n 0))) false [] [] 
  []), (.mk (some x112x) none false [] false [true] [] [x111x] (.ld 1 false (.t x111x)) false [] [] []), (.mk (some x113x) none true [] false [false, false] [] [x16x] (.ixa 3 1 (.t 
  x16x) (.c (.n 1))) false [] [] []), (.mk (some x114x) none false [] false [true, false, false] [] [x113x] (.ld 1 false (.t x113x)) false [] [] []), (.mk (some x115x) none true [] 
  false [true, true, false, false] [] [x114x] (.bin .eql (.t x114x) (.c (.n 1))) false [] [] []), (.mk (some x116x) none true [] false [false, false, false, false, false] [] [x16x] 
  (.ixa 3 1 (.t x16x) (.c (.n 0))) false [] [] []), (.mk (some x117x) none false [] false [true, false, false, false, false, false] [] [x116x] (.ld 1 false (.t x116x)) false [] [] 
  []), (.mk (some x118x) none true [] false [true, true, false, false, false, false, false] [] [x117x] (.bin .mul (.c (.n 2)) (.t x117x)) false [] [] []), (.mk (some x119x) none 
  true [] true [true, true, true, false, false, false, false, false] [] [x118x, x118x] (.mks 3 1 8 1 (.cons (.n 0) .nil) (.t x118x) (.t x118x)) false [] [] []), (.mk (some x120x) 
  none true [] false [true, true, true, true, true, true, true, true, true] [] [x112x, x115x, x119x] (.build (.cons (.n 0) (.cons (.b false) (.cons .ns .nil))) (.cons 0 1 (.t 
  x112x) (.cons 1 1 (.t x115x) (.cons 2 1 (.t x119x) .nil)))) false [] [] []), (.mk (some x121x) none false [] false [true, true, true, true, true, true, true, true, true, true] [] 
  [x120x] (.call 16 (.cons (.t x120x) .nil)) false [] [] []), (.mk (some x110x) none true [] false [true, true, true, true, true, true, true, true, true, true, true] [] [x121x] 
  (.mv (.t x121x)) false [] [] []), (.mk (some x122x) none true [] false [true, true, true, true, true, true, true, true, true, true, true, true] [] [x110x] (.ext 0 (.t x110x)) 
  false [] [] []), (.mk (some x123x) none true [] false [false, true, true, true, true, true, true, true, true, true, true, true, true] [] [x110x] (.ext 1 (.t x110x)) false [] [] 
  []), (.mk (some x17x) none true [] false [false, true, true, true, true, true, true, true, true, true, true, true, true, true] [] [x122x] (.mv (.t x122x)) false [] [] []), (.mk 
  (some x18x) none true [] false [true, true, true, true, true, true, true, true, true, true, true, true, true, true, true] [] [x123x] (.mv (.t x123x)) false [] [] [])]) (.seq 
  (.reg (.cons (some x124x) none (.mv (.t x18x)) (.cons (some x125x) none (.bin .neq (.t x124x) (.c (.n 0))) (.cons (some x126x) none (.mv (.t x125x)) (.cons (some x127x) (some 
  (.mk x126x false)) (.mv (.t x17x)) (.cons (some x128x) (some (.mk x126x false)) (.ixa 3 1 (.t x16x) (.c (.n 2))) (.cons (some x129x) (some (.mk x126x false)) (.ld 1 false (.t 
  x128x)) (.cons (some x130x) (some (.mk x126x false)) (.bin .neq (.t x127x) (.t x129x)) (.cons (some x131x) none (.pick (.t x126x) (.c (.b true)) (.t x130x)) .nil))))))))) (.cond 
  (.t x131x) (.seq (.reg (.cons (some x0x) none (.mv (.c (.b false))) .nil)) .ret) .skip))))) (.reg (.cons (some x132x) none (.bin .add (.t x106x) (.c (.n 1))) (.cons (some x106x) 
  none (.mv (.t x132x)) .nil))))))))) (.seq (.reg (.cons (some x133x) none (.build (.cons (.n 0) (.cons (.b false) (.cons .ns .nil))) .nil) (.cons (some x134x) none (.call 26 
  (.cons (.t x133x) .nil)) (.cons (some x135x) none (.bin .eql (.t x134x) (.c (.n 1))) (.cons (some x136x) none (.mv (.t x135x)) (.cons (some x137x) (some (.mk x136x true)) (.build 
  (.cons (.n 0) (.cons (.b false) (.cons .ns .nil))) (.cons 0 1 (.c (.n 1)) .nil)) (.cons (some x138x) (some (.mk x136x true)) (.call 26 (.cons (.t x137x) .nil)) (.cons (some 
  x139x) (some (.mk x136x true)) (.bin .eql (.t x138x) (.c (.n 5))) (.cons (some x140x) none (.pick (.t x136x) (.t x139x) (.c (.b false))) (.cons (some x141x) none (.mv (.t x140x)) 
  (.cons (some x142x) (some (.mk x141x true)) (.bsl 3 1 2 (.cons (.n 0) (.cons (.n 0) .nil)) (.cons 0 1 (.c (.n 1)) (.cons 1 1 (.c (.n 2)) .nil))) (.cons (some x143x) (some (.mk 
  x141x true)) (.call 27 (.cons (.c (.b false)) (.cons (.t x142x) .nil))) (.cons (some x144x) (some (.mk x141x true)) (.call 26 (.cons (.t x143x) .nil)) (.cons (some x145x) (some 
  (.mk x141x true)) (.bin .eql (.t x144x) (.c (.n 2))) (.cons (some x146x) none (.pick (.t x141x) (.t x145x) (.c (.b false))) (.cons (some x147x) none (.mv (.t x146x)) (.cons (some 
  x148x) (some (.mk x147x true)) (.bsl 3 1 4 (.cons (.n 0) (.cons (.n 0) (.cons (.n 0) (.cons (.n 0) .nil)))) (.cons 0 1 (.c (.n 1)) (.cons 1 1 (.c (.n 0)) (.cons 2 1 (.c (.n 0)) 
  (.cons 3 1 (.c (.n 0)) .nil))))) (.cons (some x149x) (some (.mk x147x true)) (.call 27 (.cons (.c (.b true)) (.cons (.t x148x) .nil))) (.cons (some x150x) (some (.mk x147x true)) 
  (.call 26 (.cons (.t x149x) .nil)) (.cons (some x151x) (some (.mk x147x true)) (.bin .eql (.t x150x) (.c (.n 21))) (.cons (some x152x) none (.pick (.t x147x) (.t x151x) (.c (.b 
  false))) (.cons (some x153x) none (.mv (.t x152x)) (.cons (some x154x) (some (.mk x153x true)) (.bsl 3 1 4 (.cons (.n 0) (.cons (.n 0) (.cons (.n 0) (.cons (.n 0) .nil)))) (.cons 
  0 1 (.c (.n 1)) (.cons 1 1 (.c (.n 1)) (.cons 2 1 (.c (.n 0)) (.cons 3 1 (.c (.n 0)) .nil))))) (.cons (some x155x) (some (.mk x153x true)) (.call 27 (.cons (.c (.b true)) (.cons 
  (.t x154x) .nil))) (.cons (some x156x) (some (.mk x153x true)) (.call 26 (.cons (.t x155x) .nil)) (.cons (some x157x) (some (.mk x153x true)) (.bin .eql (.t x156x) (.c (.n 13))) 
  (.cons (some x158x) none (.pick (.t x153x) (.t x157x) (.c (.b false))) (.cons (some x159x) none (.mv (.t x158x)) (.cons (some x160x) (some (.mk x159x true)) (.bsl 3 1 4 (.cons 
  (.n 0) (.cons (.n 0) (.cons (.n 0) (.cons (.n 0) .nil)))) (.cons 0 1 (.c (.n 1)) (.cons 1 1 (.c (.n 1)) (.cons 2 1 (.c (.n 1)) (.cons 3 1 (.c (.n 0)) .nil))))) (.cons (some 
  x161x) (some (.mk x159x true)) (.call 27 (.cons (.c (.b true)) (.cons (.t x160x) .nil))) (.cons (some x162x) (some (.mk x159x true)) (.call 26 (.cons (.t x161x) .nil)) (.cons 
  (some x163x) (some (.mk x159x true)) (.bin .eql (.t x162x) (.c (.n 3))) (.cons (some x164x) none (.pick (.t x159x) (.t x163x) (.c (.b false))) (.cons (some x165x) none (.mv (.t 
  x164x)) (.cons (some x166x) (some (.mk x165x true)) (.call 17 .nil) (.cons (some x167x) none (.pick (.t x165x) (.t x166x) (.c (.b false))) (.cons (some x0x) none (.mv (.t x167x)) 
  .nil))))))))))))))))))))))))))))))))))))) .ret))))))))))) [(.tmp x0x)])
theorem cc4 : compF Try.prog drops true true Try.f4 = some i4 := by kernel_rfl
noncomputable def i7 : FnI := (.mk true true (.seq (.reg (.cons (some x4x) none (.mv (.c (.n 0))) .nil)) (.seq (.seq (.reg (.cons (some x5x) none (.mv (.t x1x)) .nil)) (.cond (.t x5x) (.seq (.reg (.cons (some 
  x6x) none (.mv (.t x0x)) (.cons (some x7x) none (.bin .add (.t x6x) (.c (.n 1))) (.cons (some x4x) none (.mv (.t x7x)) .nil)))) .ret) .skip)) (.seq (.reg (.cons (some x8x) none 
  (.mv (.t x0x)) (.cons (some x4x) none (.mv (.t x8x)) .nil))) .ret))) [(.tmp x4x)])
theorem cc7 : compF Try.prog drops true true Try.f7 = some i7 := by kernel_rfl
noncomputable def i8 : FnI := (.mk true true (.seq (.reg (.cons (some x4x) none (.mv (.c (.b false))) (.cons (some x5x) none (.mv (.c (.n 0))) .nil))) (.seq (.seq (.reg (.cons (some x6x) none (.mv (.t x0x)) 
  (.cons (some x7x) none (.bin .lss (.t x6x) (.c (.n 1))) (.cons (some x8x) none (.mv (.t x7x)) (.cons (some x9x) (some (.mk x8x false)) (.mv (.t x0x)) (.cons (some x10x) (some 
  (.mk x8x false)) (.bin .gtr (.t x9x) (.c (.n 8))) (.cons (some x11x) none (.pick (.t x8x) (.c (.b true)) (.t x10x)) .nil))))))) (.cond (.t x11x) (.seq (.reg (.cons (some x4x) 
  none (.mv (.c (.b false))) (.cons (some x5x) none (.mv (.c (.n 1))) .nil))) .ret) .skip)) (.seq (.reg (.cons (some x12x) none (.mv (.t x0x)) (.cons (some x13x) none (.mv (.t 
  x1x)) (.cons (some x14x) none (.call 44 (.cons (.t x12x) (.cons (.t x13x) .nil))) (.cons (some x15x) none (.bin .rem (.t x14x) (.c (.n 2))) (.cons (some x16x) none (.bin .eql (.t 
  x15x) (.c (.n 0))) (.cons (some x4x) none (.mv (.t x16x)) (.cons (some x5x) none (.mv (.c (.n 0))) .nil)))))))) .ret))) [(.tmp x4x), (.tmp x5x)])
theorem cc8 : compF Try.prog drops true true Try.f8 = some i8 := by kernel_rfl
noncomputable def i9 : FnI := (.mk true true (.seq (.reg (.cons (some x4x) none (.mv (.c (.n 0))) (.cons (some x5x) none (.mv (.c (.n 0))) .nil))) (.seq (.reg (.cons (some x9x) none (.mv (.t x0x)) (.cons (some 
  x10x) none (.mv (.t x1x)) (.cons (some x11x) none (.call 8 (.cons (.t x9x) (.cons (.t x10x) .nil))) (.cons (some x8x) none (.mv (.t x11x)) (.cons (some x12x) none (.ext 0 (.t 
  x8x)) (.cons (some x13x) none (.ext 1 (.t x8x)) (.cons (some x6x) none (.mv (.t x12x)) (.cons (some x7x) none (.mv (.t x13x)) .nil))))))))) (.seq (.seq (.reg (.cons (some x14x) 
  none (.mv (.t x7x)) (.cons (some x15x) none (.bin .neq (.t x14x) (.c (.n 0))) .nil))) (.cond (.t x15x) (.seq (.reg (.cons (some x16x) none (.mv (.t x7x)) (.cons (some x4x) none 
  (.mv (.c (.n 0))) (.cons (some x5x) none (.mv (.t x16x)) .nil)))) .ret) .skip)) (.seq (.seq (.reg (.cons (some x17x) none (.mv (.t x6x)) (.cons (some x18x) none (.not (.t x17x)) 
  .nil))) (.cond (.t x18x) (.seq (.reg (.cons (some x4x) none (.mv (.c (.n 0))) (.cons (some x5x) none (.mv (.c (.n 12))) .nil))) .ret) .skip)) (.seq (.reg (.cons (some x19x) none 
  (.mv (.t x0x)) (.cons (some x20x) none (.mv (.t x1x)) (.cons (some x21x) none (.call 44 (.cons (.t x19x) (.cons (.t x20x) .nil))) (.cons (some x22x) none (.bin .quo (.t x21x) (.c 
  (.n 2))) (.cons (some x4x) none (.mv (.t x22x)) (.cons (some x5x) none (.mv (.c (.n 0))) .nil))))))) .ret))))) [(.tmp x4x), (.tmp x5x)])
theorem cc9 : compF Try.prog drops true true Try.f9 = some i9 := by kernel_rfl
noncomputable def i10 : FnI := (.mk false false (.seq (.reg (.cons (some x8x) none (.mv (.c (.n 1))) .nil)) (.seq (.block 0 (.loop (.seq (.seq (.reg (.cons (some x11x) none (.mv (.t x8x)) (.cons (some x12x) none 
  (.mv (.t x1x)) (.cons (some x13x) none (.bin .leq (.t x11x) (.t x12x)) (.cons (some x14x) none (.mv (.t x13x)) (.cons (some x15x) (some (.mk x14x true)) (.mv (.t x0x)) (.cons 
  (some x16x) (some (.mk x14x true)) (.mv (.t x8x)) (.cons (some x17x) (some (.mk x14x true)) (.call 45 (.cons (.t x15x) (.cons (.t x16x) .nil))) (.cons (some x18x) none (.pick (.t 
  x14x) (.t x17x) (.c (.b false))) .nil))))))))) (.cond (.t x18x) .skip (.exit 0))) (.block 1 (.reg (.cons (some x19x) none (.mv (.t x8x)) (.cons (some x20x) none (.bin .add (.t 
  x19x) (.c (.n 1))) (.cons (some x8x) none (.mv (.t x20x)) .nil)))))))) (.seq (.seq (.reg (.cons (some x21x) none (.mv (.t x8x)) (.cons (some x22x) none (.mv (.t x1x)) (.cons 
  (some x23x) none (.bin .gtr (.t x21x) (.t x22x)) .nil)))) (.cond (.t x23x) (.seq (.reg (.cons (some x24x) none (.mv (.t x3x)) (.cons (some x25x) none (.mv (.t x0x)) (.cons (some 
  x26x) none (.call 46 (.cons (.t x25x) .nil)) (.cons (some x27x) none (.callv (.t x24x) (.cons (.t x26x) .nil)) .nil))))) .ret) .skip)) (.seq (.reg (.cons (some x9x) none (.mv (.c 
  (.n 0))) .nil)) (.block 2 (.loop (.seq (.seq (.reg (.cons (some x28x) none (.mv (.t x9x)) (.cons (some x29x) none (.mv (.t x8x)) (.cons (some x30x) none (.mv (.t x2x)) (.cons 
  (some x31x) none (.call 7 (.cons (.t x29x) (.cons (.t x30x) .nil))) (.cons (some x32x) none (.bin .add (.t x28x) (.t x31x)) (.cons (some x33x) none (.mv (.t x0x)) (.cons (some 
  x34x) none (.len (.t x33x)) (.cons (some x35x) none (.bin .lss (.t x32x) (.t x34x)) .nil))))))))) (.cond (.t x35x) .skip (.exit 2))) (.seq (.block 3 (.seq (.reg (.cons (some 
  x38x) none (.mv (.t x9x)) (.cons (some x39x) none (.mv (.t x8x)) (.cons (some x40x) none (.mv (.t x2x)) (.cons (some x41x) none (.call 7 (.cons (.t x39x) (.cons (.t x40x) .nil))) 
  (.cons (some x42x) none (.bin .add (.t x38x) (.t x41x)) (.cons (some x10x) none (.mv (.t x42x)) .nil))))))) (.seq (.reg (.cons (some x43x) none (.mv (.t x0x)) (.cons (some x44x) 
  none (.mv (.t x9x)) (.cons (some x45x) none (.ixs 1 (.t x43x) (.t x44x)) (.cons (some x46x) none (.ld 1 false (.t x45x)) (.cons (some x47x) none (.bin .eql (.t x46x) (.c (.n 0))) 
  (.cons (some x48x) none (.mv (.t x47x)) (.cons (some x49x) (some (.mk x48x true)) (.mv (.t x0x)) (.cons (some x50x) (some (.mk x48x true)) (.mv (.t x10x)) (.cons (some x51x) 
  (some (.mk x48x true)) (.ixs 1 (.t x49x) (.t x50x)) (.cons (some x52x) (some (.mk x48x true)) (.ld 1 false (.t x51x)) (.cons (some x53x) (some (.mk x48x true)) (.bin .eql (.t 
  x52x) (.c (.n 0))) (.cons (some x54x) none (.pick (.t x48x) (.t x53x) (.c (.b false))) .nil))))))))))))) (.cond (.t x54x) (.seq (.reg (.cons (some x55x) none (.mv (.t x0x)) 
  (.cons (some x56x) none (.mv (.t x9x)) (.cons (some x57x) none (.mv (.t x0x)) (.cons (some x58x) none (.mv (.t x10x)) (.cons (some x59x) none (.mv (.t x8x)) (.cons (some x60x) 
  none (.mv (.t x8x)) (.cons (some x61x) none (.ixs 1 (.t x55x) (.t x56x)) (.cons none none (.st 1 (.t x61x) (.t x59x)) (.cons (some x62x) none (.ixs 1 (.t x57x) (.t x58x)) (.cons 
  none none (.st 1 (.t x62x) (.t x60x)) .nil))))))))))) (.seq (.reg (.cons (some x63x) none (.mv (.t x0x)) (.cons (some x64x) none (.mv (.t x1x)) (.cons (some x65x) none (.mv (.t 
  x2x)) (.cons (some x66x) none (.mv (.t x3x)) (.cons (some x67x) none (.call 10 (.cons (.t x63x) (.cons (.t x64x) (.cons (.t x65x) (.cons (.t x66x) .nil))))) .nil)))))) (.reg 
  (.cons (some x68x) none (.mv (.t x0x)) (.cons (some x69x) none (.mv (.t x9x)) (.cons (some x70x) none (.mv (.t x0x)) (.cons (some x71x) none (.mv (.t x10x)) (.cons (some x72x) 
  none (.ixs 1 (.t x68x) (.t x69x)) (.cons none none (.st 1 (.t x72x) (.c (.n 0))) (.cons (some x73x) none (.ixs 1 (.t x70x) (.t x71x)) (.cons none none (.st 1 (.t x73x) (.c (.n 
  0))) .nil))))))))))) .skip)))) (.reg (.cons (some x36x) none (.mv (.t x9x)) (.cons (some x37x) none (.bin .add (.t x36x) (.c (.n 1))) (.cons (some x9x) none (.mv (.t x37x)) 
  .nil)))))))))))) [])
theorem cc10 : compF Try.prog drops false false Try.f10 = some i10 := by kernel_rfl
noncomputable def i11 : FnI := (.mk false false (.seq (.reg (.cons (some x13x) none (.ld 1 false (.t x1x)) (.cons (some x14x) none (.bin .add (.t x13x) (.c (.n 1))) (.cons none none (.st 1 (.t x1x) (.t x14x)) 
  .nil)))) (.seq (.reg (.cons (some x8x) none (.mv (.c (.n 0))) .nil)) (.seq (.seq (.reg (.cons (some x9x) none (.mv (.c (.n 1))) .nil)) (.block 0 (.loop (.seq (.seq (.reg (.cons 
  (some x15x) none (.mv (.t x9x)) (.cons (some x16x) none (.ld 1 false (.t x2x)) (.cons (some x17x) none (.bin .leq (.t x15x) (.t x16x)) .nil)))) (.cond (.t x17x) .skip (.exit 0))) 
  (.seq (.block 1 (.seq (.reg (.cons (some x21x) none (.mv (.t x0x)) (.cons (some x22x) none (.mv (.t x9x)) (.cons (some x23x) none (.call 12 (.cons (.t x21x) (.cons (.t x22x) 
  .nil))) (.cons (some x20x) none (.mv (.t x23x)) (.cons (some x24x) none (.ext 0 (.t x20x)) (.cons (some x25x) none (.ext 1 (.t x20x)) (.cons (some x26x) none (.ext 2 (.t x20x)) 
  (.cons (some x10x) none (.mv (.t x24x)) (.cons (some x11x) none (.mv (.t x25x)) (.cons (some x12x) none (.mv (.t x26x)) .nil))))))))))) (.reg (.cons (some x27x) none (.mv (.t 
  x8x)) (.cons (some x28x) none (.mv (.t x10x)) (.cons (some x29x) none (.bin .add (.t x27x) (.t x28x)) (.cons (some x8x) none (.mv (.t x29x)) .nil))))))) (.reg (.cons (some x18x) 
  none (.mv (.t x9x)) (.cons (some x19x) none (.bin .add (.t x18x) (.c (.n 1))) (.cons (some x9x) none (.mv (.t x19x)) .nil))))))))) (.seq (.reg (.cons (some x30x) none (.ld 1 
  false (.t x3x)) (.cons (some x31x) none (.mv (.t x30x)) (.cons (some x32x) (some (.mk x31x true)) (.mv (.t x8x)) (.cons (some x33x) (some (.mk x31x true)) (.bin .mul (.c (.n 2)) 
  (.t x32x)) (.cons (some x34x) (some (.mk x31x true)) (.ld 1 false (.t x4x)) (.cons (some x35x) (some (.mk x31x true)) (.bin .eql (.t x33x) (.t x34x)) (.cons (some x36x) none 
  (.pick (.t x31x) (.t x35x) (.c (.b false))) (.cons (some x37x) none (.mv (.t x36x)) (.cons (some x38x) (some (.mk x37x true)) (.mv (.t x0x)) (.cons (some x39x) (some (.mk x37x 
  true)) (.ld 1 false (.t x2x)) (.cons (some x40x) (some (.mk x37x true)) (.ld 1 false (.t x5x)) (.cons (some x41x) (some (.mk x37x true)) (.call 13 (.cons (.t x38x) (.cons (.t 
  x39x) (.cons (.t x40x) .nil)))) (.cons (some x42x) none (.pick (.t x37x) (.t x41x) (.c (.b false))) (.cons none none (.st 1 (.t x3x) (.t x42x)) .nil))))))))))))))) (.seq (.reg 
  (.cons (some x43x) none (.ld 1 false (.t x6x)) (.cons (some x44x) none (.eqn false (.t x43x) (.c .ns)) (.cons (some x45x) none (.mv (.t x44x)) (.cons (some x46x) (some (.mk x45x 
  false)) (.mv (.t x0x)) (.cons (some x47x) (some (.mk x45x false)) (.ld 1 false (.t x6x)) (.cons (some x48x) (some (.mk x45x false)) (.call 14 (.cons (.t x46x) (.cons (.t x47x) 
  .nil))) (.cons (some x49x) (some (.mk x45x false)) (.bin .lss (.t x48x) (.c (.n 0))) (.cons (some x50x) none (.pick (.t x45x) (.c (.b true)) (.t x49x)) .nil))))))))) (.cond (.t 
  x50x) (.reg (.cons (some x51x) none (.mv (.t x0x)) (.cons none none (.st 1 (.t x6x) (.t x51x)) .nil))) .skip)))))) [])
theorem cc11 : compF Try.prog drops false false Try.f11 = some i11 := by kernel_rfl
noncomputable def i12 : FnI := (.mk true true (.seq (.reg (.cons (some x4x) none (.mv (.c (.n 0))) (.cons (some x5x) none (.mv (.c (.n 0))) (.cons (some x6x) none (.mv (.c (.b false))) .nil)))) (.seq (.reg 
  (.cons (some x9x) none (.mv (.t x0x)) (.cons (some x10x) none (.mv (.t x1x)) (.cons (some x11x) none (.call 47 (.cons (.t x9x) (.cons (.t x10x) .nil))) (.cons (some x7x) none 
  (.mv (.t x11x)) .nil))))) (.seq (.seq (.reg (.cons (some x12x) none (.mv (.t x7x)) (.cons (some x13x) none (.bin .lss (.t x12x) (.c (.n 0))) .nil))) (.cond (.t x13x) (.seq (.reg 
  (.cons (some x4x) none (.mv (.c (.n 0))) (.cons (some x5x) none (.mv (.c (.n 0))) (.cons (some x6x) none (.mv (.c (.b false))) .nil)))) .ret) .skip)) (.seq (.reg (.cons (some 
  x14x) none (.mv (.t x7x)) (.cons (some x15x) none (.bin .add (.t x14x) (.c (.n 1))) (.cons (some x8x) none (.mv (.t x15x)) .nil)))) (.seq (.block 0 (.loop (.seq (.seq (.reg 
  (.cons (some x16x) none (.mv (.t x8x)) (.cons (some x17x) none (.mv (.t x0x)) (.cons (some x18x) none (.len (.t x17x)) (.cons (some x19x) none (.bin .lss (.t x16x) (.t x18x)) 
  (.cons (some x20x) none (.mv (.t x19x)) (.cons (some x21x) (some (.mk x20x true)) (.mv (.t x0x)) (.cons (some x22x) (some (.mk x20x true)) (.mv (.t x8x)) (.cons (some x23x) (some 
  (.mk x20x true)) (.ixs 1 (.t x21x) (.t x22x)) (.cons (some x24x) (some (.mk x20x true)) (.ld 1 false (.t x23x)) (.cons (some x25x) (some (.mk x20x true)) (.mv (.t x1x)) (.cons 
  (some x26x) (some (.mk x20x true)) (.bin .neq (.t x24x) (.t x25x)) (.cons (some x27x) none (.pick (.t x20x) (.t x26x) (.c (.b false))) .nil))))))))))))) (.cond (.t x27x) .skip 
  (.exit 0))) (.block 1 (.reg (.cons (some x28x) none (.mv (.t x8x)) (.cons (some x29x) none (.bin .add (.t x28x) (.c (.n 1))) (.cons (some x8x) none (.mv (.t x29x)) .nil)))))))) 
  (.seq (.reg (.cons (some x30x) none (.mv (.t x7x)) (.cons (some x31x) none (.mv (.t x8x)) (.cons (some x32x) none (.mv (.t x8x)) (.cons (some x33x) none (.mv (.t x0x)) (.cons 
  (some x34x) none (.len (.t x33x)) (.cons (some x35x) none (.bin .lss (.t x32x) (.t x34x)) (.cons (some x4x) none (.mv (.t x30x)) (.cons (some x5x) none (.mv (.t x31x)) (.cons 
  (some x6x) none (.mv (.t x35x)) .nil)))))))))) .ret)))))) [(.tmp x4x), (.tmp x5x), (.tmp x6x)])
theorem cc12 : compF Try.prog drops true true Try.f12 = some i12 := by kernel_rfl
noncomputable def i13 : FnI := (.mk true true (.seq (.reg (.cons (some x6x) none (.mv (.c (.b false))) .nil)) (.seq (.seq (.reg (.cons (some x11x) none (.mv (.t x0x)) (.cons (some x12x) none (.len (.t x11x)) 
  (.cons (some x13x) none (.mv (.t x1x)) (.cons (some x14x) none (.bin .mul (.c (.n 2)) (.t x13x)) (.cons (some x15x) none (.bin .neq (.t x12x) (.t x14x)) .nil)))))) (.cond (.t 
  x15x) (.seq (.reg (.cons (some x6x) none (.mv (.c (.b false))) .nil)) .ret) .skip)) (.seq (.seq (.reg (.cons (some x7x) none (.mv (.c (.n 1))) .nil)) (.block 0 (.loop (.seq (.seq 
  (.reg (.cons (some x16x) none (.mv (.t x7x)) (.cons (some x17x) none (.mv (.t x1x)) (.cons (some x18x) none (.bin .leq (.t x16x) (.t x17x)) .nil)))) (.cond (.t x18x) .skip (.exit 
  0))) (.seq (.block 1 (.seq (.reg (.cons (some x22x) none (.mv (.t x0x)) (.cons (some x23x) none (.mv (.t x7x)) (.cons (some x24x) none (.call 12 (.cons (.t x22x) (.cons (.t x23x) 
  .nil))) (.cons (some x21x) none (.mv (.t x24x)) (.cons (some x25x) none (.ext 0 (.t x21x)) (.cons (some x26x) none (.ext 1 (.t x21x)) (.cons (some x27x) none (.ext 2 (.t x21x)) 
  (.cons (some x8x) none (.mv (.t x25x)) (.cons (some x9x) none (.mv (.t x26x)) (.cons (some x10x) none (.mv (.t x27x)) .nil))))))))))) (.seq (.reg (.cons (some x28x) none (.mv (.t 
  x10x)) (.cons (some x29x) none (.not (.t x28x)) (.cons (some x30x) none (.mv (.t x29x)) (.cons (some x31x) (some (.mk x30x false)) (.mv (.t x9x)) (.cons (some x32x) (some (.mk 
  x30x false)) (.mv (.t x8x)) (.cons (some x33x) (some (.mk x30x false)) (.bin .sub (.t x31x) (.t x32x)) (.cons (some x34x) (some (.mk x30x false)) (.mv (.t x7x)) (.cons (some 
  x35x) (some (.mk x30x false)) (.mv (.t x2x)) (.cons (some x36x) (some (.mk x30x false)) (.call 7 (.cons (.t x34x) (.cons (.t x35x) .nil))) (.cons (some x37x) (some (.mk x30x 
  false)) (.bin .neq (.t x33x) (.t x36x)) (.cons (some x38x) none (.pick (.t x30x) (.c (.b true)) (.t x37x)) .nil)))))))))))) (.cond (.t x38x) (.seq (.reg (.cons (some x6x) none 
  (.mv (.c (.b false))) .nil)) .ret) .skip)))) (.reg (.cons (some x19x) none (.mv (.t x7x)) (.cons (some x20x) none (.bin .add (.t x19x) (.c (.n 1))) (.cons (some x7x) none (.mv 
  (.t x20x)) .nil))))))))) (.seq (.reg (.cons (some x6x) none (.mv (.c (.b true))) .nil)) .ret)))) [(.tmp x6x)])
theorem cc13 : compF Try.prog drops true true Try.f13 = some i13 := by kernel_rfl
noncomputable def i14 : FnI := (.mk true true (.seq (.reg (.cons (some x4x) none (.mv (.c (.n 0))) .nil)) (.seq (.seq (.reg (.cons (some x9x) none (.mv (.t x0x)) (.cons (some x10x) none (.len (.t x9x)) (.cons 
  (some x11x) none (.mv (.c (.n 0))) .nil)))) (.block 0 (.loop (.seq (.reg (.cons (some x12x) none (.bin .lss (.t x11x) (.t x10x)) .nil)) (.seq (.cond (.t x12x) .skip (.exit 0)) 
  (.seq (.block 1 (.seq (.reg (.cons (some x13x) none (.mv (.t x11x)) (.cons (some x14x) none (.ixs 1 (.t x9x) (.t x11x)) (.cons (some x15x) none (.ld 1 false (.t x14x)) (.cons 
  (some x5x) none (.mv (.t x13x)) (.cons (some x6x) none (.mv (.t x15x)) .nil)))))) (.seq (.seq (.reg (.cons (some x16x) none (.mv (.t x5x)) (.cons (some x17x) none (.mv (.t x1x)) 
  (.cons (some x18x) none (.len (.t x17x)) (.cons (some x19x) none (.bin .geq (.t x16x) (.t x18x)) .nil))))) (.cond (.t x19x) (.seq (.reg (.cons (some x4x) none (.mv (.c (.n 1))) 
  .nil)) .ret) .skip)) (.seq (.reg (.cons (some x20x) none (.mv (.t x1x)) (.cons (some x21x) none (.mv (.t x5x)) (.cons (some x22x) none (.ixs 1 (.t x20x) (.t x21x)) (.cons (some 
  x23x) none (.ld 1 false (.t x22x)) (.cons (some x7x) none (.mv (.t x23x)) .nil)))))) (.seq (.reg (.cons (some x24x) none (.mv (.t x6x)) (.cons (some x25x) none (.mv (.t x7x)) 
  (.cons (some x26x) none (.call 48 (.cons (.t x24x) (.cons (.t x25x) .nil))) (.cons (some x8x) none (.mv (.t x26x)) .nil))))) (.seq (.reg (.cons (some x27x) none (.mv (.t x8x)) 
  (.cons (some x28x) none (.bin .neq (.t x27x) (.c (.n 0))) .nil))) (.cond (.t x28x) (.seq (.reg (.cons (some x29x) none (.mv (.t x8x)) (.cons (some x4x) none (.mv (.t x29x)) 
  .nil))) .ret) .skip))))))) (.reg (.cons (some x30x) none (.bin .add (.t x11x) (.c (.n 1))) (.cons (some x11x) none (.mv (.t x30x)) .nil))))))))) (.seq (.seq (.reg (.cons (some 
  x31x) none (.mv (.t x0x)) (.cons (some x32x) none (.len (.t x31x)) (.cons (some x33x) none (.mv (.t x1x)) (.cons (some x34x) none (.len (.t x33x)) (.cons (some x35x) none (.bin 
  .lss (.t x32x) (.t x34x)) .nil)))))) (.cond (.t x35x) (.seq (.reg (.cons (some x4x) none (.mv (.c (.i .i64 (.negSucc 0)))) .nil)) .ret) .skip)) (.seq (.reg (.cons (some x4x) none 
  (.mv (.c (.n 0))) .nil)) .ret)))) [(.tmp x4x)])
theorem cc14 : compF Try.prog drops true true Try.f14 = some i14 := by kernel_rfl
noncomputable def i15 : FnI := (compF Try.prog drops true false Try.f15).getD (.mk false false .skip [])
theorem cc15 : compF Try.prog drops true false Try.f15 = some i15 := by kernel_rfl
noncomputable def i16 : FnI := (compF Try.prog drops true true Try.f16).getD (.mk false false .skip [])
theorem cc16 : compF Try.prog drops true true Try.f16 = some i16 := by kernel_rfl
noncomputable def i17 : FnI := (compF Try.prog drops true true Try.f17).getD (.mk false false .skip [])
theorem cc17 : compF Try.prog drops true true Try.f17 = some i17 := by kernel_rfl
noncomputable def i18 : FnI := (.mk true true (.seq (.reg (.cons (some x4x) none (.mv (.c (.b false))) .nil)) (.seq (.seq (.reg (.cons (some x6x) none (.mv (.t x0x)) (.cons (some x7x) none (.len (.t x6x)) (.cons 
  (some x8x) none (.mv (.t x1x)) (.cons (some x9x) none (.len (.t x8x)) (.cons (some x10x) none (.bin .neq (.t x7x) (.t x9x)) .nil)))))) (.cond (.t x10x) (.seq (.reg (.cons (some 
  x4x) none (.mv (.c (.b false))) .nil)) .ret) .skip)) (.seq (.seq (.reg (.cons (some x5x) none (.mv (.c (.n 0))) .nil)) (.block 0 (.loop (.seq (.seq (.reg (.cons (some x11x) none 
  (.mv (.t x5x)) (.cons (some x12x) none (.mv (.t x0x)) (.cons (some x13x) none (.len (.t x12x)) (.cons (some x14x) none (.bin .lss (.t x11x) (.t x13x)) .nil))))) (.cond (.t x14x) 
  .skip (.exit 0))) (.seq (.block 1 (.seq (.draw [(.mk (some x17x) none true [] false [] [] [x0x] (.mv (.t x0x)) false [] [] []), (.mk (some x18x) none true [] false [false] [] 
  [x5x] (.mv (.t x5x)) false [] [] []), (.mk (some x19x) none true [] false [true, true] [] [x17x, x18x] (.ixs 1 (.t x17x) (.t x18x)) false [] [] []), (.mk (some x20x) none false 
  [] false [true, true, true] [] [x19x] (.ld 1 false (.t x19x)) false [] [] []), (.mk (some x21x) none true [] false [false, false, false, false] [] [x1x] (.mv (.t x1x)) false [] 
  [] []), (.mk (some x22x) none true [] false [false, false, false, false, false] [] [x5x] (.mv (.t x5x)) false [] [] []), (.mk (some x23x) none true [] false [true, true, false, 
  false, false, false] [] [x21x, x22x] (.ixs 1 (.t x21x) (.t x22x)) false [] [] []), (.mk (some x24x) none false [] false [true, true, true, false, false, false, false] [] [x23x] 
  (.ld 1 false (.t x23x)) false [] [] []), (.mk (some x25x) none true [] false [true, true, true, true, true, true, true, true] [] [x20x, x24x] (.bin .neq (.t x20x) (.t x24x)) 
  false [] [] [])]) (.cond (.t x25x) (.seq (.reg (.cons (some x4x) none (.mv (.c (.b false))) .nil)) .ret) .skip))) (.reg (.cons (some x15x) none (.mv (.t x5x)) (.cons (some x16x) 
  none (.bin .add (.t x15x) (.c (.n 1))) (.cons (some x5x) none (.mv (.t x16x)) .nil))))))))) (.seq (.reg (.cons (some x4x) none (.mv (.c (.b true))) .nil)) .ret)))) [(.tmp x4x)])
theorem cc18 : compF Try.prog drops true true Try.f18 = some i18 := by kernel_rfl
noncomputable def i19 : FnI := (.mk true false (.seq (.reg (.cons (some x2x) none (.box 36 (.t x0x)) (.cons (some x4x) none (.mv (.c .ns)) (.cons (some x5x) none (.mv (.c (.n 0))) .nil)))) (.seq (.reg (.cons 
  (some x13x) none (.ld 3 true (.t x2x)) (.cons (some x14x) none (.call 49 (.cons (.t x13x) .nil)) (.cons (some x12x) none (.mv (.t x14x)) (.cons (some x15x) none (.ext 0 (.t 
  x12x)) (.cons (some x16x) none (.ext 1 (.t x12x)) (.cons (some x6x) none (.alloc 81 (.cons (.n 0) (.cons (.b false) (.cons (.n 0) (.cons (.n 0) (.cons (.n 0) (.cons (.n 0) (.cons 
  (.n 0) (.cons (.n 0) (.cons (.n 0) (.cons (.n 0) (.cons (.n 0) (.cons (.n 0) (.cons (.n 0) (.cons (.n 0) (.cons (.n 0) (.cons (.n 0) (.cons (.n 0) (.cons (.n 0) 
  .nil)))))))))))))))))) 18) (.cons none none (.st 18 (.t x6x) (.t x15x)) (.cons (some x7x) none (.mv (.t x16x)) .nil))))))))) (.seq (.seq (.reg (.cons (some x17x) none (.mv (.t 
  x7x)) (.cons (some x18x) none (.bin .neq (.t x17x) (.c (.n 0))) .nil))) (.cond (.t x18x) (.seq (.reg (.cons (some x19x) none (.mv (.t x7x)) (.cons (some x4x) none (.mv (.c .ns)) 
  (.cons (some x5x) none (.mv (.t x19x)) .nil)))) .ret) .skip)) (.seq (.seq (.reg (.cons (some x20x) none (.ld 18 true (.t x6x)) (.cons (some x21x) none (.mv (.t x1x)) (.cons (some 
  x22x) none (.call 56 (.cons (.t x20x) (.cons (.t x21x) .nil))) (.cons (some x23x) none (.not (.t x22x)) .nil))))) (.cond (.t x23x) (.seq (.reg (.cons (some x4x) none (.mv (.c 
  .ns)) (.cons (some x5x) none (.mv (.c (.n 2))) .nil))) .ret) .skip)) (.seq (.seq (.reg (.cons (some x24x) none (.fad 2 (.t x6x)) (.cons (some x25x) none (.ld 16 true (.t x24x)) 
  (.cons (some x26x) none (.mv (.t x1x)) (.cons (some x27x) none (.call 57 (.cons (.t x25x) (.cons (.t x26x) .nil))) .nil))))) (.cond (.t x27x) (.seq (.reg (.cons (some x4x) none 
  (.mv (.c .ns)) (.cons (some x5x) none (.mv (.c (.n 6))) .nil))) .ret) .skip)) (.seq (.reg (.cons (some x8x) none (.mv (.c .ns)) .nil)) (.seq (.seq (.reg (.cons (some x28x) none 
  (.ld 18 true (.t x6x)) (.cons (some x29x) none (.call 58 (.cons (.t x28x) .nil)) (.cons (some x30x) none (.mv (.c (.n 0))) .nil)))) (.block 0 (.loop (.seq (.reg (.cons (some 
  x31x) none (.bin .lss (.t x30x) (.t x29x)) .nil)) (.seq (.cond (.t x31x) .skip (.exit 0)) (.seq (.block 1 (.seq (.reg (.cons (some x32x) none (.mv (.t x30x)) (.cons (some x9x) 
  none (.mv (.t x32x)) .nil))) (.seq (.reg (.cons (some x34x) none (.ld 18 true (.t x6x)) (.cons (some x35x) none (.mv (.t x1x)) (.cons (some x36x) none (.mv (.t x9x)) (.cons (some 
  x37x) none (.call 59 (.cons (.t x34x) (.cons (.t x35x) (.cons (.t x36x) .nil)))) (.cons (some x33x) none (.mv (.t x37x)) (.cons (some x38x) none (.ext 0 (.t x33x)) (.cons (some 
  x39x) none (.ext 1 (.t x33x)) (.cons (some x10x) none (.alloc 81 (.cons (.n 0) (.cons (.b false) (.cons (.n 0) (.cons (.n 0) (.cons (.n 0) (.cons (.n 0) (.cons (.n 0) (.cons (.n 
  0) (.cons (.n 0) (.cons (.n 0) (.cons (.n 0) (.cons (.n 0) (.cons (.n 0) (.cons (.n 0) (.cons (.n 0) (.cons (.n 0) (.cons (.n 0) (.cons (.n 0) .nil)))))))))))))))))) 18) (.cons 
  none none (.st 18 (.t x10x) (.t x38x)) (.cons (some x11x) none (.mv (.t x39x)) .nil))))))))))) (.seq (.reg (.cons (some x40x) none (.mv (.t x11x)) (.cons (some x41x) none (.bin 
  .eql (.t x40x) (.c (.n 0))) .nil))) (.cond (.t x41x) (.reg (.cons (some x42x) none (.mv (.t x8x)) (.cons (some x43x) none (.mv (.t x9x)) (.cons (some x44x) none (.bsl 3 1 1 
  (.cons (.n 0) .nil) (.cons 0 1 (.t x43x) .nil)) (.cons (some x45x) none (.app 3 1 8 (.t x42x) (.t x44x)) (.cons (some x8x) none (.mv (.t x45x)) .nil)))))) .skip))))) (.reg (.cons 
  (some x46x) none (.bin .add (.t x30x) (.c (.n 1))) (.cons (some x30x) none (.mv (.t x46x)) .nil))))))))) (.seq (.reg (.cons (some x47x) none (.mv (.t x8x)) (.cons (some x4x) none 
  (.mv (.t x47x)) (.cons (some x5x) none (.mv (.c (.n 0))) .nil)))) .ret)))))))) [(.tmp x4x), (.tmp x5x)])
theorem cc19 : compF Try.prog drops true false Try.f19 = some i19 := by kernel_rfl
noncomputable def i20 : FnI := (.mk true false (.seq (.reg (.cons (some x0x) none (.alloc 36 (.cons (.n 0) (.cons (.b false) (.cons .ns .nil))) 3) .nil)) (.seq (.reg (.cons (some x1x) none (.bsl 3 1 8 (.cons (.n 
  0) (.cons (.n 0) (.cons (.n 0) (.cons (.n 0) (.cons (.n 0) (.cons (.n 0) (.cons (.n 0) (.cons (.n 0) .nil)))))))) (.cons 0 1 (.c (.n 0)) (.cons 1 1 (.c (.n 0)) (.cons 2 1 (.c (.n 
  3)) (.cons 3 1 (.c (.n 0)) (.cons 4 1 (.c (.n 0)) (.cons 5 1 (.c (.n 3)) (.cons 6 1 (.c (.n 0)) (.cons 7 1 (.c (.n 0)) .nil))))))))) (.cons (some x2x) none (.call 27 (.cons (.c 
  (.b false)) (.cons (.t x1x) .nil))) (.cons none none (.st 3 (.t x0x) (.t x2x)) .nil)))) .ret)) [(.cell x0x 3 true)])
theorem cc20 : compF Try.prog drops true false Try.f20 = some i20 := by kernel_rfl
noncomputable def i21 : FnI := (.mk true false (.seq (.reg (.cons (some x3x) none (.box 36 (.t x0x)) (.cons (some x6x) none (.alloc 36 (.cons (.n 0) (.cons (.b false) (.cons .ns .nil))) 3) (.cons (some x7x) none 
  (.mv (.c (.n 0))) .nil)))) (.seq (.reg (.cons (some x11x) none (.ld 3 true (.t x3x)) (.cons (some x12x) none (.call 49 (.cons (.t x11x) .nil)) (.cons (some x10x) none (.mv (.t 
  x12x)) (.cons (some x13x) none (.ext 0 (.t x10x)) (.cons (some x14x) none (.ext 1 (.t x10x)) (.cons (some x8x) none (.alloc 81 (.cons (.n 0) (.cons (.b false) (.cons (.n 0) 
  (.cons (.n 0) (.cons (.n 0) (.cons (.n 0) (.cons (.n 0) (.cons (.n 0) (.cons (.n 0) (.cons (.n 0) (.cons (.n 0) (.cons (.n 0) (.cons (.n 0) (.cons (.n 0) (.cons (.n 0) (.cons (.n 
  0) (.cons (.n 0) (.cons (.n 0) .nil)))))))))))))))))) 18) (.cons none none (.st 18 (.t x8x) (.t x13x)) (.cons (some x9x) none (.mv (.t x14x)) .nil))))))))) (.seq (.seq (.reg 
  (.cons (some x15x) none (.mv (.t x9x)) (.cons (some x16x) none (.bin .neq (.t x15x) (.c (.n 0))) .nil))) (.cond (.t x16x) (.seq (.reg (.cons (some x17x) none (.build (.cons (.n 
  0) (.cons (.b false) (.cons .ns .nil))) .nil) (.cons (some x18x) none (.mv (.t x9x)) (.cons none none (.st 3 (.t x6x) (.t x17x)) (.cons (some x7x) none (.mv (.t x18x)) .nil))))) 
  .ret) .skip)) (.seq (.seq (.reg (.cons (some x19x) none (.ld 18 true (.t x8x)) (.cons (some x20x) none (.mv (.t x1x)) (.cons (some x21x) none (.call 56 (.cons (.t x19x) (.cons 
  (.t x20x) .nil))) (.cons (some x22x) none (.not (.t x21x)) (.cons (some x23x) none (.mv (.t x22x)) (.cons (some x24x) (some (.mk x23x false)) (.ld 18 true (.t x8x)) (.cons (some 
  x25x) (some (.mk x23x false)) (.mv (.t x2x)) (.cons (some x26x) (some (.mk x23x false)) (.call 60 (.cons (.t x24x) (.cons (.t x25x) .nil))) (.cons (some x27x) (some (.mk x23x 
  false)) (.not (.t x26x)) (.cons (some x28x) none (.pick (.t x23x) (.c (.b true)) (.t x27x)) .nil))))))))))) (.cond (.t x28x) (.seq (.reg (.cons (some x29x) none (.build (.cons 
  (.n 0) (.cons (.b false) (.cons .ns .nil))) .nil) (.cons none none (.st 3 (.t x6x) (.t x29x)) (.cons (some x7x) none (.mv (.c (.n 2))) .nil)))) .ret) .skip)) (.seq (.reg (.cons 
  (some x31x) none (.ld 18 true (.t x8x)) (.cons (some x32x) none (.mv (.t x1x)) (.cons (some x33x) none (.mv (.t x2x)) (.cons (some x34x) none (.call 59 (.cons (.t x31x) (.cons 
  (.t x32x) (.cons (.t x33x) .nil)))) (.cons (some x30x) none (.mv (.t x34x)) (.cons (some x35x) none (.ext 0 (.t x30x)) (.cons (some x36x) none (.ext 1 (.t x30x)) (.cons none none 
  (.st 18 (.t x8x) (.t x35x)) (.cons (some x9x) none (.mv (.t x36x)) .nil)))))))))) (.seq (.seq (.reg (.cons (some x37x) none (.mv (.t x9x)) (.cons (some x38x) none (.bin .neq (.t 
  x37x) (.c (.n 0))) .nil))) (.cond (.t x38x) (.seq (.reg (.cons (some x39x) none (.build (.cons (.n 0) (.cons (.b false) (.cons .ns .nil))) .nil) (.cons (some x40x) none (.mv (.t 
  x9x)) (.cons none none (.st 3 (.t x6x) (.t x39x)) (.cons (some x7x) none (.mv (.t x40x)) .nil))))) .ret) .skip)) (.seq (.reg (.cons (some x41x) none (.ld 18 true (.t x8x)) (.cons 
  (some x42x) none (.call 51 (.cons (.t x41x) .nil)) (.cons none none (.st 3 (.t x6x) (.t x42x)) (.cons (some x7x) none (.mv (.c (.n 0))) .nil))))) .ret))))))) [(.cell x6x 3 true), 
  (.tmp x7x)])
theorem cc21 : compF Try.prog drops true false Try.f21 = some i21 := by kernel_rfl
noncomputable def i22 : FnI := (.mk true false (.seq (.reg (.cons (some x2x) none (.box 36 (.t x0x)) (.cons (some x4x) none (.mv (.c .ns)) (.cons (some x5x) none (.mv (.c (.n 0))) .nil)))) (.seq (.reg (.cons 
  (some x12x) none (.ld 3 true (.t x2x)) (.cons (some x13x) none (.mv (.t x1x)) (.cons (some x14x) none (.call 61 (.cons (.t x12x) (.cons (.t x13x) .nil))) (.cons (some x11x) none 
  (.mv (.t x14x)) (.cons (some x15x) none (.ext 0 (.t x11x)) (.cons (some x16x) none (.ext 1 (.t x11x)) (.cons (some x6x) none (.alloc 81 (.cons (.n 0) (.cons (.b false) (.cons (.n 
  0) (.cons (.n 0) (.cons (.n 0) (.cons (.n 0) (.cons (.n 0) (.cons (.n 0) (.cons (.n 0) (.cons (.n 0) (.cons (.n 0) (.cons (.n 0) (.cons (.n 0) (.cons (.n 0) (.cons (.n 0) (.cons 
  (.n 0) (.cons (.n 0) (.cons (.n 0) .nil)))))))))))))))))) 18) (.cons none none (.st 18 (.t x6x) (.t x15x)) (.cons (some x7x) none (.mv (.t x16x)) .nil)))))))))) (.seq (.seq (.reg 
  (.cons (some x17x) none (.mv (.t x7x)) (.cons (some x18x) none (.bin .neq (.t x17x) (.c (.n 0))) .nil))) (.cond (.t x18x) (.seq (.reg (.cons (some x19x) none (.mv (.t x7x)) 
  (.cons (some x4x) none (.mv (.c .ns)) (.cons (some x5x) none (.mv (.t x19x)) .nil)))) .ret) .skip)) (.seq (.reg (.cons (some x20x) none (.ld 18 true (.t x6x)) (.cons (some x21x) 
  none (.mv (.t x1x)) (.cons (some x22x) none (.call 62 (.cons (.t x20x) (.cons (.t x21x) .nil))) (.cons (some x8x) none (.mv (.t x22x)) .nil))))) (.seq (.reg (.cons (some x9x) 
  none (.mv (.c .ns)) .nil)) (.seq (.seq (.reg (.cons (some x10x) none (.mv (.c (.n 1))) .nil)) (.block 0 (.loop (.seq (.seq (.reg (.cons (some x23x) none (.mv (.t x10x)) (.cons 
  (some x24x) none (.fad 0 (.t x6x)) (.cons (some x25x) none (.ld 1 false (.t x24x)) (.cons (some x26x) none (.bin .leq (.t x23x) (.t x25x)) .nil))))) (.cond (.t x26x) .skip (.exit 
  0))) (.seq (.block 1 (.seq (.reg (.cons (some x29x) none (.mv (.t x8x)) (.cons (some x30x) none (.mv (.t x10x)) (.cons (some x31x) none (.call 63 (.cons (.t x29x) (.cons (.t 
  x30x) .nil))) (.cons (some x32x) none (.len (.t x31x)) (.cons (some x33x) none (.bin .eql (.t x32x) (.c (.n 1))) .nil)))))) (.cond (.t x33x) (.reg (.cons (some x34x) none (.mv 
  (.t x9x)) (.cons (some x35x) none (.mv (.t x10x)) (.cons (some x36x) none (.bsl 3 1 1 (.cons (.n 0) .nil) (.cons 0 1 (.t x35x) .nil)) (.cons (some x37x) none (.app 3 1 8 (.t 
  x34x) (.t x36x)) (.cons (some x9x) none (.mv (.t x37x)) .nil)))))) .skip))) (.reg (.cons (some x27x) none (.mv (.t x10x)) (.cons (some x28x) none (.bin .add (.t x27x) (.c (.n 
  1))) (.cons (some x10x) none (.mv (.t x28x)) .nil))))))))) (.seq (.reg (.cons (some x38x) none (.mv (.t x9x)) (.cons (some x4x) none (.mv (.t x38x)) (.cons (some x5x) none (.mv 
  (.c (.n 0))) .nil)))) .ret))))))) [(.tmp x4x), (.tmp x5x)])
theorem cc22 : compF Try.prog drops true false Try.f22 = some i22 := by kernel_rfl
noncomputable def i23 : FnI := (.mk true false (.seq (.reg (.cons (some x0x) none (.alloc 36 (.cons (.n 0) (.cons (.b false) (.cons .ns .nil))) 3) .nil)) (.seq (.reg (.cons (some x1x) none (.bsl 3 1 6 (.cons (.n 
  0) (.cons (.n 0) (.cons (.n 0) (.cons (.n 0) (.cons (.n 0) (.cons (.n 0) .nil)))))) (.cons 0 1 (.c (.n 2)) (.cons 1 1 (.c (.n 3)) (.cons 2 1 (.c (.n 1)) (.cons 3 1 (.c (.n 2)) 
  (.cons 4 1 (.c (.n 1)) (.cons 5 1 (.c (.n 3)) .nil))))))) (.cons (some x2x) none (.call 27 (.cons (.c (.b true)) (.cons (.t x1x) .nil))) (.cons none none (.st 3 (.t x0x) (.t 
  x2x)) .nil)))) .ret)) [(.cell x0x 3 true)])
theorem cc23 : compF Try.prog drops true false Try.f23 = some i23 := by kernel_rfl
noncomputable def i24 : FnI := (.mk true true (.seq (.reg (.cons (some x2x) none (.box 36 (.t x0x)) (.cons (some x4x) none (.mv (.c (.n 0))) (.cons (some x5x) none (.mv (.c (.n 0))) .nil)))) (.seq (.reg (.cons 
  (some x11x) none (.ld 3 true (.t x2x)) (.cons (some x12x) none (.call 49 (.cons (.t x11x) .nil)) (.cons (some x10x) none (.mv (.t x12x)) (.cons (some x13x) none (.ext 0 (.t 
  x10x)) (.cons (some x14x) none (.ext 1 (.t x10x)) (.cons (some x6x) none (.alloc 81 (.cons (.n 0) (.cons (.b false) (.cons (.n 0) (.cons (.n 0) (.cons (.n 0) (.cons (.n 0) (.cons 
  (.n 0) (.cons (.n 0) (.cons (.n 0) (.cons (.n 0) (.cons (.n 0) (.cons (.n 0) (.cons (.n 0) (.cons (.n 0) (.cons (.n 0) (.cons (.n 0) (.cons (.n 0) (.cons (.n 0) 
  .nil)))))))))))))))))) 18) (.cons none none (.st 18 (.t x6x) (.t x13x)) (.cons (some x7x) none (.mv (.t x14x)) .nil))))))))) (.seq (.seq (.reg (.cons (some x15x) none (.mv (.t 
  x7x)) (.cons (some x16x) none (.bin .neq (.t x15x) (.c (.n 0))) .nil))) (.cond (.t x16x) (.seq (.reg (.cons (some x17x) none (.mv (.t x7x)) (.cons (some x4x) none (.mv (.c (.n 
  0))) (.cons (some x5x) none (.mv (.t x17x)) .nil)))) .ret) .skip)) (.seq (.seq (.reg (.cons (some x18x) none (.ld 18 true (.t x6x)) (.cons (some x19x) none (.mv (.t x1x)) (.cons 
  (some x20x) none (.call 60 (.cons (.t x18x) (.cons (.t x19x) .nil))) (.cons (some x21x) none (.not (.t x20x)) .nil))))) (.cond (.t x21x) (.seq (.reg (.cons (some x4x) none (.mv 
  (.c (.n 0))) (.cons (some x5x) none (.mv (.c (.n 2))) .nil))) .ret) .skip)) (.seq (.seq (.reg (.cons (some x22x) none (.mv (.t x1x)) (.cons (some x23x) none (.fad 2 (.t x6x)) 
  (.cons (some x24x) none (.ixa 16 1 (.t x23x) (.t x22x)) (.cons (some x25x) none (.ld 1 false (.t x24x)) (.cons (some x26x) none (.bin .eql (.t x25x) (.c (.n 0))) .nil)))))) 
  (.cond (.t x26x) (.seq (.reg (.cons (some x4x) none (.mv (.c (.n 0))) (.cons (some x5x) none (.mv (.c (.n 4))) .nil))) .ret) .skip)) (.seq (.draw [(.mk (some x28x) none false [] 
  false [] [] [x6x] (.ld 18 true (.t x6x)) false [] [] []), (.mk (some x29x) none true [] false [false] [] [x1x] (.mv (.t x1x)) false [] [] []), (.mk (some x30x) none true [] false 
  [false, false] [] [x6x] (.fad 2 (.t x6x)) false [] [] []), (.mk (some x31x) none true [] false [true, true, false] [] [x30x, x29x] (.ixa 16 1 (.t x30x) (.t x29x)) false [] [] 
  []), (.mk (some x32x) none false [] false [true, true, true, false] [] [x31x] (.ld 1 false (.t x31x)) false [] [] []), (.mk (some x33x) none false [] false [true, true, true, 
  true, true] [] [x28x, x32x] (.call 64 (.cons (.t x28x) (.cons (.t x32x) .nil))) false [] [] []), (.mk (some x27x) none true [] false [true, true, true, true, true, true] [] 
  [x33x] (.mv (.t x33x)) false [] [] []), (.mk (some x34x) none true [] false [true, true, true, true, true, true, true] [] [x27x] (.ext 0 (.t x27x)) false [] [] []), (.mk (some 
  x35x) none true [] false [false, true, true, true, true, true, true, true] [] [x27x] (.ext 1 (.t x27x)) false [] [] []), (.mk (some x8x) none true [] false [false, true, true, 
  true, true, true, true, true, true] [] [x34x] (.mv (.t x34x)) false [] [] []), (.mk (some x9x) none true [] false [true, true, true, true, true, true, true, true, true, true] [] 
  [x35x] (.mv (.t x35x)) false [] [] [])]) (.seq (.seq (.reg (.cons (some x36x) none (.mv (.t x1x)) (.cons (some x37x) none (.mv (.t x8x)) (.cons (some x38x) none (.bin .eql (.t 
  x36x) (.t x37x)) .nil)))) (.cond (.t x38x) (.seq (.reg (.cons (some x39x) none (.mv (.t x9x)) (.cons (some x4x) none (.mv (.t x39x)) (.cons (some x5x) none (.mv (.c (.n 0))) 
  .nil)))) .ret) .skip)) (.seq (.reg (.cons (some x40x) none (.mv (.t x8x)) (.cons (some x4x) none (.mv (.t x40x)) (.cons (some x5x) none (.mv (.c (.n 0))) .nil)))) .ret)))))))) 
  [(.tmp x4x), (.tmp x5x)])
theorem cc24 : compF Try.prog drops true true Try.f24 = some i24 := by kernel_rfl
noncomputable def i25 : FnI := (.mk true false (.seq (.reg (.cons (some x2x) none (.mv (.c .ns)) .nil)) (.seq (.reg (.cons (some x3x) none (.mv (.t x0x)) (.cons (some x2x) none (.mv (.t x3x)) .nil))) .ret)) 
  [(.tmp x2x)])
theorem cc25 : compF Try.prog drops true false Try.f25 = some i25 := by kernel_rfl
noncomputable def i26 : FnI := (.mk true true (.seq (.reg (.cons (some x1x) none (.box 36 (.t x0x)) (.cons (some x2x) none (.mv (.c (.n 0))) .nil))) (.seq (.reg (.cons (some x6x) none (.ld 3 true (.t x1x)) 
  (.cons (some x7x) none (.call 49 (.cons (.t x6x) .nil)) (.cons (some x5x) none (.mv (.t x7x)) (.cons (some x8x) none (.ext 0 (.t x5x)) (.cons (some x9x) none (.ext 1 (.t x5x)) 
  (.cons (some x3x) none (.alloc 81 (.cons (.n 0) (.cons (.b false) (.cons (.n 0) (.cons (.n 0) (.cons (.n 0) (.cons (.n 0) (.cons (.n 0) (.cons (.n 0) (.cons (.n 0) (.cons (.n 0) 
  (.cons (.n 0) (.cons (.n 0) (.cons (.n 0) (.cons (.n 0) (.cons (.n 0) (.cons (.n 0) (.cons (.n 0) (.cons (.n 0) .nil)))))))))))))))))) 18) (.cons none none (.st 18 (.t x3x) (.t 
  x8x)) (.cons (some x4x) none (.mv (.t x9x)) .nil))))))))) (.seq (.reg (.cons (some x10x) none (.mv (.t x4x)) (.cons (some x2x) none (.mv (.t x10x)) .nil))) .ret))) [(.tmp x2x)])
theorem cc26 : compF Try.prog drops true true Try.f26 = some i26 := by kernel_rfl
noncomputable def i27 : FnI := (.mk true false (.seq (.reg (.cons (some x4x) none (.alloc 36 (.cons (.n 0) (.cons (.b false) (.cons .ns .nil))) 3) .nil)) (.seq (.reg (.cons (some x5x) none (.mv (.t x1x)) (.cons 
  (some x6x) none (.len (.t x5x)) (.cons (some x7x) none (.bin .quo (.t x6x) (.c (.n 2))) (.cons (some x8x) none (.mv (.t x0x)) (.cons (some x9x) none (.mv (.t x1x)) (.cons (some 
  x10x) none (.build (.cons (.n 0) (.cons (.b false) (.cons .ns .nil))) (.cons 0 1 (.t x7x) (.cons 1 1 (.t x8x) (.cons 2 1 (.t x9x) .nil)))) (.cons none none (.st 3 (.t x4x) (.t 
  x10x)) .nil)))))))) .ret)) [(.cell x4x 3 true)])
theorem cc27 : compF Try.prog drops true false Try.f27 = some i27 := by kernel_rfl
noncomputable def i44 : FnI := (.mk true true (.seq (.reg (.cons (some x4x) none (.mv (.c (.n 0))) .nil)) (.seq (.reg (.cons (some x9x) none (.mv (.t x0x)) (.cons (some x10x) none (.mv (.t x1x)) (.cons (some 
  x11x) none (.build (.cons (.n 0) (.cons (.b false) (.cons (.n 0) (.cons (.n 0) (.cons (.n 0) (.cons (.n 0) (.cons (.n 0) (.cons (.n 0) (.cons (.n 0) (.cons (.n 0) (.cons (.n 0) 
  (.cons (.n 0) (.cons (.n 0) (.cons (.n 0) (.cons (.n 0) (.cons (.n 0) (.cons (.n 0) (.cons (.n 0) .nil)))))))))))))))))) (.cons 0 1 (.t x9x) (.cons 1 1 (.t x10x) .nil))) (.cons 
  (some x5x) none (.alloc 81 (.cons (.n 0) (.cons (.b false) (.cons (.n 0) (.cons (.n 0) (.cons (.n 0) (.cons (.n 0) (.cons (.n 0) (.cons (.n 0) (.cons (.n 0) (.cons (.n 0) (.cons 
  (.n 0) (.cons (.n 0) (.cons (.n 0) (.cons (.n 0) (.cons (.n 0) (.cons (.n 0) (.cons (.n 0) (.cons (.n 0) .nil)))))))))))))))))) 18) (.cons none none (.st 18 (.t x5x) (.t x11x)) 
  .nil)))))) (.seq (.reg (.cons (some x6x) none (.mv (.c (.n 0))) .nil)) (.seq (.seq (.reg (.cons (some x12x) none (.ld 18 true (.t x5x)) (.cons (some x13x) none (.call 58 (.cons 
  (.t x12x) .nil)) (.cons (some x14x) none (.mv (.c (.n 0))) .nil)))) (.block 0 (.loop (.seq (.reg (.cons (some x15x) none (.bin .lss (.t x14x) (.t x13x)) .nil)) (.seq (.cond (.t 
  x15x) .skip (.exit 0)) (.seq (.block 1 (.seq (.reg (.cons (some x16x) none (.mv (.t x14x)) (.cons (some x7x) none (.mv (.t x16x)) .nil))) (.reg (.cons (some x17x) none (.mv (.t 
  x6x)) (.cons (some x18x) none (.mv (.t x7x)) (.cons (some x19x) none (.bin .add (.t x17x) (.t x18x)) (.cons (some x6x) none (.mv (.t x19x)) .nil))))))) (.reg (.cons (some x20x) 
  none (.bin .add (.t x14x) (.c (.n 1))) (.cons (some x14x) none (.mv (.t x20x)) .nil))))))))) (.seq (.seq (.reg (.cons (some x8x) none (.mv (.c (.n 1))) .nil)) (.block 2 (.loop 
  (.seq (.seq (.reg (.cons (some x21x) none (.mv (.t x8x)) (.cons (some x22x) none (.mv (.t x0x)) (.cons (some x23x) none (.bin .leq (.t x21x) (.t x22x)) .nil)))) (.cond (.t x23x) 
  .skip (.exit 2))) (.seq (.block 3 (.reg (.cons (some x26x) none (.mv (.t x6x)) (.cons (some x27x) none (.ld 18 true (.t x5x)) (.cons (some x28x) none (.mv (.t x8x)) (.cons (some 
  x29x) none (.call 85 (.cons (.t x27x) (.cons (.t x28x) .nil))) (.cons (some x30x) none (.bin .sub (.t x26x) (.t x29x)) (.cons (some x6x) none (.mv (.t x30x)) .nil)))))))) (.reg 
  (.cons (some x24x) none (.mv (.t x8x)) (.cons (some x25x) none (.bin .add (.t x24x) (.c (.n 1))) (.cons (some x8x) none (.mv (.t x25x)) .nil))))))))) (.seq (.reg (.cons (some 
  x31x) none (.mv (.t x6x)) (.cons (some x4x) none (.mv (.t x31x)) .nil))) .ret)))))) [(.tmp x4x)])
theorem cc44 : compF Try.prog drops true true Try.f44 = some i44 := by kernel_rfl
noncomputable def i45 : FnI := (.mk true true (.seq (.reg (.cons (some x4x) none (.mv (.c (.b false))) .nil)) (.seq (.reg (.cons (some x5x) none (.mv (.t x0x)) (.cons (some x6x) none (.mv (.t x1x)) (.cons (some 
  x7x) none (.call 47 (.cons (.t x5x) (.cons (.t x6x) .nil))) (.cons (some x8x) none (.bin .geq (.t x7x) (.c (.n 0))) (.cons (some x4x) none (.mv (.t x8x)) .nil)))))) .ret)) [(.tmp 
  x4x)])
theorem cc45 : compF Try.prog drops true true Try.f45 = some i45 := by kernel_rfl
noncomputable def i46 : FnI := (.mk true false (.seq (.reg (.cons (some x2x) none (.mv (.c .ns)) .nil)) (.seq (.seq (.reg (.cons (some x3x) none (.mv (.t x0x)) (.cons (some x4x) none (.eqn false (.t x3x) (.c 
  .ns)) .nil))) (.cond (.t x4x) (.seq (.reg (.cons (some x2x) none (.mv (.c .ns)) .nil)) .ret) .skip)) (.seq (.reg (.cons (some x5x) none (.bsl 3 1 0 .nil .nil) (.cons (some x6x) 
  none (.mv (.t x0x)) (.cons (some x7x) none (.app 3 1 8 (.t x5x) (.t x6x)) (.cons (some x2x) none (.mv (.t x7x)) .nil))))) .ret))) [(.tmp x2x)])
theorem cc46 : compF Try.prog drops true false Try.f46 = some i46 := by kernel_rfl
noncomputable def i47 : FnI := (.mk true true (.seq (.reg (.cons (some x4x) none (.mv (.c (.n 0))) .nil)) (.seq (.seq (.reg (.cons (some x6x) none (.mv (.t x0x)) (.cons (some x7x) none (.len (.t x6x)) (.cons 
  (some x8x) none (.mv (.c (.n 0))) .nil)))) (.block 0 (.loop (.seq (.reg (.cons (some x9x) none (.bin .lss (.t x8x) (.t x7x)) .nil)) (.seq (.cond (.t x9x) .skip (.exit 0)) (.seq 
  (.block 1 (.seq (.reg (.cons (some x10x) none (.mv (.t x8x)) (.cons (some x5x) none (.mv (.t x10x)) .nil))) (.seq (.reg (.cons (some x11x) none (.mv (.t x1x)) (.cons (some x12x) 
  none (.mv (.t x0x)) (.cons (some x13x) none (.mv (.t x5x)) (.cons (some x14x) none (.ixs 1 (.t x12x) (.t x13x)) (.cons (some x15x) none (.ld 1 false (.t x14x)) (.cons (some x16x) 
  none (.bin .eql (.t x11x) (.t x15x)) .nil))))))) (.cond (.t x16x) (.seq (.reg (.cons (some x17x) none (.mv (.t x5x)) (.cons (some x4x) none (.mv (.t x17x)) .nil))) .ret) 
  .skip)))) (.reg (.cons (some x18x) none (.bin .add (.t x8x) (.c (.n 1))) (.cons (some x8x) none (.mv (.t x18x)) .nil))))))))) (.seq (.reg (.cons (some x4x) none (.mv (.c (.i .i64 
  (.negSucc 0)))) .nil)) .ret))) [(.tmp x4x)])
theorem cc47 : compF Try.prog drops true true Try.f47 = some i47 := by kernel_rfl
noncomputable def i48 : FnI := (.mk true true (.seq (.reg (.cons (some x4x) none (.mv (.c (.n 0))) .nil)) (.seq (.reg (.cons (some x7x) none (.mv (.t x0x)) (.cons (some x8x) none (.call 86 (.cons (.t x7x) .nil)) 
  (.cons (some x5x) none (.mv (.t x8x)) .nil)))) (.seq (.reg (.cons (some x9x) none (.mv (.t x1x)) (.cons (some x10x) none (.call 86 (.cons (.t x9x) .nil)) (.cons (some x6x) none 
  (.mv (.t x10x)) .nil)))) (.seq (.seq (.reg (.cons (some x11x) none (.mv (.t x5x)) .nil)) (.cond (.t x11x) (.seq (.seq (.reg (.cons (some x12x) none (.mv (.t x6x)) .nil)) (.cond 
  (.t x12x) (.seq (.reg (.cons (some x4x) none (.mv (.c (.n 0))) .nil)) .ret) .skip)) (.seq (.reg (.cons (some x4x) none (.mv (.c (.i .i64 (.negSucc 0)))) .nil)) .ret)) .skip)) 
  (.seq (.seq (.reg (.cons (some x13x) none (.mv (.t x6x)) .nil)) (.cond (.t x13x) (.seq (.reg (.cons (some x4x) none (.mv (.c (.n 1))) .nil)) .ret) .skip)) (.seq (.seq (.reg 
  (.cons (some x14x) none (.mv (.t x0x)) (.cons (some x15x) none (.mv (.t x1x)) (.cons (some x16x) none (.bin .lss (.t x14x) (.t x15x)) .nil)))) (.cond (.t x16x) (.seq (.reg (.cons 
  (some x4x) none (.mv (.c (.i .i64 (.negSucc 0)))) .nil)) .ret) .skip)) (.seq (.seq (.reg (.cons (some x17x) none (.mv (.t x0x)) (.cons (some x18x) none (.mv (.t x1x)) (.cons 
  (some x19x) none (.bin .gtr (.t x17x) (.t x18x)) .nil)))) (.cond (.t x19x) (.seq (.reg (.cons (some x4x) none (.mv (.c (.n 1))) .nil)) .ret) .skip)) (.seq (.reg (.cons (some x4x) 
  none (.mv (.c (.n 0))) .nil)) .ret)))))))) [(.tmp x4x)])
theorem cc48 : compF Try.prog drops true true Try.f48 = some i48 := by kernel_rfl
noncomputable def i49 : FnI := (.mk true true (.seq (.reg (.cons (some x1x) none (.box 36 (.t x0x)) (.cons (some x2x) none (.alloc 81 (.cons (.n 0) (.cons (.b false) (.cons (.n 0) (.cons (.n 0) (.cons (.n 0) 
  (.cons (.n 0) (.cons (.n 0) (.cons (.n 0) (.cons (.n 0) (.cons (.n 0) (.cons (.n 0) (.cons (.n 0) (.cons (.n 0) (.cons (.n 0) (.cons (.n 0) (.cons (.n 0) (.cons (.n 0) (.cons (.n 
  0) .nil)))))))))))))))))) 18) (.cons (some x3x) none (.mv (.c (.n 0))) .nil)))) (.seq (.seq (.reg (.cons (some x9x) none (.fad 0 (.t x1x)) (.cons (some x10x) none (.ld 1 false 
  (.t x9x)) (.cons (some x11x) none (.bin .lss (.t x10x) (.c (.n 1))) (.cons (some x12x) none (.mv (.t x11x)) (.cons (some x13x) (some (.mk x12x false)) (.fad 0 (.t x1x)) (.cons 
  (some x14x) (some (.mk x12x false)) (.ld 1 false (.t x13x)) (.cons (some x15x) (some (.mk x12x false)) (.bin .gtr (.t x14x) (.c (.n 8))) (.cons (some x16x) none (.pick (.t x12x) 
  (.c (.b true)) (.t x15x)) .nil))))))))) (.cond (.t x16x) (.seq (.reg (.cons (some x17x) none (.build (.cons (.n 0) (.cons (.b false) (.cons (.n 0) (.cons (.n 0) (.cons (.n 0) 
  (.cons (.n 0) (.cons (.n 0) (.cons (.n 0) (.cons (.n 0) (.cons (.n 0) (.cons (.n 0) (.cons (.n 0) (.cons (.n 0) (.cons (.n 0) (.cons (.n 0) (.cons (.n 0) (.cons (.n 0) (.cons (.n 
  0) .nil)))))))))))))))))) .nil) (.cons none none (.st 18 (.t x2x) (.t x17x)) (.cons (some x3x) none (.mv (.c (.n 1))) .nil)))) .ret) .skip)) (.seq (.reg (.cons (some x18x) none 
  (.fad 0 (.t x1x)) (.cons (some x19x) none (.ld 1 false (.t x18x)) (.cons (some x20x) none (.fad 1 (.t x1x)) (.cons (some x21x) none (.ld 1 false (.t x20x)) (.cons (some x22x) 
  none (.build (.cons (.n 0) (.cons (.b false) (.cons (.n 0) (.cons (.n 0) (.cons (.n 0) (.cons (.n 0) (.cons (.n 0) (.cons (.n 0) (.cons (.n 0) (.cons (.n 0) (.cons (.n 0) (.cons 
  (.n 0) (.cons (.n 0) (.cons (.n 0) (.cons (.n 0) (.cons (.n 0) (.cons (.n 0) (.cons (.n 0) .nil)))))))))))))))))) (.cons 0 1 (.t x19x) (.cons 1 1 (.t x21x) .nil))) (.cons (some 
  x4x) none (.alloc 81 (.cons (.n 0) (.cons (.b false) (.cons (.n 0) (.cons (.n 0) (.cons (.n 0) (.cons (.n 0) (.cons (.n 0) (.cons (.n 0) (.cons (.n 0) (.cons (.n 0) (.cons (.n 0) 
  (.cons (.n 0) (.cons (.n 0) (.cons (.n 0) (.cons (.n 0) (.cons (.n 0) (.cons (.n 0) (.cons (.n 0) .nil)))))))))))))))))) 18) (.cons none none (.st 18 (.t x4x) (.t x22x)) 
  .nil)))))))) (.seq (.seq (.draw [(.mk (some x23x) none true [] false [] [] [x1x] (.fad 2 (.t x1x)) false [] [] []), (.mk (some x24x) none false [] false [true] [] [x23x] (.ld 1 
  false (.t x23x)) false [] [] []), (.mk (some x25x) none true [] false [true, true] [] [x24x] (.len (.t x24x)) false [] [] []), (.mk (some x26x) none false [] false [false, false, 
  false] [] [x4x] (.ld 18 true (.t x4x)) false [] [] []), (.mk (some x27x) none false [] false [true, false, false, false] [] [x26x] (.call 58 (.cons (.t x26x) .nil)) false [] [] 
  []), (.mk (some x28x) none true [] false [true, true, true, true, true] [] [x25x, x27x] (.bin .neq (.t x25x) (.t x27x)) false [] [] [])]) (.cond (.t x28x) (.seq (.reg (.cons 
  (some x29x) none (.build (.cons (.n 0) (.cons (.b false) (.cons (.n 0) (.cons (.n 0) (.cons (.n 0) (.cons (.n 0) (.cons (.n 0) (.cons (.n 0) (.cons (.n 0) (.cons (.n 0) (.cons 
  (.n 0) (.cons (.n 0) (.cons (.n 0) (.cons (.n 0) (.cons (.n 0) (.cons (.n 0) (.cons (.n 0) (.cons (.n 0) .nil)))))))))))))))))) .nil) (.cons none none (.st 18 (.t x2x) (.t x29x)) 
  (.cons (some x3x) none (.mv (.c (.n 5))) .nil)))) .ret) .skip)) (.seq (.seq (.reg (.cons (some x30x) none (.fad 2 (.t x1x)) (.cons (some x31x) none (.ld 1 false (.t x30x)) (.cons 
  (some x32x) none (.len (.t x31x)) (.cons (some x33x) none (.mv (.c (.n 0))) .nil))))) (.block 0 (.loop (.seq (.reg (.cons (some x34x) none (.bin .lss (.t x33x) (.t x32x)) .nil)) 
  (.seq (.cond (.t x34x) .skip (.exit 0)) (.seq (.block 1 (.seq (.reg (.cons (some x35x) none (.mv (.t x33x)) (.cons (some x36x) none (.ixs 1 (.t x31x) (.t x33x)) (.cons (some 
  x37x) none (.ld 1 false (.t x36x)) (.cons (some x5x) none (.mv (.t x35x)) (.cons (some x6x) none (.mv (.t x37x)) .nil)))))) (.seq (.seq (.reg (.cons (some x38x) none (.mv (.t 
  x6x)) (.cons (some x39x) none (.bin .neq (.t x38x) (.c (.n 0))) (.cons (some x40x) none (.mv (.t x39x)) (.cons (some x41x) (some (.mk x40x true)) (.ld 18 true (.t x4x)) (.cons 
  (some x42x) (some (.mk x40x true)) (.mv (.t x6x)) (.cons (some x43x) (some (.mk x40x true)) (.call 56 (.cons (.t x41x) (.cons (.t x42x) .nil))) (.cons (some x44x) (some (.mk x40x 
  true)) (.not (.t x43x)) (.cons (some x45x) none (.pick (.t x40x) (.t x44x) (.c (.b false))) .nil))))))))) (.cond (.t x45x) (.seq (.reg (.cons (some x46x) none (.build (.cons (.n 
  0) (.cons (.b false) (.cons (.n 0) (.cons (.n 0) (.cons (.n 0) (.cons (.n 0) (.cons (.n 0) (.cons (.n 0) (.cons (.n 0) (.cons (.n 0) (.cons (.n 0) (.cons (.n 0) (.cons (.n 0) 
  (.cons (.n 0) (.cons (.n 0) (.cons (.n 0) (.cons (.n 0) (.cons (.n 0) .nil)))))))))))))))))) .nil) (.cons none none (.st 18 (.t x2x) (.t x46x)) (.cons (some x3x) none (.mv (.c 
  (.n 2))) .nil)))) .ret) .skip)) (.reg (.cons (some x47x) none (.mv (.t x5x)) (.cons (some x48x) none (.mv (.t x6x)) (.cons (some x49x) none (.fad 2 (.t x4x)) (.cons (some x50x) 
  none (.ixa 16 1 (.t x49x) (.t x47x)) (.cons none none (.st 1 (.t x50x) (.t x48x)) .nil))))))))) (.reg (.cons (some x51x) none (.bin .add (.t x33x) (.c (.n 1))) (.cons (some x33x) 
  none (.mv (.t x51x)) .nil))))))))) (.seq (.seq (.reg (.cons (some x7x) none (.mv (.c (.n 1))) .nil)) (.block 2 (.loop (.seq (.seq (.reg (.cons (some x52x) none (.mv (.t x7x)) 
  (.cons (some x53x) none (.fad 0 (.t x4x)) (.cons (some x54x) none (.ld 1 false (.t x53x)) (.cons (some x55x) none (.bin .leq (.t x52x) (.t x54x)) .nil))))) (.cond (.t x55x) .skip 
  (.exit 2))) (.seq (.block 3 (.seq (.reg (.cons (some x58x) none (.ld 18 true (.t x4x)) (.cons (some x59x) none (.mv (.t x7x)) (.cons (some x60x) none (.call 87 (.cons (.t x58x) 
  (.cons (.t x59x) .nil))) (.cons (some x8x) none (.mv (.t x60x)) .nil))))) (.seq (.reg (.cons (some x61x) none (.mv (.t x8x)) (.cons (some x62x) none (.bin .neq (.t x61x) (.c (.n 
  0))) .nil))) (.cond (.t x62x) (.seq (.reg (.cons (some x63x) none (.build (.cons (.n 0) (.cons (.b false) (.cons (.n 0) (.cons (.n 0) (.cons (.n 0) (.cons (.n 0) (.cons (.n 0) 
  (.cons (.n 0) (.cons (.n 0) (.cons (.n 0) (.cons (.n 0) (.cons (.n 0) (.cons (.n 0) (.cons (.n 0) (.cons (.n 0) (.cons (.n 0) (.cons (.n 0) (.cons (.n 0) .nil)))))))))))))))))) 
  .nil) (.cons (some x64x) none (.mv (.t x8x)) (.cons none none (.st 18 (.t x2x) (.t x63x)) (.cons (some x3x) none (.mv (.t x64x)) .nil))))) .ret) .skip)))) (.reg (.cons (some 
  x56x) none (.mv (.t x7x)) (.cons (some x57x) none (.bin .add (.t x56x) (.c (.n 1))) (.cons (some x7x) none (.mv (.t x57x)) .nil))))))))) (.seq (.reg (.cons (some x65x) none (.ld 
  18 true (.t x4x)) (.cons none none (.st 18 (.t x2x) (.t x65x)) (.cons (some x3x) none (.mv (.c (.n 0))) .nil)))) .ret))))))) [(.cell x2x 18 true), (.tmp x3x)])
theorem cc49 : compF Try.prog drops true true Try.f49 = some i49 := by kernel_rfl
noncomputable def i50 : FnI := (.mk true false (.seq (.reg (.cons (some x1x) none (.box 81 (.t x0x)) (.cons (some x2x) none (.mv (.c .nf)) .nil))) (.seq (.reg (.cons (some x3x) none (.mkf 88 .nil (.cons (.t x1x) 
  .nil)) (.cons (some x2x) none (.mv (.t x3x)) .nil))) .ret)) [(.tmp x2x)])
theorem cc50 : compF Try.prog drops true false Try.f50 = some i50 := by kernel_rfl
noncomputable def i51 : FnI := (.mk true false (.seq (.reg (.cons (some x1x) none (.box 81 (.t x0x)) (.cons (some x2x) none (.alloc 36 (.cons (.n 0) (.cons (.b false) (.cons .ns .nil))) 3) .nil))) (.seq (.draw 
  [(.mk (some x3x) none true [] false [] [] [x1x] (.fad 0 (.t x1x)) false [] [] []), (.mk (some x4x) none false [] false [true] [] [x3x] (.ld 1 false (.t x3x)) false [] [] []), 
  (.mk (some x5x) none true [] false [false, false] [] [x1x] (.fad 1 (.t x1x)) false [] [] []), (.mk (some x6x) none false [] false [true, false, false] [] [x5x] (.ld 1 false (.t 
  x5x)) false [] [] []), (.mk (some x7x) none true [] false [false, false, false, false] [] [x1x] (.fad 2 (.t x1x)) false [] [] []), (.mk (some x8x) none false [] false [false, 
  false, false, false, false] [] [x1x] (.ld 18 true (.t x1x)) false [] [] []), (.mk (some x9x) none false [] false [true, false, false, false, false, false] [] [x8x] (.call 58 
  (.cons (.t x8x) .nil)) false [] [] []), (.mk (some x10x) none false [] false [true, true, true, false, false, false, false] [] [x7x, x9x] (.sla 16 1 (.t x7x) none (some (.t x9x)) 
  none) false [] [] []), (.mk (some x11x) none false [] true [true, true, true, true, false, false, false, false] [] [x10x] (.call 46 (.cons (.t x10x) .nil)) false [] [] []), (.mk 
  (some x12x) none true [] false [true, true, true, true, true, true, true, true, true] [] [x4x, x6x, x11x] (.build (.cons (.n 0) (.cons (.b false) (.cons .ns .nil))) (.cons 0 1 
  (.t x4x) (.cons 1 1 (.t x6x) (.cons 2 1 (.t x11x) .nil)))) false [] [] []), (.mk none none false [x2x] false [true, true, true, true, true, true, true, true, true, true] [] [x2x, 
  x12x] (.st 3 (.t x2x) (.t x12x)) false [] [] [])]) .ret)) [(.cell x2x 3 true)])
theorem cc51 : compF Try.prog drops true false Try.f51 = some i51 := by kernel_rfl
noncomputable def i52 : FnI := (.mk true true (.seq (.reg (.cons (some x1x) none (.box 36 (.t x0x)) (.cons (some x2x) none (.mv (.c (.b false))) (.cons (some x3x) none (.mv (.c (.n 0))) .nil)))) (.seq (.reg 
  (.cons (some x7x) none (.ld 3 true (.t x1x)) (.cons (some x8x) none (.call 49 (.cons (.t x7x) .nil)) (.cons (some x6x) none (.mv (.t x8x)) (.cons (some x9x) none (.ext 0 (.t 
  x6x)) (.cons (some x10x) none (.ext 1 (.t x6x)) (.cons (some x4x) none (.alloc 81 (.cons (.n 0) (.cons (.b false) (.cons (.n 0) (.cons (.n 0) (.cons (.n 0) (.cons (.n 0) (.cons 
  (.n 0) (.cons (.n 0) (.cons (.n 0) (.cons (.n 0) (.cons (.n 0) (.cons (.n 0) (.cons (.n 0) (.cons (.n 0) (.cons (.n 0) (.cons (.n 0) (.cons (.n 0) (.cons (.n 0) 
  .nil)))))))))))))))))) 18) (.cons none none (.st 18 (.t x4x) (.t x9x)) (.cons (some x5x) none (.mv (.t x10x)) .nil))))))))) (.seq (.seq (.reg (.cons (some x11x) none (.mv (.t 
  x5x)) (.cons (some x12x) none (.bin .neq (.t x11x) (.c (.n 0))) .nil))) (.cond (.t x12x) (.seq (.reg (.cons (some x13x) none (.mv (.t x5x)) (.cons (some x2x) none (.mv (.c (.b 
  false))) (.cons (some x3x) none (.mv (.t x13x)) .nil)))) .ret) .skip)) (.seq (.draw [(.mk (some x14x) none false [] false [] [] [x4x] (.ld 18 true (.t x4x)) false [] [] []), (.mk 
  (some x15x) none false [] false [true] [] [x14x] (.call 89 (.cons (.t x14x) .nil)) false [] [] []), (.mk (some x16x) none false [] false [false, false] [] [x4x] (.ld 18 true (.t 
  x4x)) false [] [] []), (.mk (some x17x) none false [] false [true, true, true] [] [x16x] (.call 58 (.cons (.t x16x) .nil)) false [] [] []), (.mk (some x18x) none true [] false 
  [true, true, true, true] [] [x15x, x17x] (.bin .eql (.t x15x) (.t x17x)) false [] [] []), (.mk (some x2x) none true [] false [true, true, true, true, true] [] [x18x] (.mv (.t 
  x18x)) false [] [] []), (.mk (some x3x) none true [] false [true, true, true, true, true, true] [] [] (.mv (.c (.n 0))) false [] [] [])]) .ret)))) [(.tmp x2x), (.tmp x3x)])
theorem cc52 : compF Try.prog drops true true Try.f52 = some i52 := by kernel_rfl
noncomputable def i53 : FnI := (.mk true false (.seq (.reg (.cons (some x2x) none (.box 36 (.t x0x)) (.cons (some x4x) none (.alloc 36 (.cons (.n 0) (.cons (.b false) (.cons .ns .nil))) 3) (.cons (some x5x) none 
  (.mv (.c (.n 0))) .nil)))) (.seq (.reg (.cons (some x9x) none (.ld 3 true (.t x2x)) (.cons (some x10x) none (.mv (.t x1x)) (.cons (some x11x) none (.call 61 (.cons (.t x9x) 
  (.cons (.t x10x) .nil))) (.cons (some x8x) none (.mv (.t x11x)) (.cons (some x12x) none (.ext 0 (.t x8x)) (.cons (some x13x) none (.ext 1 (.t x8x)) (.cons (some x6x) none (.alloc 
  81 (.cons (.n 0) (.cons (.b false) (.cons (.n 0) (.cons (.n 0) (.cons (.n 0) (.cons (.n 0) (.cons (.n 0) (.cons (.n 0) (.cons (.n 0) (.cons (.n 0) (.cons (.n 0) (.cons (.n 0) 
  (.cons (.n 0) (.cons (.n 0) (.cons (.n 0) (.cons (.n 0) (.cons (.n 0) (.cons (.n 0) .nil)))))))))))))))))) 18) (.cons none none (.st 18 (.t x6x) (.t x12x)) (.cons (some x7x) none 
  (.mv (.t x13x)) .nil)))))))))) (.seq (.seq (.reg (.cons (some x14x) none (.mv (.t x7x)) (.cons (some x15x) none (.bin .neq (.t x14x) (.c (.n 0))) .nil))) (.cond (.t x15x) (.seq 
  (.reg (.cons (some x16x) none (.build (.cons (.n 0) (.cons (.b false) (.cons .ns .nil))) .nil) (.cons (some x17x) none (.mv (.t x7x)) (.cons none none (.st 3 (.t x4x) (.t x16x)) 
  (.cons (some x5x) none (.mv (.t x17x)) .nil))))) .ret) .skip)) (.seq (.reg (.cons (some x18x) none (.fad 2 (.t x6x)) (.cons (some x19x) none (.ld 16 true (.t x18x)) (.cons (some 
  x20x) none (.mv (.t x1x)) (.cons (some x21x) none (.call 90 (.cons (.t x19x) (.cons (.t x20x) .nil))) (.cons (some x22x) none (.fad 2 (.t x6x)) (.cons none none (.st 16 (.t x22x) 
  (.t x21x)) .nil))))))) (.seq (.reg (.cons (some x23x) none (.ld 18 true (.t x6x)) (.cons (some x24x) none (.call 51 (.cons (.t x23x) .nil)) (.cons none none (.st 3 (.t x4x) (.t 
  x24x)) (.cons (some x5x) none (.mv (.c (.n 0))) .nil))))) .ret))))) [(.cell x4x 3 true), (.tmp x5x)])
theorem cc53 : compF Try.prog drops true false Try.f53 = some i53 := by kernel_rfl
noncomputable def i54 : FnI := (.mk true false (.seq (.reg (.cons (some x2x) none (.box 36 (.t x0x)) (.cons (some x4x) none (.mv (.c .ns)) (.cons (some x5x) none (.mv (.c (.n 0))) .nil)))) (.seq (.reg (.cons 
  (some x9x) none (.ld 3 true (.t x2x)) (.cons (some x10x) none (.mv (.t x1x)) (.cons (some x11x) none (.call 61 (.cons (.t x9x) (.cons (.t x10x) .nil))) (.cons (some x8x) none 
  (.mv (.t x11x)) (.cons (some x12x) none (.ext 0 (.t x8x)) (.cons (some x13x) none (.ext 1 (.t x8x)) (.cons (some x6x) none (.alloc 81 (.cons (.n 0) (.cons (.b false) (.cons (.n 
  0) (.cons (.n 0) (.cons (.n 0) (.cons (.n 0) (.cons (.n 0) (.cons (.n 0) (.cons (.n 0) (.cons (.n 0) (.cons (.n 0) (.cons (.n 0) (.cons (.n 0) (.cons (.n 0) (.cons (.n 0) (.cons 
  (.n 0) (.cons (.n 0) (.cons (.n 0) .nil)))))))))))))))))) 18) (.cons none none (.st 18 (.t x6x) (.t x12x)) (.cons (some x7x) none (.mv (.t x13x)) .nil)))))))))) (.seq (.seq (.reg 
  (.cons (some x14x) none (.mv (.t x7x)) (.cons (some x15x) none (.bin .neq (.t x14x) (.c (.n 0))) .nil))) (.cond (.t x15x) (.seq (.reg (.cons (some x16x) none (.mv (.t x7x)) 
  (.cons (some x4x) none (.mv (.c .ns)) (.cons (some x5x) none (.mv (.t x16x)) .nil)))) .ret) .skip)) (.seq (.reg (.cons (some x17x) none (.ld 18 true (.t x6x)) (.cons (some x18x) 
  none (.mv (.t x1x)) (.cons (some x19x) none (.call 62 (.cons (.t x17x) (.cons (.t x18x) .nil))) (.cons (some x4x) none (.mv (.t x19x)) (.cons (some x5x) none (.mv (.c (.n 0))) 
  .nil)))))) .ret)))) [(.tmp x4x), (.tmp x5x)])
theorem cc54 : compF Try.prog drops true false Try.f54 = some i54 := by kernel_rfl
noncomputable def i55 : FnI := (.mk true false (.seq (.reg (.cons (some x1x) none (.box 36 (.t x0x)) (.cons (some x2x) none (.alloc 36 (.cons (.n 0) (.cons (.b false) (.cons .ns .nil))) 3) (.cons (some x3x) none 
  (.mv (.c (.n 0))) .nil)))) (.seq (.reg (.cons (some x8x) none (.ld 3 true (.t x1x)) (.cons (some x9x) none (.call 49 (.cons (.t x8x) .nil)) (.cons (some x7x) none (.mv (.t x9x)) 
  (.cons (some x10x) none (.ext 0 (.t x7x)) (.cons (some x11x) none (.ext 1 (.t x7x)) (.cons (some x4x) none (.alloc 81 (.cons (.n 0) (.cons (.b false) (.cons (.n 0) (.cons (.n 0) 
  (.cons (.n 0) (.cons (.n 0) (.cons (.n 0) (.cons (.n 0) (.cons (.n 0) (.cons (.n 0) (.cons (.n 0) (.cons (.n 0) (.cons (.n 0) (.cons (.n 0) (.cons (.n 0) (.cons (.n 0) (.cons (.n 
  0) (.cons (.n 0) .nil)))))))))))))))))) 18) (.cons none none (.st 18 (.t x4x) (.t x10x)) (.cons (some x5x) none (.mv (.t x11x)) .nil))))))))) (.seq (.seq (.reg (.cons (some x12x) 
  none (.mv (.t x5x)) (.cons (some x13x) none (.bin .neq (.t x12x) (.c (.n 0))) .nil))) (.cond (.t x13x) (.seq (.reg (.cons (some x14x) none (.build (.cons (.n 0) (.cons (.b false) 
  (.cons .ns .nil))) .nil) (.cons (some x15x) none (.mv (.t x5x)) (.cons none none (.st 3 (.t x2x) (.t x14x)) (.cons (some x3x) none (.mv (.t x15x)) .nil))))) .ret) .skip)) (.seq 
  (.reg (.cons (some x16x) none (.ld 18 true (.t x4x)) (.cons (some x17x) none (.call 51 (.cons (.t x16x) .nil)) (.cons (some x6x) none (.alloc 36 (.cons (.n 0) (.cons (.b false) 
  (.cons .ns .nil))) 3) (.cons none none (.st 3 (.t x6x) (.t x17x)) .nil))))) (.seq (.reg (.cons (some x18x) none (.fad 2 (.t x6x)) (.cons (some x19x) none (.ld 1 false (.t x18x)) 
  (.cons (some x20x) none (.call 91 (.cons (.t x19x) .nil)) .nil)))) (.seq (.reg (.cons (some x21x) none (.ld 3 true (.t x6x)) (.cons none none (.st 3 (.t x2x) (.t x21x)) (.cons 
  (some x3x) none (.mv (.c (.n 0))) .nil)))) .ret)))))) [(.cell x2x 3 true), (.tmp x3x)])
theorem cc55 : compF Try.prog drops true false Try.f55 = some i55 := by kernel_rfl
noncomputable def i56 : FnI := (.mk true true (.seq (.reg (.cons (some x2x) none (.box 81 (.t x0x)) (.cons (some x4x) none (.mv (.c (.b false))) .nil))) (.seq (.reg (.cons (some x5x) none (.mv (.t x1x)) (.cons 
  (some x6x) none (.bin .geq (.t x5x) (.c (.n 1))) (.cons (some x7x) none (.mv (.t x6x)) (.cons (some x8x) (some (.mk x7x true)) (.mv (.t x1x)) (.cons (some x9x) (some (.mk x7x 
  true)) (.fad 0 (.t x2x)) (.cons (some x10x) (some (.mk x7x true)) (.ld 1 false (.t x9x)) (.cons (some x11x) (some (.mk x7x true)) (.bin .leq (.t x8x) (.t x10x)) (.cons (some 
  x12x) none (.pick (.t x7x) (.t x11x) (.c (.b false))) (.cons (some x4x) none (.mv (.t x12x)) .nil)))))))))) .ret)) [(.tmp x4x)])
theorem cc56 : compF Try.prog drops true true Try.f56 = some i56 := by kernel_rfl
noncomputable def i57 : FnI := (.mk true true (.seq (.reg (.cons (some x2x) none (.box 79 (.t x0x)) (.cons (some x4x) none (.mv (.c (.b false))) .nil))) (.seq (.draw [(.mk (some x5x) none false [] false [] [] 
  [x2x] (.ld 16 true (.t x2x)) false [] [] []), (.mk (some x6x) none true [] false [false] [] [x1x] (.mv (.t x1x)) false [] [] []), (.mk (some x7x) none false [] false [true, true] 
  [] [x5x, x6x] (.call 90 (.cons (.t x5x) (.cons (.t x6x) .nil))) false [] [] []), (.mk (some x8x) none false [] false [false, false, false] [] [x2x] (.ld 16 true (.t x2x)) false 
  [] [] []), (.mk (some x9x) none true [] false [true, true, true, true] [] [x7x, x8x] (.eqa true (.ar 16 1 false .int) (.t x7x) (.t x8x)) false [] [] []), (.mk (some x4x) none 
  true [] false [true, true, true, true, true] [] [x9x] (.mv (.t x9x)) false [] [] [])]) .ret)) [(.tmp x4x)])
theorem cc57 : compF Try.prog drops true true Try.f57 = some i57 := by kernel_rfl
noncomputable def i58 : FnI := (.mk true true (.seq (.reg (.cons (some x1x) none (.box 81 (.t x0x)) (.cons (some x2x) none (.mv (.c (.n 0))) .nil))) (.seq (.reg (.cons (some x3x) none (.fad 0 (.t x1x)) (.cons 
  (some x4x) none (.ld 1 false (.t x3x)) (.cons (some x5x) none (.bin .mul (.c (.n 2)) (.t x4x)) (.cons (some x2x) none (.mv (.t x5x)) .nil))))) .ret)) [(.tmp x2x)])
theorem cc58 : compF Try.prog drops true true Try.f58 = some i58 := by kernel_rfl
noncomputable def i59 : FnI := (.mk true true (.seq (.reg (.cons (some x3x) none (.box 81 (.t x0x)) (.cons (some x6x) none (.alloc 81 (.cons (.n 0) (.cons (.b false) (.cons (.n 0) (.cons (.n 0) (.cons (.n 0) 
  (.cons (.n 0) (.cons (.n 0) (.cons (.n 0) (.cons (.n 0) (.cons (.n 0) (.cons (.n 0) (.cons (.n 0) (.cons (.n 0) (.cons (.n 0) (.cons (.n 0) (.cons (.n 0) (.cons (.n 0) (.cons (.n 
  0) .nil)))))))))))))))))) 18) (.cons (some x7x) none (.mv (.c (.n 0))) .nil)))) (.seq (.seq (.reg (.cons (some x9x) none (.fad 2 (.t x3x)) (.cons (some x10x) none (.ld 16 true 
  (.t x9x)) (.cons (some x11x) none (.mv (.t x1x)) (.cons (some x12x) none (.call 57 (.cons (.t x10x) (.cons (.t x11x) .nil))) .nil))))) (.cond (.t x12x) (.seq (.reg (.cons (some 
  x13x) none (.build (.cons (.n 0) (.cons (.b false) (.cons (.n 0) (.cons (.n 0) (.cons (.n 0) (.cons (.n 0) (.cons (.n 0) (.cons (.n 0) (.cons (.n 0) (.cons (.n 0) (.cons (.n 0) 
  (.cons (.n 0) (.cons (.n 0) (.cons (.n 0) (.cons (.n 0) (.cons (.n 0) (.cons (.n 0) (.cons (.n 0) .nil)))))))))))))))))) .nil) (.cons none none (.st 18 (.t x6x) (.t x13x)) (.cons 
  (some x7x) none (.mv (.c (.n 6))) .nil)))) .ret) .skip)) (.seq (.reg (.cons (some x14x) none (.mv (.t x2x)) (.cons (some x15x) none (.ld 18 true (.t x3x)) (.cons (some x16x) none 
  (.mv (.t x1x)) (.cons (some x17x) none (.call 85 (.cons (.t x15x) (.cons (.t x16x) .nil))) (.cons (some x18x) none (.bin .add (.t x14x) (.t x17x)) (.cons (some x8x) none (.mv (.t 
  x18x)) .nil))))))) (.seq (.seq (.reg (.cons (some x19x) none (.ld 18 true (.t x3x)) (.cons (some x20x) none (.mv (.t x8x)) (.cons (some x21x) none (.call 60 (.cons (.t x19x) 
  (.cons (.t x20x) .nil))) (.cons (some x22x) none (.not (.t x21x)) .nil))))) (.cond (.t x22x) (.seq (.reg (.cons (some x23x) none (.build (.cons (.n 0) (.cons (.b false) (.cons 
  (.n 0) (.cons (.n 0) (.cons (.n 0) (.cons (.n 0) (.cons (.n 0) (.cons (.n 0) (.cons (.n 0) (.cons (.n 0) (.cons (.n 0) (.cons (.n 0) (.cons (.n 0) (.cons (.n 0) (.cons (.n 0) 
  (.cons (.n 0) (.cons (.n 0) (.cons (.n 0) .nil)))))))))))))))))) .nil) (.cons none none (.st 18 (.t x6x) (.t x23x)) (.cons (some x7x) none (.mv (.c (.n 15))) .nil)))) .ret) 
  .skip)) (.seq (.seq (.reg (.cons (some x24x) none (.mv (.t x2x)) (.cons (some x25x) none (.fad 2 (.t x3x)) (.cons (some x26x) none (.ixa 16 1 (.t x25x) (.t x24x)) (.cons (some 
  x27x) none (.ld 1 false (.t x26x)) (.cons (some x28x) none (.bin .neq (.t x27x) (.c (.n 0))) (.cons (some x29x) none (.mv (.t x28x)) (.cons (some x30x) (some (.mk x29x false)) 
  (.mv (.t x8x)) (.cons (some x31x) (some (.mk x29x false)) (.fad 2 (.t x3x)) (.cons (some x32x) (some (.mk x29x false)) (.ixa 16 1 (.t x31x) (.t x30x)) (.cons (some x33x) (some 
  (.mk x29x false)) (.ld 1 false (.t x32x)) (.cons (some x34x) (some (.mk x29x false)) (.bin .neq (.t x33x) (.c (.n 0))) (.cons (some x35x) none (.pick (.t x29x) (.c (.b true)) (.t 
  x34x)) .nil))))))))))))) (.cond (.t x35x) (.seq (.reg (.cons (some x36x) none (.build (.cons (.n 0) (.cons (.b false) (.cons (.n 0) (.cons (.n 0) (.cons (.n 0) (.cons (.n 0) 
  (.cons (.n 0) (.cons (.n 0) (.cons (.n 0) (.cons (.n 0) (.cons (.n 0) (.cons (.n 0) (.cons (.n 0) (.cons (.n 0) (.cons (.n 0) (.cons (.n 0) (.cons (.n 0) (.cons (.n 0) 
  .nil)))))))))))))))))) .nil) (.cons none none (.st 18 (.t x6x) (.t x36x)) (.cons (some x7x) none (.mv (.c (.n 16))) .nil)))) .ret) .skip)) (.seq (.reg (.cons (some x37x) none 
  (.mv (.t x2x)) (.cons (some x38x) none (.mv (.t x8x)) (.cons (some x39x) none (.mv (.t x1x)) (.cons (some x40x) none (.mv (.t x1x)) (.cons (some x41x) none (.fad 2 (.t x3x)) 
  (.cons (some x42x) none (.ixa 16 1 (.t x41x) (.t x37x)) (.cons none none (.st 1 (.t x42x) (.t x39x)) (.cons (some x43x) none (.fad 2 (.t x3x)) (.cons (some x44x) none (.ixa 16 1 
  (.t x43x) (.t x38x)) (.cons none none (.st 1 (.t x44x) (.t x40x)) .nil))))))))))) (.seq (.reg (.cons (some x45x) none (.ld 18 true (.t x3x)) (.cons none none (.st 18 (.t x6x) (.t 
  x45x)) (.cons (some x7x) none (.mv (.c (.n 0))) .nil)))) .ret))))))) [(.cell x6x 18 true), (.tmp x7x)])
theorem cc59 : compF Try.prog drops true true Try.f59 = some i59 := by kernel_rfl
noncomputable def i60 : FnI := (.mk true true (.seq (.reg (.cons (some x2x) none (.box 81 (.t x0x)) (.cons (some x4x) none (.mv (.c (.b false))) .nil))) (.seq (.reg (.cons (some x5x) none (.mv (.t x1x)) (.cons 
  (some x6x) none (.bin .geq (.t x5x) (.c (.n 0))) (.cons (some x7x) none (.mv (.t x6x)) (.cons (some x8x) (some (.mk x7x true)) (.mv (.t x1x)) (.cons (some x9x) (some (.mk x7x 
  true)) (.ld 18 true (.t x2x)) (.cons (some x10x) (some (.mk x7x true)) (.call 58 (.cons (.t x9x) .nil)) (.cons (some x11x) (some (.mk x7x true)) (.bin .lss (.t x8x) (.t x10x)) 
  (.cons (some x12x) none (.pick (.t x7x) (.t x11x) (.c (.b false))) (.cons (some x4x) none (.mv (.t x12x)) .nil)))))))))) .ret)) [(.tmp x4x)])
theorem cc60 : compF Try.prog drops true true Try.f60 = some i60 := by kernel_rfl
noncomputable def i61 : FnI := (.mk true true (.seq (.reg (.cons (some x2x) none (.box 36 (.t x0x)) (.cons (some x4x) none (.alloc 81 (.cons (.n 0) (.cons (.b false) (.cons (.n 0) (.cons (.n 0) (.cons (.n 0) 
  (.cons (.n 0) (.cons (.n 0) (.cons (.n 0) (.cons (.n 0) (.cons (.n 0) (.cons (.n 0) (.cons (.n 0) (.cons (.n 0) (.cons (.n 0) (.cons (.n 0) (.cons (.n 0) (.cons (.n 0) (.cons (.n 
  0) .nil)))))))))))))))))) 18) (.cons (some x5x) none (.mv (.c (.n 0))) .nil)))) (.seq (.reg (.cons (some x9x) none (.ld 3 true (.t x2x)) (.cons (some x10x) none (.call 49 (.cons 
  (.t x9x) .nil)) (.cons (some x8x) none (.mv (.t x10x)) (.cons (some x11x) none (.ext 0 (.t x8x)) (.cons (some x12x) none (.ext 1 (.t x8x)) (.cons (some x6x) none (.alloc 81 
  (.cons (.n 0) (.cons (.b false) (.cons (.n 0) (.cons (.n 0) (.cons (.n 0) (.cons (.n 0) (.cons (.n 0) (.cons (.n 0) (.cons (.n 0) (.cons (.n 0) (.cons (.n 0) (.cons (.n 0) (.cons 
  (.n 0) (.cons (.n 0) (.cons (.n 0) (.cons (.n 0) (.cons (.n 0) (.cons (.n 0) .nil)))))))))))))))))) 18) (.cons none none (.st 18 (.t x6x) (.t x11x)) (.cons (some x7x) none (.mv 
  (.t x12x)) .nil))))))))) (.seq (.seq (.reg (.cons (some x13x) none (.mv (.t x7x)) (.cons (some x14x) none (.bin .neq (.t x13x) (.c (.n 0))) .nil))) (.cond (.t x14x) (.seq (.reg 
  (.cons (some x15x) none (.build (.cons (.n 0) (.cons (.b false) (.cons (.n 0) (.cons (.n 0) (.cons (.n 0) (.cons (.n 0) (.cons (.n 0) (.cons (.n 0) (.cons (.n 0) (.cons (.n 0) 
  (.cons (.n 0) (.cons (.n 0) (.cons (.n 0) (.cons (.n 0) (.cons (.n 0) (.cons (.n 0) (.cons (.n 0) (.cons (.n 0) .nil)))))))))))))))))) .nil) (.cons (some x16x) none (.mv (.t 
  x7x)) (.cons none none (.st 18 (.t x4x) (.t x15x)) (.cons (some x5x) none (.mv (.t x16x)) .nil))))) .ret) .skip)) (.seq (.seq (.reg (.cons (some x17x) none (.ld 18 true (.t x6x)) 
  (.cons (some x18x) none (.mv (.t x1x)) (.cons (some x19x) none (.call 56 (.cons (.t x17x) (.cons (.t x18x) .nil))) (.cons (some x20x) none (.not (.t x19x)) .nil))))) (.cond (.t 
  x20x) (.seq (.reg (.cons (some x21x) none (.build (.cons (.n 0) (.cons (.b false) (.cons (.n 0) (.cons (.n 0) (.cons (.n 0) (.cons (.n 0) (.cons (.n 0) (.cons (.n 0) (.cons (.n 
  0) (.cons (.n 0) (.cons (.n 0) (.cons (.n 0) (.cons (.n 0) (.cons (.n 0) (.cons (.n 0) (.cons (.n 0) (.cons (.n 0) (.cons (.n 0) .nil)))))))))))))))))) .nil) (.cons none none 
  (.st 18 (.t x4x) (.t x21x)) (.cons (some x5x) none (.mv (.c (.n 2))) .nil)))) .ret) .skip)) (.seq (.seq (.reg (.cons (some x22x) none (.fad 2 (.t x6x)) (.cons (some x23x) none 
  (.ld 16 true (.t x22x)) (.cons (some x24x) none (.mv (.t x1x)) (.cons (some x25x) none (.call 57 (.cons (.t x23x) (.cons (.t x24x) .nil))) (.cons (some x26x) none (.not (.t 
  x25x)) .nil)))))) (.cond (.t x26x) (.seq (.reg (.cons (some x27x) none (.build (.cons (.n 0) (.cons (.b false) (.cons (.n 0) (.cons (.n 0) (.cons (.n 0) (.cons (.n 0) (.cons (.n 
  0) (.cons (.n 0) (.cons (.n 0) (.cons (.n 0) (.cons (.n 0) (.cons (.n 0) (.cons (.n 0) (.cons (.n 0) (.cons (.n 0) (.cons (.n 0) (.cons (.n 0) (.cons (.n 0) 
  .nil)))))))))))))))))) .nil) (.cons none none (.st 18 (.t x4x) (.t x27x)) (.cons (some x5x) none (.mv (.c (.n 12))) .nil)))) .ret) .skip)) (.seq (.reg (.cons (some x28x) none 
  (.ld 18 true (.t x6x)) (.cons none none (.st 18 (.t x4x) (.t x28x)) (.cons (some x5x) none (.mv (.c (.n 0))) .nil)))) .ret)))))) [(.cell x4x 18 true), (.tmp x5x)])
theorem cc61 : compF Try.prog drops true true Try.f61 = some i61 := by kernel_rfl
noncomputable def i62 : FnI := (.mk true false (.seq (.reg (.cons (some x2x) none (.box 81 (.t x0x)) (.cons (some x4x) none (.mv (.c .ns)) .nil))) (.seq (.reg (.cons (some x8x) none (.ld 18 true (.t x2x)) (.cons 
  (some x9x) none (.mv (.t x1x)) (.cons (some x10x) none (.call 64 (.cons (.t x8x) (.cons (.t x9x) .nil))) (.cons (some x7x) none (.mv (.t x10x)) (.cons (some x11x) none (.ext 0 
  (.t x7x)) (.cons (some x12x) none (.ext 1 (.t x7x)) (.cons (some x5x) none (.mv (.t x11x)) (.cons (some x6x) none (.mv (.t x12x)) .nil))))))))) (.seq (.reg (.cons (some x13x) 
  none (.fad 2 (.t x2x)) (.cons (some x14x) none (.mv (.t x5x)) (.cons (some x15x) none (.bin .add (.t x14x) (.c (.n 1))) (.cons (some x16x) none (.mv (.t x6x)) (.cons (some x17x) 
  none (.sla 16 1 (.t x13x) (some (.t x15x)) (some (.t x16x)) none) (.cons (some x18x) none (.call 46 (.cons (.t x17x) .nil)) (.cons (some x4x) none (.mv (.t x18x)) .nil)))))))) 
  .ret))) [(.tmp x4x)])
theorem cc62 : compF Try.prog drops true false Try.f62 = some i62 := by kernel_rfl
noncomputable def i63 : FnI := (.mk true false (.seq (.reg (.cons (some x4x) none (.mv (.c .ns)) .nil)) (.seq (.reg (.cons (some x5x) none (.mv (.c .ns)) .nil)) (.seq (.seq (.reg (.cons (some x8x) none (.mv (.t 
  x0x)) (.cons (some x9x) none (.len (.t x8x)) (.cons (some x10x) none (.mv (.c (.n 0))) .nil)))) (.block 0 (.loop (.seq (.reg (.cons (some x11x) none (.bin .lss (.t x10x) (.t 
  x9x)) .nil)) (.seq (.cond (.t x11x) .skip (.exit 0)) (.seq (.block 1 (.seq (.reg (.cons (some x12x) none (.mv (.t x10x)) (.cons (some x13x) none (.ixs 1 (.t x8x) (.t x10x)) 
  (.cons (some x14x) none (.ld 1 false (.t x13x)) (.cons (some x6x) none (.mv (.t x12x)) (.cons (some x7x) none (.mv (.t x14x)) .nil)))))) (.seq (.reg (.cons (some x15x) none (.mv 
  (.t x7x)) (.cons (some x16x) none (.mv (.t x1x)) (.cons (some x17x) none (.bin .eql (.t x15x) (.t x16x)) .nil)))) (.cond (.t x17x) (.reg (.cons (some x18x) none (.mv (.t x5x)) 
  (.cons (some x19x) none (.mv (.t x6x)) (.cons (some x20x) none (.bsl 3 1 1 (.cons (.n 0) .nil) (.cons 0 1 (.t x19x) .nil)) (.cons (some x21x) none (.app 3 1 8 (.t x18x) (.t 
  x20x)) (.cons (some x5x) none (.mv (.t x21x)) .nil)))))) .skip)))) (.reg (.cons (some x22x) none (.bin .add (.t x10x) (.c (.n 1))) (.cons (some x10x) none (.mv (.t x22x)) 
  .nil))))))))) (.seq (.reg (.cons (some x23x) none (.mv (.t x5x)) (.cons (some x4x) none (.mv (.t x23x)) .nil))) .ret)))) [(.tmp x4x)])
theorem cc63 : compF Try.prog drops true false Try.f63 = some i63 := by kernel_rfl
noncomputable def i64 : FnI := (.mk true true (.seq (.reg (.cons (some x2x) none (.box 81 (.t x0x)) (.cons (some x4x) none (.mv (.c (.n 0))) (.cons (some x5x) none (.mv (.c (.n 0))) .nil)))) (.seq (.reg (.cons 
  (some x6x) none (.fad 2 (.t x2x)) (.cons (some x7x) none (.sla 16 1 (.t x6x) none none none) (.cons (some x8x) none (.mv (.t x1x)) (.cons (some x9x) none (.call 47 (.cons (.t 
  x7x) (.cons (.t x8x) .nil))) (.cons (some x4x) none (.mv (.t x9x)) .nil)))))) (.seq (.reg (.cons (some x10x) none (.mv (.t x4x)) (.cons (some x11x) none (.mv (.t x4x)) (.cons 
  (some x12x) none (.ld 18 true (.t x2x)) (.cons (some x13x) none (.mv (.t x1x)) (.cons (some x14x) none (.call 85 (.cons (.t x12x) (.cons (.t x13x) .nil))) (.cons (some x15x) none 
  (.bin .add (.t x11x) (.t x14x)) (.cons (some x4x) none (.mv (.t x10x)) (.cons (some x5x) none (.mv (.t x15x)) .nil))))))))) .ret))) [(.tmp x4x), (.tmp x5x)])
theorem cc64 : compF Try.prog drops true true Try.f64 = some i64 := by kernel_rfl
noncomputable def i85 : FnI := (.mk true true (.seq (.reg (.cons (some x2x) none (.box 81 (.t x0x)) (.cons (some x4x) none (.mv (.c (.n 0))) .nil))) (.seq (.seq (.reg (.cons (some x5x) none (.fad 1 (.t x2x)) 
  (.cons (some x6x) none (.ld 1 false (.t x5x)) .nil))) (.cond (.t x6x) (.seq (.reg (.cons (some x7x) none (.mv (.t x1x)) (.cons (some x8x) none (.bin .add (.t x7x) (.c (.n 1))) 
  (.cons (some x4x) none (.mv (.t x8x)) .nil)))) .ret) .skip)) (.seq (.reg (.cons (some x9x) none (.mv (.t x1x)) (.cons (some x4x) none (.mv (.t x9x)) .nil))) .ret))) [(.tmp x4x)])
theorem cc85 : compF Try.prog drops true true Try.f85 = some i85 := by kernel_rfl
noncomputable def i86 : FnI := (.mk true true (.seq (.reg (.cons (some x2x) none (.mv (.c (.b false))) .nil)) (.seq (.reg (.cons (some x3x) none (.mv (.t x0x)) (.cons (some x4x) none (.mv (.t x0x)) (.cons (some 
  x5x) none (.bin .neq (.t x3x) (.t x4x)) (.cons (some x2x) none (.mv (.t x5x)) .nil))))) .ret)) [(.tmp x2x)])
theorem cc86 : compF Try.prog drops true true Try.f86 = some i86 := by kernel_rfl
noncomputable def i87 : FnI := (.mk true true (.seq (.reg (.cons (some x2x) none (.box 81 (.t x0x)) (.cons (some x4x) none (.mv (.c (.n 0))) .nil))) (.seq (.reg (.cons (some x6x) none (.fad 2 (.t x2x)) (.cons 
  (some x7x) none (.sla 16 1 (.t x6x) none none none) (.cons (some x8x) none (.mv (.t x1x)) (.cons (some x9x) none (.call 63 (.cons (.t x7x) (.cons (.t x8x) .nil))) (.cons (some 
  x5x) none (.mv (.t x9x)) .nil)))))) (.seq (.block 0 (.seq (.reg (.cons (some x11x) none (.mv (.t x5x)) (.cons (some x12x) none (.len (.t x11x)) (.cons (some x13x) none (.bin .gtr 
  (.t x12x) (.c (.n 2))) (.cons (some x10x) none (.mv (.t x13x)) .nil))))) (.cond (.t x10x) (.seq (.reg (.cons (some x4x) none (.mv (.c (.n 3))) .nil)) .ret) (.seq (.reg (.cons 
  (some x15x) none (.mv (.t x5x)) (.cons (some x16x) none (.len (.t x15x)) (.cons (some x17x) none (.bin .eql (.t x16x) (.c (.n 1))) (.cons (some x14x) none (.mv (.t x17x)) 
  .nil))))) (.cond (.t x14x) (.seq (.reg (.cons (some x4x) none (.mv (.c (.n 21))) .nil)) .ret) (.seq (.draw [(.mk (some x19x) none true [] false [] [] [x5x] (.mv (.t x5x)) false 
  [] [] []), (.mk (some x20x) none true [] false [true] [] [x19x] (.len (.t x19x)) false [] [] []), (.mk (some x21x) none true [] false [true, true] [] [x20x] (.bin .eql (.t x20x) 
  (.c (.n 2))) false [] [] []), (.mk (some x22x) none true [] false [true, true, true] [] [x21x] (.mv (.t x21x)) false [] [] []), (.mk (some x23x) (some (.mk x22x true)) true [] 
  false [true, true, true, true] [] [x22x, x5x] (.mv (.t x5x)) false [] [] []), (.mk (some x24x) (some (.mk x22x true)) true [] false [true, true, true, true, true] [] [x22x, x23x] 
  (.ixs 1 (.t x23x) (.c (.n 1))) false [] [] []), (.mk (some x25x) (some (.mk x22x true)) false [] false [true, true, true, true, true, true] [] [x22x, x24x] (.ld 1 false (.t 
  x24x)) false [] [] []), (.mk (some x26x) (some (.mk x22x true)) true [] false [false, false, false, true, true, true, true] [] [x22x, x5x] (.mv (.t x5x)) false [] [] []), (.mk 
  (some x27x) (some (.mk x22x true)) true [] false [true, false, false, false, true, true, true, true] [] [x22x, x26x] (.ixs 1 (.t x26x) (.c (.n 0))) false [] [] []), (.mk (some 
  x28x) (some (.mk x22x true)) false [] false [true, true, false, false, false, true, true, true, true] [] [x22x, x27x] (.ld 1 false (.t x27x)) false [] [] []), (.mk (some x29x) 
  (some (.mk x22x true)) true [] false [true, true, true, true, true, true, true, true, true, true] [] [x22x, x25x, x28x] (.bin .sub (.t x25x) (.t x28x)) false [] [] []), (.mk 
  (some x30x) (some (.mk x22x true)) false [] false [false, false, false, false, false, false, false, true, true, true, true] [] [x22x, x2x] (.ld 18 true (.t x2x)) false [] [] []), 
  (.mk (some x31x) (some (.mk x22x true)) true [] false [false, false, false, false, false, false, false, false, true, true, true, true] [] [x22x, x1x] (.mv (.t x1x)) false [] [] 
  []), (.mk (some x32x) (some (.mk x22x true)) false [] false [true, true, false, false, false, false, false, false, false, true, true, true, true] [] [x22x, x30x, x31x] (.call 85 
  (.cons (.t x30x) (.cons (.t x31x) .nil))) false [] [] []), (.mk (some x33x) (some (.mk x22x true)) true [] false [true, true, true, true, true, true, true, true, true, true, 
  true, true, true, true] [] [x22x, x29x, x32x] (.bin .neq (.t x29x) (.t x32x)) false [] [] []), (.mk (some x34x) none true [] false [true, true, true, true, true, true, true, 
  true, true, true, true, true, true, true, true] [] [x22x, x33x] (.pick (.t x22x) (.t x33x) (.c (.b false))) false [] [] []), (.mk (some x18x) none true [] false [true, true, 
  true, true, true, true, true, true, true, true, true, true, true, true, true, true] [] [x34x] (.mv (.t x34x)) false [] [] [])]) (.cond (.t x18x) (.seq (.reg (.cons (some x4x) 
  none (.mv (.c (.n 13))) .nil)) .ret) .skip))))))) (.seq (.reg (.cons (some x4x) none (.mv (.c (.n 0))) .nil)) .ret)))) [(.tmp x4x)])
theorem cc87 : compF Try.prog drops true true Try.f87 = some i87 := by kernel_rfl
noncomputable def i88 : FnI := (compF Try.prog drops false false Try.f88).getD (.mk false false .skip [])
theorem cc88 : compF Try.prog drops false false Try.f88 = some i88 := by kernel_rfl
noncomputable def i89 : FnI := (.mk true true (.seq (.reg (.cons (some x1x) none (.box 81 (.t x0x)) (.cons (some x2x) none (.mv (.c (.n 0))) .nil))) (.seq (.reg (.cons (some x3x) none (.mv (.c (.n 0))) .nil)) 
  (.seq (.block 0 (.loop (.seq (.seq (.reg (.cons (some x4x) none (.mv (.t x3x)) (.cons (some x5x) none (.ld 18 true (.t x1x)) (.cons (some x6x) none (.call 58 (.cons (.t x5x) 
  .nil)) (.cons (some x7x) none (.bin .lss (.t x4x) (.t x6x)) (.cons (some x8x) none (.mv (.t x7x)) (.cons (some x9x) (some (.mk x8x true)) (.mv (.t x3x)) (.cons (some x10x) (some 
  (.mk x8x true)) (.fad 2 (.t x1x)) (.cons (some x11x) (some (.mk x8x true)) (.ixa 16 1 (.t x10x) (.t x9x)) (.cons (some x12x) (some (.mk x8x true)) (.ld 1 false (.t x11x)) (.cons 
  (some x13x) (some (.mk x8x true)) (.bin .neq (.t x12x) (.c (.n 0))) (.cons (some x14x) none (.pick (.t x8x) (.t x13x) (.c (.b false))) .nil)))))))))))) (.cond (.t x14x) .skip 
  (.exit 0))) (.block 1 (.reg (.cons (some x15x) none (.mv (.t x3x)) (.cons (some x16x) none (.bin .add (.t x15x) (.c (.n 1))) (.cons (some x3x) none (.mv (.t x16x)) .nil)))))))) 
  (.seq (.reg (.cons (some x17x) none (.mv (.t x3x)) (.cons (some x2x) none (.mv (.t x17x)) .nil))) .ret)))) [(.tmp x2x)])
theorem cc89 : compF Try.prog drops true true Try.f89 = some i89 := by kernel_rfl
noncomputable def i90 : FnI := (.mk true true (.seq (.reg (.cons (some x2x) none (.box 79 (.t x0x)) (.cons (some x4x) none (.alloc 79 (.cons (.n 0) (.cons (.n 0) (.cons (.n 0) (.cons (.n 0) (.cons (.n 0) (.cons 
  (.n 0) (.cons (.n 0) (.cons (.n 0) (.cons (.n 0) (.cons (.n 0) (.cons (.n 0) (.cons (.n 0) (.cons (.n 0) (.cons (.n 0) (.cons (.n 0) (.cons (.n 0) .nil)))))))))))))))) 16) 
  .nil))) (.seq (.seq (.reg (.cons (some x7x) none (.ld 16 true (.t x2x)) (.cons (some x8x) none (.mv (.c (.n 0))) .nil))) (.block 0 (.loop (.seq (.reg (.cons (some x9x) none (.bin 
  .lss (.t x8x) (.c (.n 16))) .nil)) (.seq (.cond (.t x9x) .skip (.exit 0)) (.seq (.block 1 (.seq (.reg (.cons (some x10x) none (.mv (.t x8x)) (.cons (some x11x) none (.idx 16 1 
  false (.t x7x) (.t x8x)) (.cons (some x5x) none (.mv (.t x10x)) (.cons (some x6x) none (.mv (.t x11x)) .nil))))) (.seq (.reg (.cons (some x12x) none (.mv (.t x6x)) (.cons (some 
  x13x) none (.mv (.t x1x)) (.cons (some x14x) none (.bin .eql (.t x12x) (.t x13x)) .nil)))) (.cond (.t x14x) (.reg (.cons (some x15x) none (.mv (.t x5x)) (.cons (some x16x) none 
  (.ixa 16 1 (.t x2x) (.t x15x)) (.cons none none (.st 1 (.t x16x) (.c (.n 0))) .nil)))) .skip)))) (.reg (.cons (some x17x) none (.bin .add (.t x8x) (.c (.n 1))) (.cons (some x8x) 
  none (.mv (.t x17x)) .nil))))))))) (.seq (.reg (.cons (some x18x) none (.ld 16 true (.t x2x)) (.cons none none (.st 16 (.t x4x) (.t x18x)) .nil))) .ret))) [(.cell x4x 16 true)])
theorem cc90 : compF Try.prog drops true true Try.f90 = some i90 := by kernel_rfl
noncomputable def i91 : FnI := (.mk false false (.seq (.reg (.cons (some x4x) none (.mv (.t x0x)) (.cons (some x5x) none (.len (.t x4x)) (.cons (some x6x) none (.bin .sub (.t x5x) (.c (.n 1))) (.cons (some x2x) 
  none (.mv (.c (.n 0))) (.cons (some x3x) none (.mv (.t x6x)) .nil)))))) (.block 0 (.loop (.seq (.seq (.reg (.cons (some x7x) none (.mv (.t x2x)) (.cons (some x8x) none (.mv (.t 
  x3x)) (.cons (some x9x) none (.bin .lss (.t x7x) (.t x8x)) .nil)))) (.cond (.t x9x) .skip (.exit 0))) (.seq (.block 1 (.draw [(.mk (some x14x) none true [] false [] [] [x0x] (.mv 
  (.t x0x)) false [] [] []), (.mk (some x15x) none true [] false [false] [] [x2x] (.mv (.t x2x)) false [] [] []), (.mk (some x16x) none true [] false [false, false] [x26x] [x0x] 
  (.mv (.t x0x)) false [] [] []), (.mk (some x17x) none true [] false [false, false, false] [x26x] [x3x] (.mv (.t x3x)) false [] [] []), (.mk (some x18x) none true [] false [false, 
  false, false, false] [] [x0x] (.mv (.t x0x)) false [] [] []), (.mk (some x19x) none true [] false [false, false, false, false, false] [] [x3x] (.mv (.t x3x)) false [] [] []), 
  (.mk (some x20x) none true [] false [true, true, false, false, false, false] [] [x18x, x19x] (.ixs 1 (.t x18x) (.t x19x)) false [] [] []), (.mk (some x21x) none false [] false 
  [true, true, true, false, false, false, false] [] [x20x] (.ld 1 false (.t x20x)) false [] [] []), (.mk (some x22x) none true [] false [false, false, false, false, false, false, 
  false, false] [] [x0x] (.mv (.t x0x)) false [] [] []), (.mk (some x23x) none true [] false [false, false, false, false, false, false, false, false, false] [] [x2x] (.mv (.t x2x)) 
  false [] [] []), (.mk (some x24x) none true [] false [true, true, false, false, false, false, false, false, false, false] [] [x22x, x23x] (.ixs 1 (.t x22x) (.t x23x)) false [] [] 
  []), (.mk (some x25x) none false [] false [true, true, true, false, false, false, false, false, false, false, false] [] [x24x] (.ld 1 false (.t x24x)) false [] [] []), (.mk (some 
  x26x) none true [] false [true, true, true, true, true, true, true, true, false, false, true, true] [] [x14x, x15x] (.ixs 1 (.t x14x) (.t x15x)) false [] [] []), (.mk none none 
  false [x26x] false [true, true, true, true, true, true, true, true, true, false, false, true, true] [] [x26x, x21x] (.st 1 (.t x26x) (.t x21x)) false [] [] []), (.mk (some x27x) 
  none true [] false [true, true, true, true, true, true, true, true, true, true, true, true, true, true] [] [x16x, x17x] (.ixs 1 (.t x16x) (.t x17x)) false [] [] []), (.mk none 
  none false [x27x] false [true, true, true, true, true, true, true, true, true, true, true, true, true, true, true] [] [x27x, x25x] (.st 1 (.t x27x) (.t x25x)) false [] [] [])])) 
  (.reg (.cons (some x10x) none (.mv (.t x2x)) (.cons (some x11x) none (.bin .add (.t x10x) (.c (.n 1))) (.cons (some x12x) none (.mv (.t x3x)) (.cons (some x13x) none (.bin .sub 
  (.t x12x) (.c (.n 1))) (.cons (some x2x) none (.mv (.t x11x)) (.cons (some x3x) none (.mv (.t x13x)) .nil)))))))))))) [])
theorem cc91 : compF Try.prog drops false false Try.f91 = some i91 := by kernel_rfl
noncomputable def fs91 : List (Nat × FnI) := (91, i91) :: []
theorem l91 : Listed Try.prog fs91 := listed_cons Try.func91 cc91 listed_nil (by decide)
noncomputable def fs90 : List (Nat × FnI) := (90, i90) :: fs91
theorem l90 : Listed Try.prog fs90 := listed_cons Try.func90 cc90 l91 (by decide)
noncomputable def fs89 : List (Nat × FnI) := (89, i89) :: fs90
theorem l89 : Listed Try.prog fs89 := listed_cons Try.func89 cc89 l90 (by decide)
noncomputable def fs88 : List (Nat × FnI) := (88, i88) :: fs89
theorem l88 : Listed Try.prog fs88 := listed_cons Try.func88 cc88 l89 (by decide)
noncomputable def fs87 : List (Nat × FnI) := (87, i87) :: fs88
theorem l87 : Listed Try.prog fs87 := listed_cons Try.func87 cc87 l88 (by decide)
noncomputable def fs86 : List (Nat × FnI) := (86, i86) :: fs87
theorem l86 : Listed Try.prog fs86 := listed_cons Try.func86 cc86 l87 (by decide)
noncomputable def fs85 : List (Nat × FnI) := (85, i85) :: fs86
theorem l85 : Listed Try.prog fs85 := listed_cons Try.func85 cc85 l86 (by decide)
noncomputable def fs64 : List (Nat × FnI) := (64, i64) :: fs85
theorem l64 : Listed Try.prog fs64 := listed_cons Try.func64 cc64 l85 (by decide)
noncomputable def fs63 : List (Nat × FnI) := (63, i63) :: fs64
theorem l63 : Listed Try.prog fs63 := listed_cons Try.func63 cc63 l64 (by decide)
noncomputable def fs62 : List (Nat × FnI) := (62, i62) :: fs63
theorem l62 : Listed Try.prog fs62 := listed_cons Try.func62 cc62 l63 (by decide)
noncomputable def fs61 : List (Nat × FnI) := (61, i61) :: fs62
theorem l61 : Listed Try.prog fs61 := listed_cons Try.func61 cc61 l62 (by decide)
noncomputable def fs60 : List (Nat × FnI) := (60, i60) :: fs61
theorem l60 : Listed Try.prog fs60 := listed_cons Try.func60 cc60 l61 (by decide)
noncomputable def fs59 : List (Nat × FnI) := (59, i59) :: fs60
theorem l59 : Listed Try.prog fs59 := listed_cons Try.func59 cc59 l60 (by decide)
noncomputable def fs58 : List (Nat × FnI) := (58, i58) :: fs59
theorem l58 : Listed Try.prog fs58 := listed_cons Try.func58 cc58 l59 (by decide)
noncomputable def fs57 : List (Nat × FnI) := (57, i57) :: fs58
theorem l57 : Listed Try.prog fs57 := listed_cons Try.func57 cc57 l58 (by decide)
noncomputable def fs56 : List (Nat × FnI) := (56, i56) :: fs57
theorem l56 : Listed Try.prog fs56 := listed_cons Try.func56 cc56 l57 (by decide)
noncomputable def fs55 : List (Nat × FnI) := (55, i55) :: fs56
theorem l55 : Listed Try.prog fs55 := listed_cons Try.func55 cc55 l56 (by decide)
noncomputable def fs54 : List (Nat × FnI) := (54, i54) :: fs55
theorem l54 : Listed Try.prog fs54 := listed_cons Try.func54 cc54 l55 (by decide)
noncomputable def fs53 : List (Nat × FnI) := (53, i53) :: fs54
theorem l53 : Listed Try.prog fs53 := listed_cons Try.func53 cc53 l54 (by decide)
noncomputable def fs52 : List (Nat × FnI) := (52, i52) :: fs53
theorem l52 : Listed Try.prog fs52 := listed_cons Try.func52 cc52 l53 (by decide)
noncomputable def fs51 : List (Nat × FnI) := (51, i51) :: fs52
theorem l51 : Listed Try.prog fs51 := listed_cons Try.func51 cc51 l52 (by decide)
noncomputable def fs50 : List (Nat × FnI) := (50, i50) :: fs51
theorem l50 : Listed Try.prog fs50 := listed_cons Try.func50 cc50 l51 (by decide)
noncomputable def fs49 : List (Nat × FnI) := (49, i49) :: fs50
theorem l49 : Listed Try.prog fs49 := listed_cons Try.func49 cc49 l50 (by decide)
noncomputable def fs48 : List (Nat × FnI) := (48, i48) :: fs49
theorem l48 : Listed Try.prog fs48 := listed_cons Try.func48 cc48 l49 (by decide)
noncomputable def fs47 : List (Nat × FnI) := (47, i47) :: fs48
theorem l47 : Listed Try.prog fs47 := listed_cons Try.func47 cc47 l48 (by decide)
noncomputable def fs46 : List (Nat × FnI) := (46, i46) :: fs47
theorem l46 : Listed Try.prog fs46 := listed_cons Try.func46 cc46 l47 (by decide)
noncomputable def fs45 : List (Nat × FnI) := (45, i45) :: fs46
theorem l45 : Listed Try.prog fs45 := listed_cons Try.func45 cc45 l46 (by decide)
noncomputable def fs44 : List (Nat × FnI) := (44, i44) :: fs45
theorem l44 : Listed Try.prog fs44 := listed_cons Try.func44 cc44 l45 (by decide)
noncomputable def fs27 : List (Nat × FnI) := (27, i27) :: fs44
theorem l27 : Listed Try.prog fs27 := listed_cons Try.func27 cc27 l44 (by decide)
noncomputable def fs26 : List (Nat × FnI) := (26, i26) :: fs27
theorem l26 : Listed Try.prog fs26 := listed_cons Try.func26 cc26 l27 (by decide)
noncomputable def fs25 : List (Nat × FnI) := (25, i25) :: fs26
theorem l25 : Listed Try.prog fs25 := listed_cons Try.func25 cc25 l26 (by decide)
noncomputable def fs24 : List (Nat × FnI) := (24, i24) :: fs25
theorem l24 : Listed Try.prog fs24 := listed_cons Try.func24 cc24 l25 (by decide)
noncomputable def fs23 : List (Nat × FnI) := (23, i23) :: fs24
theorem l23 : Listed Try.prog fs23 := listed_cons Try.func23 cc23 l24 (by decide)
noncomputable def fs22 : List (Nat × FnI) := (22, i22) :: fs23
theorem l22 : Listed Try.prog fs22 := listed_cons Try.func22 cc22 l23 (by decide)
noncomputable def fs21 : List (Nat × FnI) := (21, i21) :: fs22
theorem l21 : Listed Try.prog fs21 := listed_cons Try.func21 cc21 l22 (by decide)
noncomputable def fs20 : List (Nat × FnI) := (20, i20) :: fs21
theorem l20 : Listed Try.prog fs20 := listed_cons Try.func20 cc20 l21 (by decide)
noncomputable def fs19 : List (Nat × FnI) := (19, i19) :: fs20
theorem l19 : Listed Try.prog fs19 := listed_cons Try.func19 cc19 l20 (by decide)
noncomputable def fs18 : List (Nat × FnI) := (18, i18) :: fs19
theorem l18 : Listed Try.prog fs18 := listed_cons Try.func18 cc18 l19 (by decide)
noncomputable def fs17 : List (Nat × FnI) := (17, i17) :: fs18
theorem l17 : Listed Try.prog fs17 := listed_cons Try.func17 cc17 l18 (by decide)
noncomputable def fs16 : List (Nat × FnI) := (16, i16) :: fs17
theorem l16 : Listed Try.prog fs16 := listed_cons Try.func16 cc16 l17 (by decide)
noncomputable def fs15 : List (Nat × FnI) := (15, i15) :: fs16
theorem l15 : Listed Try.prog fs15 := listed_cons Try.func15 cc15 l16 (by decide)
noncomputable def fs14 : List (Nat × FnI) := (14, i14) :: fs15
theorem l14 : Listed Try.prog fs14 := listed_cons Try.func14 cc14 l15 (by decide)
noncomputable def fs13 : List (Nat × FnI) := (13, i13) :: fs14
theorem l13 : Listed Try.prog fs13 := listed_cons Try.func13 cc13 l14 (by decide)
noncomputable def fs12 : List (Nat × FnI) := (12, i12) :: fs13
theorem l12 : Listed Try.prog fs12 := listed_cons Try.func12 cc12 l13 (by decide)
noncomputable def fs11 : List (Nat × FnI) := (11, i11) :: fs12
theorem l11 : Listed Try.prog fs11 := listed_cons Try.func11 cc11 l12 (by decide)
noncomputable def fs10 : List (Nat × FnI) := (10, i10) :: fs11
theorem l10 : Listed Try.prog fs10 := listed_cons Try.func10 cc10 l11 (by decide)
noncomputable def fs9 : List (Nat × FnI) := (9, i9) :: fs10
theorem l9 : Listed Try.prog fs9 := listed_cons Try.func9 cc9 l10 (by decide)
noncomputable def fs8 : List (Nat × FnI) := (8, i8) :: fs9
theorem l8 : Listed Try.prog fs8 := listed_cons Try.func8 cc8 l9 (by decide)
noncomputable def fs7 : List (Nat × FnI) := (7, i7) :: fs8
theorem l7 : Listed Try.prog fs7 := listed_cons Try.func7 cc7 l8 (by decide)
noncomputable def fs4 : List (Nat × FnI) := (4, i4) :: fs7
theorem l4 : Listed Try.prog fs4 := listed_cons Try.func4 cc4 l7 (by decide)
noncomputable def fs3 : List (Nat × FnI) := (3, i3) :: fs4
theorem l3 : Listed Try.prog fs3 := listed_cons Try.func3 cc3 l4 (by decide)
noncomputable def FS : List (Nat × FnI) := fs3
theorem listed : Listed Try.prog FS := l3
noncomputable def cmp : Nat → Code → Option IC := fun N c => compC Try.prog drops N c
noncomputable def PRT : FT := FT.of FS
noncomputable def EQ (W : FF → FF) (d : Nat) : FF := evQ cmp PRT W d
noncomputable def EF (d : Nat) : FF := EQ (fun G => G) d
theorem follows : Try.prog.follows .mixedOrders = true := by kernel_rfl
theorem EQ_ok {W : FF → FF} (hM : ∀ G, FF.mono G → (W G).mono) (hW : ∀ G, FOK Try.prog G → FOK Try.prog (W G)) (d : Nat) : FOK Try.prog (EQ W d) := evQ_sound follows listed hM hW d
theorem EQ_mono {W : FF → FF} (hM : ∀ G, FF.mono G → (W G).mono) (d : Nat) : (EQ W d).mono := evQ_mono _ _ hM d
theorem EF_ok (d : Nat) : FOK Try.prog (EF d) := EQ_ok (fun _ h => h) (fun _ h => h) d
theorem EF_mono (d : Nat) : (EF d).mono := EQ_mono (fun _ h => h) d
def zs64 : List Int := [0, 1, 56, 2, 57, 49, 28, 3, 61, 58, 42, 50, 38, 29, 17, 4, 62, 47, 59, 36, 45, 43, 51, 22, 53, 39, 33, 30, 24, 18, 12, 5, 63, 55, 48, 27, 60, 41, 37, 16, 46, 35, 44, 21, 52, 32, 23, 11, 54, 26, 40, 15, 34, 20, 31, 10, 25, 14, 19, 9, 13, 8, 7, 6]
noncomputable def tbH (el : TypeId) : Hp := tabH [(1, el, kL .u8 zs64)]
end Go.Proofs.Ytcgkcdgpmopdnaa.Ev
