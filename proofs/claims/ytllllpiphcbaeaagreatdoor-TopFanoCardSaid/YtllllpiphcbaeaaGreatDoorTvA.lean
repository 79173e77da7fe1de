/- TopFano: all of the law but its last lines, once; the two helpers cut down; what is left for each two. -/
import Derived.Test.YtllllpiphcbaeaaGreatDoorTvW
namespace Go.Proofs.YtllllpiphcbaeaaGreatDoor.Ev
set_option linter.unusedVariables false
set_option maxRecDepth 100000
open Go Go.Proofs Go.RowKit
def x80x : Pos := (.i (.o (.o (.o (.i (.o .h))))))
def x81x : Pos := (.o (.i (.o (.o (.i (.o .h))))))
def x82x : Pos := (.i (.i (.o (.o (.i (.o .h))))))
def x83x : Pos := (.o (.o (.i (.o (.i (.o .h))))))
def x84x : Pos := (.i (.o (.i (.o (.i (.o .h))))))
def x85x : Pos := (.o (.i (.i (.o (.i (.o .h))))))
def x86x : Pos := (.i (.i (.i (.o (.i (.o .h))))))
def x87x : Pos := (.o (.o (.o (.i (.i (.o .h))))))
def x88x : Pos := (.i (.o (.o (.i (.i (.o .h))))))
def x89x : Pos := (.o (.i (.o (.i (.i (.o .h))))))
def x90x : Pos := (.i (.i (.o (.i (.i (.o .h))))))
def x91x : Pos := (.o (.o (.i (.i (.i (.o .h))))))
def x92x : Pos := (.i (.o (.i (.i (.i (.o .h))))))
def x93x : Pos := (.o (.i (.i (.i (.i (.o .h))))))
def x94x : Pos := (.i (.i (.i (.i (.i (.o .h))))))
def x95x : Pos := (.o (.o (.o (.o (.o (.i .h))))))
def x96x : Pos := (.i (.o (.o (.o (.o (.i .h))))))
def x97x : Pos := (.o (.i (.o (.o (.o (.i .h))))))
def x98x : Pos := (.i (.i (.o (.o (.o (.i .h))))))
def x99x : Pos := (.o (.o (.i (.o (.o (.i .h))))))
def x100x : Pos := (.i (.o (.i (.o (.o (.i .h))))))
def x101x : Pos := (.o (.i (.i (.o (.o (.i .h))))))
def x102x : Pos := (.i (.i (.i (.o (.o (.i .h))))))
def x103x : Pos := (.o (.o (.o (.i (.o (.i .h))))))
def x104x : Pos := (.i (.o (.o (.i (.o (.i .h))))))
def x105x : Pos := (.o (.i (.o (.i (.o (.i .h))))))
def x106x : Pos := (.i (.i (.o (.i (.o (.i .h))))))
def x107x : Pos := (.o (.o (.i (.i (.o (.i .h))))))
def x108x : Pos := (.i (.o (.i (.i (.o (.i .h))))))
def x109x : Pos := (.o (.i (.i (.i (.o (.i .h))))))
def x110x : Pos := (.i (.i (.i (.i (.o (.i .h))))))
def x111x : Pos := (.o (.o (.o (.o (.i (.i .h))))))
def x112x : Pos := (.i (.o (.o (.o (.i (.i .h))))))
def x113x : Pos := (.o (.i (.o (.o (.i (.i .h))))))
def x114x : Pos := (.i (.i (.o (.o (.i (.i .h))))))
def x115x : Pos := (.o (.o (.i (.o (.i (.i .h))))))
def x116x : Pos := (.i (.o (.i (.o (.i (.i .h))))))
def x117x : Pos := (.o (.i (.i (.o (.i (.i .h))))))
def x118x : Pos := (.i (.i (.i (.o (.i (.i .h))))))
def x119x : Pos := (.o (.o (.o (.i (.i (.i .h))))))
def x120x : Pos := (.i (.o (.o (.i (.i (.i .h))))))
def x121x : Pos := (.o (.i (.o (.i (.i (.i .h))))))
def x122x : Pos := (.i (.i (.o (.i (.i (.i .h))))))
def x123x : Pos := (.o (.o (.i (.i (.i (.i .h))))))
def x124x : Pos := (.i (.o (.i (.i (.i (.i .h))))))
def x125x : Pos := (.o (.i (.i (.i (.i (.i .h))))))
def x126x : Pos := (.i (.i (.i (.i (.i (.i .h))))))
def x127x : Pos := (.o (.o (.o (.o (.o (.o (.o .h)))))))
def x128x : Pos := (.i (.o (.o (.o (.o (.o (.o .h)))))))
def x129x : Pos := (.o (.i (.o (.o (.o (.o (.o .h)))))))
def x130x : Pos := (.i (.i (.o (.o (.o (.o (.o .h)))))))
def x131x : Pos := (.o (.o (.i (.o (.o (.o (.o .h)))))))
def x132x : Pos := (.i (.o (.i (.o (.o (.o (.o .h)))))))
def x133x : Pos := (.o (.i (.i (.o (.o (.o (.o .h)))))))
def x134x : Pos := (.i (.i (.i (.o (.o (.o (.o .h)))))))
def x135x : Pos := (.o (.o (.o (.i (.o (.o (.o .h)))))))
def x136x : Pos := (.i (.o (.o (.i (.o (.o (.o .h)))))))
def x137x : Pos := (.o (.i (.o (.i (.o (.o (.o .h)))))))
def x138x : Pos := (.i (.i (.o (.i (.o (.o (.o .h)))))))
def x139x : Pos := (.o (.o (.i (.i (.o (.o (.o .h)))))))
def x140x : Pos := (.i (.o (.i (.i (.o (.o (.o .h)))))))
def x141x : Pos := (.o (.i (.i (.i (.o (.o (.o .h)))))))
def x142x : Pos := (.i (.i (.i (.i (.o (.o (.o .h)))))))
def x143x : Pos := (.o (.o (.o (.o (.i (.o (.o .h)))))))
def x144x : Pos := (.i (.o (.o (.o (.i (.o (.o .h)))))))
def x145x : Pos := (.o (.i (.o (.o (.i (.o (.o .h)))))))
def x146x : Pos := (.i (.i (.o (.o (.i (.o (.o .h)))))))
def x147x : Pos := (.o (.o (.i (.o (.i (.o (.o .h)))))))
def x148x : Pos := (.i (.o (.i (.o (.i (.o (.o .h)))))))
def x149x : Pos := (.o (.i (.i (.o (.i (.o (.o .h)))))))
def x150x : Pos := (.i (.i (.i (.o (.i (.o (.o .h)))))))
def x151x : Pos := (.o (.o (.o (.i (.i (.o (.o .h)))))))
def x152x : Pos := (.i (.o (.o (.i (.i (.o (.o .h)))))))
def x153x : Pos := (.o (.i (.o (.i (.i (.o (.o .h)))))))
def x154x : Pos := (.i (.i (.o (.i (.i (.o (.o .h)))))))
def x155x : Pos := (.o (.o (.i (.i (.i (.o (.o .h)))))))
def x156x : Pos := (.i (.o (.i (.i (.i (.o (.o .h)))))))
def x157x : Pos := (.o (.i (.i (.i (.i (.o (.o .h)))))))
def x158x : Pos := (.i (.i (.i (.i (.i (.o (.o .h)))))))
def x159x : Pos := (.o (.o (.o (.o (.o (.i (.o .h)))))))
def x160x : Pos := (.i (.o (.o (.o (.o (.i (.o .h)))))))
def x161x : Pos := (.o (.i (.o (.o (.o (.i (.o .h)))))))
def x162x : Pos := (.i (.i (.o (.o (.o (.i (.o .h)))))))
def x163x : Pos := (.o (.o (.i (.o (.o (.i (.o .h)))))))
def x164x : Pos := (.i (.o (.i (.o (.o (.i (.o .h)))))))
def x165x : Pos := (.o (.i (.i (.o (.o (.i (.o .h)))))))
def x166x : Pos := (.i (.i (.i (.o (.o (.i (.o .h)))))))
def x167x : Pos := (.o (.o (.o (.i (.o (.i (.o .h)))))))
def x168x : Pos := (.i (.o (.o (.i (.o (.i (.o .h)))))))
def x169x : Pos := (.o (.i (.o (.i (.o (.i (.o .h)))))))
def x170x : Pos := (.i (.i (.o (.i (.o (.i (.o .h)))))))
def x171x : Pos := (.o (.o (.i (.i (.o (.i (.o .h)))))))
def x172x : Pos := (.i (.o (.i (.i (.o (.i (.o .h)))))))
def x173x : Pos := (.o (.i (.i (.i (.o (.i (.o .h)))))))
def x174x : Pos := (.i (.i (.i (.i (.o (.i (.o .h)))))))
def x175x : Pos := (.o (.o (.o (.o (.i (.i (.o .h)))))))
def x176x : Pos := (.i (.o (.o (.o (.i (.i (.o .h)))))))
def x177x : Pos := (.o (.i (.o (.o (.i (.i (.o .h)))))))
def x178x : Pos := (.i (.i (.o (.o (.i (.i (.o .h)))))))
def x179x : Pos := (.o (.o (.i (.o (.i (.i (.o .h)))))))
def x180x : Pos := (.i (.o (.i (.o (.i (.i (.o .h)))))))
def x181x : Pos := (.o (.i (.i (.o (.i (.i (.o .h)))))))
def x182x : Pos := (.i (.i (.i (.o (.i (.i (.o .h)))))))
def x183x : Pos := (.o (.o (.o (.i (.i (.i (.o .h)))))))
def x184x : Pos := (.i (.o (.o (.i (.i (.i (.o .h)))))))
def x185x : Pos := (.o (.i (.o (.i (.i (.i (.o .h)))))))
def x186x : Pos := (.i (.i (.o (.i (.i (.i (.o .h)))))))
def x187x : Pos := (.o (.o (.i (.i (.i (.i (.o .h)))))))
def x188x : Pos := (.i (.o (.i (.i (.i (.i (.o .h)))))))
def x189x : Pos := (.o (.i (.i (.i (.i (.i (.o .h)))))))
def x190x : Pos := (.i (.i (.i (.i (.i (.i (.o .h)))))))
def x191x : Pos := (.o (.o (.o (.o (.o (.o (.i .h)))))))
def x192x : Pos := (.i (.o (.o (.o (.o (.o (.i .h)))))))
def x193x : Pos := (.o (.i (.o (.o (.o (.o (.i .h)))))))
def x194x : Pos := (.i (.i (.o (.o (.o (.o (.i .h)))))))
def x195x : Pos := (.o (.o (.i (.o (.o (.o (.i .h)))))))
def x196x : Pos := (.i (.o (.i (.o (.o (.o (.i .h)))))))
def x197x : Pos := (.o (.i (.i (.o (.o (.o (.i .h)))))))
noncomputable def i3 : FnI := (.mk true true (.seq (.reg (.cons (some x4x) none (.mv (.c (.b false))) .nil)) (.seq (.reg (.cons (some x28x) none (.call 4 (.cons (.c (.n 7)) .nil)) (.cons (some x27x) none (.mv 
  (.t x28x)) (.cons (some x29x) none (.ext 0 (.t x27x)) (.cons (some x30x) none (.ext 1 (.t x27x)) (.cons (some x5x) none (.mv (.t x29x)) (.cons (some x6x) none (.mv (.t x30x)) 
  .nil))))))) (.seq (.seq (.reg (.cons (some x31x) none (.mv (.t x6x)) (.cons (some x32x) none (.bin .neq (.t x31x) (.c (.n 0))) (.cons (some x33x) none (.mv (.t x32x)) (.cons 
  (some x34x) (some (.mk x33x false)) (.mv (.t x5x)) (.cons (some x35x) (some (.mk x33x false)) (.len (.t x34x)) (.cons (some x36x) (some (.mk x33x false)) (.bin .neq (.t x35x) (.c 
  (.n 16))) (.cons (some x37x) none (.pick (.t x33x) (.c (.b true)) (.t x36x)) .nil)))))))) (.cond (.t x37x) (.seq (.reg (.cons (some x4x) none (.mv (.c (.b false))) .nil)) .ret) 
  .skip)) (.seq (.reg (.cons (some x7x) none (.alloc 27 (.cons (.n 0) (.cons (.n 0) (.cons (.n 0) (.cons (.n 0) (.cons (.n 0) (.cons (.n 0) (.cons (.n 0) (.cons (.n 0) (.cons (.n 
  0) (.cons (.n 0) (.cons (.n 0) (.cons (.n 0) (.cons (.n 0) (.cons (.n 0) (.cons (.n 0) (.cons (.n 0) (.cons (.n 0) (.cons (.n 0) (.cons (.n 0) (.cons (.n 0) (.cons (.n 0) (.cons 
  (.n 0) (.cons (.n 0) (.cons (.n 0) (.cons (.n 0) (.cons (.n 0) (.cons (.n 0) (.cons (.n 0) (.cons (.n 0) (.cons (.n 0) (.cons (.n 0) (.cons (.n 0) (.cons (.n 0) (.cons (.n 0) 
  (.cons (.n 0) (.cons (.n 0) (.cons (.n 0) (.cons (.n 0) (.cons (.n 0) (.cons (.n 0) (.cons (.n 0) (.cons (.n 0) (.cons (.n 0) (.cons (.n 0) (.cons (.n 0) (.cons (.n 0) (.cons (.n 
  0) (.cons (.n 0) (.cons (.n 0) .nil))))))))))))))))))))))))))))))))))))))))))))))))) 49) .nil)) (.seq (.reg (.cons (some x8x) none (.mv (.c (.n 0))) .nil)) (.seq (.seq (.reg 
  (.cons (some x38x) none (.mv (.t x5x)) (.cons (some x39x) none (.len (.t x38x)) (.cons (some x40x) none (.mv (.c (.n 0))) .nil)))) (.block 0 (.loop (.seq (.reg (.cons (some x41x) 
  none (.bin .lss (.t x40x) (.t x39x)) .nil)) (.seq (.cond (.t x41x) .skip (.exit 0)) (.seq (.block 1 (.seq (.reg (.cons (some x42x) none (.ixs 1 (.t x38x) (.t x40x)) (.cons (some 
  x43x) none (.ld 1 false (.t x42x)) (.cons (some x10x) none (.mv (.t x43x)) .nil)))) (.seq (.seq (.reg (.cons (some x44x) none (.mv (.t x10x)) (.cons (some x45x) none (.bin .lss 
  (.t x44x) (.c (.n 0))) (.cons (some x46x) none (.mv (.t x45x)) (.cons (some x47x) (some (.mk x46x false)) (.mv (.t x10x)) (.cons (some x48x) (some (.mk x46x false)) (.bin .gtr 
  (.t x47x) (.c (.n 127))) (.cons (some x49x) none (.pick (.t x46x) (.c (.b true)) (.t x48x)) .nil))))))) (.cond (.t x49x) (.seq (.reg (.cons (some x4x) none (.mv (.c (.b false))) 
  .nil)) .ret) .skip)) (.seq (.reg (.cons (some x50x) none (.mv (.t x10x)) (.cons (some x51x) none (.call 5 (.cons (.t x50x) (.cons (.c (.n 7)) .nil))) (.cons (some x11x) none (.mv 
  (.t x51x)) .nil)))) (.seq (.seq (.reg (.cons (some x52x) none (.mv (.t x11x)) (.cons (some x53x) none (.len (.t x52x)) (.cons (some x54x) none (.bin .neq (.t x53x) (.c (.n 3))) 
  .nil)))) (.cond (.t x54x) (.exit 1) .skip)) (.seq (.reg (.cons (some x55x) none (.mv (.t x8x)) (.cons (some x56x) none (.bin .add (.t x55x) (.c (.n 1))) (.cons (some x8x) none 
  (.mv (.t x56x)) .nil)))) (.seq (.seq (.reg (.cons (some x57x) none (.mv (.t x5x)) (.cons (some x58x) none (.mv (.t x10x)) (.cons (some x59x) none (.bin .sub (.c (.n 127)) (.t 
  x58x)) (.cons (some x60x) none (.call 6 (.cons (.t x57x) (.cons (.t x59x) .nil))) (.cons (some x61x) none (.not (.t x60x)) .nil)))))) (.cond (.t x61x) (.seq (.reg (.cons (some 
  x4x) none (.mv (.c (.b false))) .nil)) .ret) .skip)) (.seq (.reg (.cons (some x12x) none (.alloc 30 (.cons (.n 0) (.cons (.n 0) (.cons (.n 0) .nil))) 3) .nil)) (.seq (.seq (.reg 
  (.cons (some x62x) none (.mv (.t x11x)) (.cons (some x63x) none (.len (.t x62x)) (.cons (some x64x) none (.mv (.c (.n 0))) .nil)))) (.block 2 (.loop (.seq (.reg (.cons (some 
  x65x) none (.bin .lss (.t x64x) (.t x63x)) .nil)) (.seq (.cond (.t x65x) .skip (.exit 2)) (.seq (.block 3 (.seq (.reg (.cons (some x66x) none (.mv (.t x64x)) (.cons (some x67x) 
  none (.ixs 1 (.t x62x) (.t x64x)) (.cons (some x68x) none (.ld 1 false (.t x67x)) (.cons (some x13x) none (.mv (.t x66x)) (.cons (some x14x) none (.mv (.t x68x)) .nil)))))) (.seq 
  (.draw [(.mk (some x69x) none true [] false [] [] [x11x] (.mv (.t x11x)) false [] [] []), (.mk (some x70x) none true [] false [false] [] [x13x] (.mv (.t x13x)) false [] [] []), 
  (.mk (some x71x) none true [] false [true, false] [] [x70x] (.bin .add (.t x70x) (.c (.n 1))) false [] [] []), (.mk (some x72x) none true [] false [true, true, false] [] [x71x] 
  (.bin .rem (.t x71x) (.c (.n 3))) false [] [] []), (.mk (some x73x) none true [] false [true, true, true, true] [] [x69x, x72x] (.ixs 1 (.t x69x) (.t x72x)) false [] [] []), (.mk 
  (some x74x) none false [] false [true, true, true, true, true] [] [x73x] (.ld 1 false (.t x73x)) false [] [] []), (.mk (some x75x) none true [] false [false, false, false, false, 
  false, false] [] [x11x] (.mv (.t x11x)) false [] [] []), (.mk (some x76x) none true [] false [false, false, false, false, false, false, false] [] [x13x] (.mv (.t x13x)) false [] 
  [] []), (.mk (some x77x) none true [] false [true, false, false, false, false, false, false, false] [] [x76x] (.bin .add (.t x76x) (.c (.n 2))) false [] [] []), (.mk (some x78x) 
  none true [] false [true, true, false, false, false, false, false, false, false] [] [x77x] (.bin .rem (.t x77x) (.c (.n 3))) false [] [] []), (.mk (some x79x) none true [] false 
  [true, true, true, true, false, false, false, false, false, false] [] [x75x, x78x] (.ixs 1 (.t x75x) (.t x78x)) false [] [] []), (.mk (some x80x) none false [] false [true, true, 
  true, true, true, false, false, false, false, false, false] [] [x79x] (.ld 1 false (.t x79x)) false [] [] []), (.mk (some x15x) none true [] false [false, false, false, false, 
  false, false, true, true, true, true, true, true] [] [x74x] (.mv (.t x74x)) false [] [] []), (.mk (some x16x) none true [] false [true, true, true, true, true, true, true, true, 
  true, true, true, true, true] [] [x80x] (.mv (.t x80x)) false [] [] [])]) (.seq (.seq (.reg (.cons (some x81x) none (.mv (.t x14x)) (.cons (some x82x) none (.mv (.t x15x)) (.cons 
  (some x83x) none (.ixa 7 7 (.t x7x) (.t x81x)) (.cons (some x84x) none (.ixa 7 1 (.t x83x) (.t x82x)) (.cons (some x85x) none (.ld 1 false (.t x84x)) (.cons (some x86x) none 
  (.bin .neq (.t x85x) (.c (.n 0))) (.cons (some x87x) none (.mv (.t x86x)) (.cons (some x88x) (some (.mk x87x false)) (.mv (.t x14x)) (.cons (some x89x) (some (.mk x87x false)) 
  (.mv (.t x16x)) (.cons (some x90x) (some (.mk x87x false)) (.ixa 7 7 (.t x7x) (.t x88x)) (.cons (some x91x) (some (.mk x87x false)) (.ixa 7 1 (.t x90x) (.t x89x)) (.cons (some 
  x92x) (some (.mk x87x false)) (.ld 1 false (.t x91x)) (.cons (some x93x) (some (.mk x87x false)) (.bin .neq (.t x92x) (.c (.n 0))) (.cons (some x94x) none (.pick (.t x87x) (.c 
  (.b true)) (.t x93x)) .nil))))))))))))))) (.cond (.t x94x) (.seq (.reg (.cons (some x4x) none (.mv (.c (.b false))) .nil)) .ret) .skip)) (.seq (.draw [(.mk (some x95x) none true 
  [] false [] [] [x14x] (.mv (.t x14x)) false [] [] []), (.mk (some x96x) none true [] false [false] [] [x15x] (.mv (.t x15x)) false [] [] []), (.mk (some x97x) none true [] false 
  [false, false] [x104x] [x14x] (.mv (.t x14x)) false [] [] []), (.mk (some x98x) none true [] false [false, false, false] [x104x] [x16x] (.mv (.t x16x)) false [] [] []), (.mk 
  (some x99x) none true [] false [false, false, false, false] [] [x16x] (.mv (.t x16x)) false [] [] []), (.mk (some x100x) none true [] false [true, false, false, false, false] [] 
  [x99x] (.bin .add (.t x99x) (.c (.n 1))) false [] [] []), (.mk (some x101x) none true [] false [false, false, false, false, false, false] [x104x] [x15x] (.mv (.t x15x)) false [] 
  [] []), (.mk (some x102x) none true [] false [true, false, false, false, false, false, false] [x104x] [x101x] (.bin .add (.t x101x) (.c (.n 1))) false [] [] []), (.mk (some 
  x103x) none true [] false [false, false, false, false, false, false, false, true] [] [x7x, x95x] (.ixa 7 7 (.t x7x) (.t x95x)) false [] [] []), (.mk (some x104x) none true [] 
  false [true, false, false, true, true, false, false, true, true] [] [x103x, x96x] (.ixa 7 1 (.t x103x) (.t x96x)) false [] [] []), (.mk none none false [x104x] false [true, true, 
  false, false, true, true, false, false, true, true] [] [x104x, x100x] (.st 1 (.t x104x) (.t x100x)) false [] [] []), (.mk (some x105x) none true [] false [false, false, false, 
  false, false, false, false, false, true, false, false] [] [x7x, x97x] (.ixa 7 7 (.t x7x) (.t x97x)) false [] [] []), (.mk (some x106x) none true [] false [true, true, true, true, 
  true, true, true, true, true, true, true, true] [] [x105x, x98x] (.ixa 7 1 (.t x105x) (.t x98x)) false [] [] []), (.mk none none false [x106x] false [true, true, true, true, 
  true, true, true, true, true, true, true, true, true] [] [x106x, x102x] (.st 1 (.t x106x) (.t x102x)) false [] [] [])]) (.seq (.reg (.cons (some x108x) none (.mv (.t x14x)) 
  (.cons (some x109x) none (.bin .add (.t x108x) (.c (.n 1))) (.cons (some x110x) none (.call 7 (.cons (.c (.n 3)) (.cons (.t x109x) .nil))) (.cons (some x107x) none (.mv (.t 
  x110x)) (.cons (some x111x) none (.ext 0 (.t x107x)) (.cons (some x112x) none (.ext 1 (.t x107x)) (.cons (some x17x) none (.mv (.t x111x)) (.cons (some x18x) none (.mv (.t 
  x112x)) .nil))))))))) (.seq (.seq (.reg (.cons (some x113x) none (.mv (.t x18x)) (.cons (some x114x) none (.bin .neq (.t x113x) (.c (.n 0))) (.cons (some x115x) none (.mv (.t 
  x114x)) (.cons (some x116x) (some (.mk x115x false)) (.mv (.t x17x)) (.cons (some x117x) (some (.mk x115x false)) (.len (.t x116x)) (.cons (some x118x) (some (.mk x115x false)) 
  (.bin .neq (.t x117x) (.c (.n 3))) (.cons (some x119x) none (.pick (.t x115x) (.c (.b true)) (.t x118x)) .nil)))))))) (.cond (.t x119x) (.seq (.reg (.cons (some x4x) none (.mv 
  (.c (.b false))) .nil)) .ret) .skip)) (.seq (.reg (.cons (some x120x) none (.mv (.c (.n 0))) .nil)) (.block 4 (.loop (.seq (.reg (.cons (some x121x) none (.bin .lss (.t x120x) 
  (.c (.n 3))) .nil)) (.seq (.cond (.t x121x) .skip (.exit 4)) (.seq (.block 5 (.seq (.reg (.cons (some x122x) none (.mv (.t x120x)) (.cons (some x19x) none (.mv (.t x122x)) 
  .nil))) (.draw [(.mk (some x123x) none true [] false [] [] [x19x] (.mv (.t x19x)) false [] [] []), (.mk (some x124x) none true [] false [true] [] [x12x, x123x] (.ixa 3 1 (.t 
  x12x) (.t x123x)) false [] [] []), (.mk (some x125x) none false [] false [true, true] [] [x124x] (.ld 1 false (.t x124x)) false [] [] []), (.mk (some x126x) none true [] false 
  [false, false, false] [] [x17x] (.mv (.t x17x)) false [] [] []), (.mk (some x127x) none true [] false [false, false, false, false] [] [x19x] (.mv (.t x19x)) false [] [] []), (.mk 
  (some x128x) none true [] false [true, true, false, false, false] [] [x126x, x127x] (.ixs 1 (.t x126x) (.t x127x)) false [] [] []), (.mk (some x129x) none false [] false [true, 
  true, true, false, false, false] [] [x128x] (.ld 1 false (.t x128x)) false [] [] []), (.mk (some x130x) none true [] false [true, true, true, true, true, true, true] [] [x125x, 
  x129x] (.bin .add (.t x125x) (.t x129x)) false [] [] []), (.mk (some x131x) none true [] false [true, true, true, true, true, true, true, true] [] [x12x, x123x] (.ixa 3 1 (.t 
  x12x) (.t x123x)) false [] [] []), (.mk none none false [x131x] false [true, true, true, true, true, true, true, true, true] [] [x131x, x130x] (.st 1 (.t x131x) (.t x130x)) false 
  [] [] [])]))) (.reg (.cons (some x132x) none (.bin .add (.t x120x) (.c (.n 1))) (.cons (some x120x) none (.mv (.t x132x)) .nil)))))))))))))))) (.reg (.cons (some x133x) none 
  (.bin .add (.t x64x) (.c (.n 1))) (.cons (some x64x) none (.mv (.t x133x)) .nil))))))))) (.seq (.reg (.cons (some x134x) none (.ld 3 true (.t x12x)) (.cons (some x135x) none (.mv 
  (.c (.n 0))) .nil))) (.block 6 (.loop (.seq (.reg (.cons (some x136x) none (.bin .lss (.t x135x) (.c (.n 3))) .nil)) (.seq (.cond (.t x136x) .skip (.exit 6)) (.seq (.block 7 
  (.seq (.reg (.cons (some x137x) none (.idx 3 1 false (.t x134x) (.t x135x)) (.cons (some x21x) none (.mv (.t x137x)) .nil))) (.seq (.reg (.cons (some x138x) none (.mv (.t x21x)) 
  (.cons (some x139x) none (.bin .neq (.t x138x) (.c (.n 0))) (.cons (some x140x) none (.mv (.t x139x)) (.cons (some x141x) (some (.mk x140x true)) (.mv (.t x21x)) (.cons (some 
  x142x) (some (.mk x140x true)) (.bin .neq (.t x141x) (.c (.n 2))) (.cons (some x143x) none (.pick (.t x140x) (.t x142x) (.c (.b false))) .nil))))))) (.cond (.t x143x) (.seq (.reg 
  (.cons (some x4x) none (.mv (.c (.b false))) .nil)) .ret) .skip)))) (.reg (.cons (some x144x) none (.bin .add (.t x135x) (.c (.n 1))) (.cons (some x135x) none (.mv (.t x144x)) 
  .nil)))))))))))))))))) (.reg (.cons (some x145x) none (.bin .add (.t x40x) (.c (.n 1))) (.cons (some x40x) none (.mv (.t x145x)) .nil))))))))) (.seq (.reg (.cons (some x146x) 
  none (.mv (.t x0x)) (.cons (some x147x) none (.conv .i64 (.t x146x)) (.cons (some x148x) none (.bin .rem (.t x147x) (.c (.n 7))) (.cons (some x149x) none (.mv (.t x1x)) (.cons 
  (some x150x) none (.conv .i64 (.t x149x)) (.cons (some x151x) none (.bin .rem (.t x150x) (.c (.n 7))) (.cons (some x22x) none (.mv (.t x148x)) (.cons (some x23x) none (.mv (.t 
  x151x)) .nil))))))))) (.seq (.draw [(.mk (some x153x) none true [] false [] [] [x22x] (.mv (.t x22x)) false [] [] []), (.mk (some x154x) none true [] false [true] [] [x153x] 
  (.bin .shl (.c (.n 1)) (.t x153x)) false [] [] []), (.mk (some x155x) none true [] false [false, false] [] [x23x] (.mv (.t x23x)) false [] [] []), (.mk (some x156x) none true [] 
  false [true, false, false] [] [x155x] (.bin .shl (.c (.n 1)) (.t x155x)) false [] [] []), (.mk (some x157x) none true [] false [true, true, true, true] [] [x154x, x156x] (.bin 
  .or (.t x154x) (.t x156x)) false [] [] []), (.mk (some x158x) none false [] false [true, true, true, true, true] [] [x157x] (.call 8 (.cons (.c (.n 7)) (.cons (.t x157x) .nil))) 
  false [] [] []), (.mk (some x152x) none true [] false [true, true, true, true, true, true] [] [x158x] (.mv (.t x158x)) false [] [] []), (.mk (some x159x) none true [] false 
  [true, true, true, true, true, true, true] [] [x152x] (.ext 0 (.t x152x)) false [] [] []), (.mk (some x160x) none true [] false [false, true, true, true, true, true, true, true] 
  [] [x152x] (.ext 1 (.t x152x)) false [] [] []), (.mk (some x24x) none true [] false [false, true, true, true, true, true, true, true, true] [] [x159x] (.mv (.t x159x)) false [] 
  [] []), (.mk (some x25x) none true [] false [true, true, true, true, true, true, true, true, true, true] [] [x160x] (.mv (.t x160x)) false [] [] [])]) (.seq (.seq (.reg (.cons 
  (some x161x) none (.mv (.t x8x)) (.cons (some x162x) none (.bin .neq (.t x161x) (.c (.n 7))) (.cons (some x163x) none (.mv (.t x162x)) (.cons (some x164x) (some (.mk x163x 
  false)) (.mv (.t x25x)) (.cons (some x165x) (some (.mk x163x false)) (.bin .neq (.t x164x) (.c (.n 0))) (.cons (some x166x) none (.pick (.t x163x) (.c (.b true)) (.t x165x)) 
  .nil))))))) (.cond (.t x166x) (.seq (.reg (.cons (some x4x) none (.mv (.c (.b false))) .nil)) .ret) .skip)) (.seq (.seq (.reg (.cons (some x167x) none (.mv (.t x22x)) (.cons 
  (some x168x) none (.mv (.t x23x)) (.cons (some x169x) none (.bin .eql (.t x167x) (.t x168x)) .nil)))) (.cond (.t x169x) (.seq (.reg (.cons (some x170x) none (.mv (.t x24x)) 
  (.cons (some x171x) none (.bin .eql (.t x170x) (.c (.n 0))) (.cons (some x172x) none (.mv (.t x171x)) (.cons (some x173x) (some (.mk x172x true)) (.call 9 .nil) (.cons (some 
  x174x) none (.pick (.t x172x) (.t x173x) (.c (.b false))) (.cons (some x4x) none (.mv (.t x174x)) .nil))))))) .ret) .skip)) (.seq (.reg (.cons (some x175x) none (.mv (.t x22x)) 
  (.cons (some x176x) none (.mv (.t x23x)) (.cons (some x177x) none (.ixa 7 7 (.t x7x) (.t x175x)) (.cons (some x178x) none (.ixa 7 1 (.t x177x) (.t x176x)) (.cons (some x179x) 
  none (.ld 1 false (.t x178x)) (.cons (some x180x) none (.bin .sub (.t x179x) (.c (.n 1))) (.cons (some x26x) none (.mv (.t x180x)) .nil)))))))) (.seq (.draw [(.mk (some x181x) 
  none true [] false [] [] [x26x] (.mv (.t x26x)) false [] [] []), (.mk (some x182x) none true [] false [true] [] [x181x] (.bin .geq (.t x181x) (.c (.n 0))) false [] [] []), (.mk 
  (some x183x) none true [] false [true, true] [] [x182x] (.mv (.t x182x)) false [] [] []), (.mk (some x184x) (some (.mk x183x true)) true [] false [true, true, true] [] [x183x, 
  x24x] (.mv (.t x24x)) false [] [] []), (.mk (some x185x) (some (.mk x183x true)) true [] false [false, true, true, true] [] [x183x, x22x] (.mv (.t x22x)) false [] [] []), (.mk 
  (some x186x) (some (.mk x183x true)) true [] false [true, false, true, true, true] [] [x183x, x185x] (.bin .shl (.c (.n 1)) (.t x185x)) false [] [] []), (.mk (some x187x) (some 
  (.mk x183x true)) true [] false [false, false, false, true, true, true] [] [x183x, x23x] (.mv (.t x23x)) false [] [] []), (.mk (some x188x) (some (.mk x183x true)) true [] false 
  [true, false, false, false, true, true, true] [] [x183x, x187x] (.bin .shl (.c (.n 1)) (.t x187x)) false [] [] []), (.mk (some x189x) (some (.mk x183x true)) true [] false [true, 
  true, true, true, false, true, true, true] [] [x183x, x186x, x188x] (.bin .or (.t x186x) (.t x188x)) false [] [] []), (.mk (some x190x) (some (.mk x183x true)) true [] false 
  [false, false, false, false, false, false, true, true, true] [] [x183x, x26x] (.mv (.t x26x)) false [] [] []), (.mk (some x191x) (some (.mk x183x true)) true [] false [true, 
  false, false, false, false, false, false, true, true, true] [] [x183x, x190x] (.bin .shl (.c (.n 1)) (.t x190x)) false [] [] []), (.mk (some x192x) (some (.mk x183x true)) true 
  [] false [true, true, true, true, true, true, true, false, true, true, true] [] [x183x, x189x, x191x] (.bin .or (.t x189x) (.t x191x)) false [] [] []), (.mk (some x193x) (some 
  (.mk x183x true)) true [] false [true, true, true, true, true, true, true, true, true, true, true, true] [] [x183x, x184x, x192x] (.bin .eql (.t x184x) (.t x192x)) false [] [] 
  []), (.mk (some x194x) none true [] false [true, true, true, true, true, true, true, true, true, true, true, true, true] [] [x183x, x193x] (.pick (.t x183x) (.t x193x) (.c (.b 
  false))) false [] [] []), (.mk (some x195x) none true [] false [true, true, true, true, true, true, true, true, true, true, true, true, true, true] [] [x194x] (.mv (.t x194x)) 
  false [] [] []), (.mk (some x196x) (some (.mk x195x true)) false [] false [true, true, true, true, true, true, true, true, true, true, true, true, true, true, true] [] [x195x] 
  (.call 9 .nil) false [] [] []), (.mk (some x197x) none true [] false [true, true, true, true, true, true, true, true, true, true, true, true, true, true, true, true] [] [x195x, 
  x196x] (.pick (.t x195x) (.t x196x) (.c (.b false))) false [] [] []), (.mk (some x4x) none true [] false [true, true, true, true, true, true, true, true, true, true, true, true, 
  true, true, true, true, true] [] [x197x] (.mv (.t x197x)) false [] [] [])]) .ret)))))))))))) [(.tmp x4x)])
noncomputable def q3 : IC := i3.q
noncomputable def res3 : List RV := i3.r
noncomputable def c3c : Code := match Tryz.f3.body with | some c => c | none => .skip
theorem b3 : Tryz.f3.body = some c3c := by kernel_rfl
theorem k3 : compC Tryz.prog drops Tryz.f3.ntmps c3c = some q3 := by kernel_rfl
theorem r3 : compRVs Tryz.prog Tryz.f3.results.toList = some res3 := by kernel_rfl
theorem n3 : (Tryz.f3.name == "runtime.NumGoroutine") = false := by kernel_rfl
theorem q3_s : q3 = seqs (q3.pcs 6) (q3.rst 6) := by kernel_rfl
noncomputable def s1 (el : Nat) (u v : V) : Rs := runP (EW 60) (gK + 1) 20000 (q3.pcs 6) (.nor (bind (.cons u (.cons v .nil)) 0 .lf) (tbH el) (gK + 1))
end Go.Proofs.YtllllpiphcbaeaaGreatDoor.Ev
