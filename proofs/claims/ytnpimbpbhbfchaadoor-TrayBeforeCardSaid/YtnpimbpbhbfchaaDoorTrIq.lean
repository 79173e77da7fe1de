/- The functions of the trays, for the evaluator. -/
import Derived.Test.YtnpimbpbhbfchaaDoorEvFa
import Derived.Test.YtnpimbpbhbfchaaDoorEvLw
import Derived.Test.YtnpimbpbhbfchaaDoorProg
import Derived.KernelRfl
namespace Go.Proofs.YtnpimbpbhbfchaaDoor.Ev
set_option linter.unusedVariables false
set_option maxRecDepth 100000
open Go Go.Proofs Go.RowKit
def drops : List Nat := [3, 4, 5, 6, 10, 11, 12, 13, 14, 15, 19, 20, 21, 22, 26, 28, 32, 33, 34, 35, 39, 40, 41, 42, 47, 48, 49, 50, 51, 52, 53, 54, 55, 56, 57, 58, 59, 64, 65, 67, 68, 69, 70, 71, 72, 75, 76, 77, 78, 79, 80, 81, 85, 87, 89, 101]
def x0x : Pos := .h
def x1x : Pos := (.o .h)
def x2x : Pos := (.i .h)
def x3x : Pos := (.o (.o .h))
def x4x : Pos := (.i (.o .h))
def x5x : Pos := (.o (.i .h))
def x6x : Pos := (.i (.i .h))
def x7x : Pos := (.o (.o (.o .h)))
def x8x : Pos := (.i (.o (.o .h)))
def x9x : Pos := (.o (.i (.o .h)))
def x10x : Pos := (.i (.i (.o .h)))
def x11x : Pos := (.o (.o (.i .h)))
def x12x : Pos := (.i (.o (.i .h)))
def x13x : Pos := (.o (.i (.i .h)))
def x14x : Pos := (.i (.i (.i .h)))
def x15x : Pos := (.o (.o (.o (.o .h))))
def x16x : Pos := (.i (.o (.o (.o .h))))
def x17x : Pos := (.o (.i (.o (.o .h))))
def x18x : Pos := (.i (.i (.o (.o .h))))
def x19x : Pos := (.o (.o (.i (.o .h))))
def x20x : Pos := (.i (.o (.i (.o .h))))
def x21x : Pos := (.o (.i (.i (.o .h))))
def x22x : Pos := (.i (.i (.i (.o .h))))
def x23x : Pos := (.o (.o (.o (.i .h))))
def x24x : Pos := (.i (.o (.o (.i .h))))
def x25x : Pos := (.o (.i (.o (.i .h))))
def x26x : Pos := (.i (.i (.o (.i .h))))
def x27x : Pos := (.o (.o (.i (.i .h))))
def x28x : Pos := (.i (.o (.i (.i .h))))
def x29x : Pos := (.o (.i (.i (.i .h))))
def x30x : Pos := (.i (.i (.i (.i .h))))
def x31x : Pos := (.o (.o (.o (.o (.o .h)))))
def x32x : Pos := (.i (.o (.o (.o (.o .h)))))
def x33x : Pos := (.o (.i (.o (.o (.o .h)))))
def x34x : Pos := (.i (.i (.o (.o (.o .h)))))
def x35x : Pos := (.o (.o (.i (.o (.o .h)))))
def x36x : Pos := (.i (.o (.i (.o (.o .h)))))
def x37x : Pos := (.o (.i (.i (.o (.o .h)))))
def x38x : Pos := (.i (.i (.i (.o (.o .h)))))
def x39x : Pos := (.o (.o (.o (.i (.o .h)))))
def x40x : Pos := (.i (.o (.o (.i (.o .h)))))
def x41x : Pos := (.o (.i (.o (.i (.o .h)))))
def x42x : Pos := (.i (.i (.o (.i (.o .h)))))
def x43x : Pos := (.o (.o (.i (.i (.o .h)))))
def x44x : Pos := (.i (.o (.i (.i (.o .h)))))
def x45x : Pos := (.o (.i (.i (.i (.o .h)))))
def x46x : Pos := (.i (.i (.i (.i (.o .h)))))
def x47x : Pos := (.o (.o (.o (.o (.i .h)))))
def x48x : Pos := (.i (.o (.o (.o (.i .h)))))
def x49x : Pos := (.o (.i (.o (.o (.i .h)))))
def x50x : Pos := (.i (.i (.o (.o (.i .h)))))
def x51x : Pos := (.o (.o (.i (.o (.i .h)))))
def x52x : Pos := (.i (.o (.i (.o (.i .h)))))
def x53x : Pos := (.o (.i (.i (.o (.i .h)))))
def x54x : Pos := (.i (.i (.i (.o (.i .h)))))
def x55x : Pos := (.o (.o (.o (.i (.i .h)))))
def x56x : Pos := (.i (.o (.o (.i (.i .h)))))
def x57x : Pos := (.o (.i (.o (.i (.i .h)))))
def x58x : Pos := (.i (.i (.o (.i (.i .h)))))
def x59x : Pos := (.o (.o (.i (.i (.i .h)))))
def x60x : Pos := (.i (.o (.i (.i (.i .h)))))
def x61x : Pos := (.o (.i (.i (.i (.i .h)))))
def x62x : Pos := (.i (.i (.i (.i (.i .h)))))
def x63x : Pos := (.o (.o (.o (.o (.o (.o .h))))))
def x64x : Pos := (.i (.o (.o (.o (.o (.o .h))))))
def x65x : Pos := (.o (.i (.o (.o (.o (.o .h))))))
def x66x : Pos := (.i (.i (.o (.o (.o (.o .h))))))
def x67x : Pos := (.o (.o (.i (.o (.o (.o .h))))))
def x68x : Pos := (.i (.o (.i (.o (.o (.o .h))))))
def x69x : Pos := (.o (.i (.i (.o (.o (.o .h))))))
def x70x : Pos := (.i (.i (.i (.o (.o (.o .h))))))
def x71x : Pos := (.o (.o (.o (.i (.o (.o .h))))))
def x72x : Pos := (.i (.o (.o (.i (.o (.o .h))))))
def x73x : Pos := (.o (.i (.o (.i (.o (.o .h))))))
def x74x : Pos := (.i (.i (.o (.i (.o (.o .h))))))
def x75x : Pos := (.o (.o (.i (.i (.o (.o .h))))))
def x76x : Pos := (.i (.o (.i (.i (.o (.o .h))))))
def x77x : Pos := (.o (.i (.i (.i (.o (.o .h))))))
def x78x : Pos := (.i (.i (.i (.i (.o (.o .h))))))
def x79x : Pos := (.o (.o (.o (.o (.i (.o .h))))))
def x80x : Pos := (.i (.o (.o (.o (.i (.o .h))))))
def x81x : Pos := (.o (.i (.o (.o (.i (.o .h))))))
def x82x : Pos := (.i (.i (.o (.o (.i (.o .h))))))
def x83x : Pos := (.o (.o (.i (.o (.i (.o .h))))))
def x84x : Pos := (.i (.o (.i (.o (.i (.o .h))))))
def x85x : Pos := (.o (.i (.i (.o (.i (.o .h))))))
def x86x : Pos := (.i (.i (.i (.o (.i (.o .h))))))
def x87x : Pos := (.o (.o (.o (.i (.i (.o .h))))))
def x88x : Pos := (.i (.o (.o (.i (.i (.o .h))))))
def x89x : Pos := (.o (.i (.o (.i (.i (.o .h))))))
def x90x : Pos := (.i (.i (.o (.i (.i (.o .h))))))
def x91x : Pos := (.o (.o (.i (.i (.i (.o .h))))))
def x92x : Pos := (.i (.o (.i (.i (.i (.o .h))))))
def x93x : Pos := (.o (.i (.i (.i (.i (.o .h))))))
def x94x : Pos := (.i (.i (.i (.i (.i (.o .h))))))
def x95x : Pos := (.o (.o (.o (.o (.o (.i .h))))))
def x96x : Pos := (.i (.o (.o (.o (.o (.i .h))))))
def x97x : Pos := (.o (.i (.o (.o (.o (.i .h))))))
def x98x : Pos := (.i (.i (.o (.o (.o (.i .h))))))
def x99x : Pos := (.o (.o (.i (.o (.o (.i .h))))))
def x100x : Pos := (.i (.o (.i (.o (.o (.i .h))))))
def x101x : Pos := (.o (.i (.i (.o (.o (.i .h))))))
def x102x : Pos := (.i (.i (.i (.o (.o (.i .h))))))
def x103x : Pos := (.o (.o (.o (.i (.o (.i .h))))))
def x104x : Pos := (.i (.o (.o (.i (.o (.i .h))))))
def x105x : Pos := (.o (.i (.o (.i (.o (.i .h))))))
def x106x : Pos := (.i (.i (.o (.i (.o (.i .h))))))
def x107x : Pos := (.o (.o (.i (.i (.o (.i .h))))))
def x108x : Pos := (.i (.o (.i (.i (.o (.i .h))))))
def x109x : Pos := (.o (.i (.i (.i (.o (.i .h))))))
def x110x : Pos := (.i (.i (.i (.i (.o (.i .h))))))
def x111x : Pos := (.o (.o (.o (.o (.i (.i .h))))))
def x112x : Pos := (.i (.o (.o (.o (.i (.i .h))))))
def x113x : Pos := (.o (.i (.o (.o (.i (.i .h))))))
def x114x : Pos := (.i (.i (.o (.o (.i (.i .h))))))
def x115x : Pos := (.o (.o (.i (.o (.i (.i .h))))))
def x116x : Pos := (.i (.o (.i (.o (.i (.i .h))))))
def x117x : Pos := (.o (.i (.i (.o (.i (.i .h))))))
def x118x : Pos := (.i (.i (.i (.o (.i (.i .h))))))
def x119x : Pos := (.o (.o (.o (.i (.i (.i .h))))))
def x120x : Pos := (.i (.o (.o (.i (.i (.i .h))))))
def x121x : Pos := (.o (.i (.o (.i (.i (.i .h))))))
def x122x : Pos := (.i (.i (.o (.i (.i (.i .h))))))
def x123x : Pos := (.o (.o (.i (.i (.i (.i .h))))))
def x124x : Pos := (.i (.o (.i (.i (.i (.i .h))))))
def x125x : Pos := (.o (.i (.i (.i (.i (.i .h))))))
def x126x : Pos := (.i (.i (.i (.i (.i (.i .h))))))
def x127x : Pos := (.o (.o (.o (.o (.o (.o (.o .h)))))))
def x128x : Pos := (.i (.o (.o (.o (.o (.o (.o .h)))))))
def x129x : Pos := (.o (.i (.o (.o (.o (.o (.o .h)))))))
def x130x : Pos := (.i (.i (.o (.o (.o (.o (.o .h)))))))
def x131x : Pos := (.o (.o (.i (.o (.o (.o (.o .h)))))))
def x132x : Pos := (.i (.o (.i (.o (.o (.o (.o .h)))))))
def x133x : Pos := (.o (.i (.i (.o (.o (.o (.o .h)))))))
def x134x : Pos := (.i (.i (.i (.o (.o (.o (.o .h)))))))
def x135x : Pos := (.o (.o (.o (.i (.o (.o (.o .h)))))))
def x136x : Pos := (.i (.o (.o (.i (.o (.o (.o .h)))))))
def x137x : Pos := (.o (.i (.o (.i (.o (.o (.o .h)))))))
def x138x : Pos := (.i (.i (.o (.i (.o (.o (.o .h)))))))
def x139x : Pos := (.o (.o (.i (.i (.o (.o (.o .h)))))))
def x140x : Pos := (.i (.o (.i (.i (.o (.o (.o .h)))))))
def x141x : Pos := (.o (.i (.i (.i (.o (.o (.o .h)))))))
def x142x : Pos := (.i (.i (.i (.i (.o (.o (.o .h)))))))
def x143x : Pos := (.o (.o (.o (.o (.i (.o (.o .h)))))))
def x144x : Pos := (.i (.o (.o (.o (.i (.o (.o .h)))))))
def x145x : Pos := (.o (.i (.o (.o (.i (.o (.o .h)))))))
def x146x : Pos := (.i (.i (.o (.o (.i (.o (.o .h)))))))
def x147x : Pos := (.o (.o (.i (.o (.i (.o (.o .h)))))))
def x148x : Pos := (.i (.o (.i (.o (.i (.o (.o .h)))))))
def x149x : Pos := (.o (.i (.i (.o (.i (.o (.o .h)))))))
def x150x : Pos := (.i (.i (.i (.o (.i (.o (.o .h)))))))
def x151x : Pos := (.o (.o (.o (.i (.i (.o (.o .h)))))))
def x152x : Pos := (.i (.o (.o (.i (.i (.o (.o .h)))))))
def x153x : Pos := (.o (.i (.o (.i (.i (.o (.o .h)))))))
def x154x : Pos := (.i (.i (.o (.i (.i (.o (.o .h)))))))
def x155x : Pos := (.o (.o (.i (.i (.i (.o (.o .h)))))))
def x156x : Pos := (.i (.o (.i (.i (.i (.o (.o .h)))))))
def x157x : Pos := (.o (.i (.i (.i (.i (.o (.o .h)))))))
def x158x : Pos := (.i (.i (.i (.i (.i (.o (.o .h)))))))
def x159x : Pos := (.o (.o (.o (.o (.o (.i (.o .h)))))))
def x160x : Pos := (.i (.o (.o (.o (.o (.i (.o .h)))))))
def x161x : Pos := (.o (.i (.o (.o (.o (.i (.o .h)))))))
def x162x : Pos := (.i (.i (.o (.o (.o (.i (.o .h)))))))
def x163x : Pos := (.o (.o (.i (.o (.o (.i (.o .h)))))))
def x164x : Pos := (.i (.o (.i (.o (.o (.i (.o .h)))))))
def x165x : Pos := (.o (.i (.i (.o (.o (.i (.o .h)))))))
def x166x : Pos := (.i (.i (.i (.o (.o (.i (.o .h)))))))
def x167x : Pos := (.o (.o (.o (.i (.o (.i (.o .h)))))))
def x168x : Pos := (.i (.o (.o (.i (.o (.i (.o .h)))))))
def x169x : Pos := (.o (.i (.o (.i (.o (.i (.o .h)))))))
def x170x : Pos := (.i (.i (.o (.i (.o (.i (.o .h)))))))
def x171x : Pos := (.o (.o (.i (.i (.o (.i (.o .h)))))))
def x172x : Pos := (.i (.o (.i (.i (.o (.i (.o .h)))))))
def x173x : Pos := (.o (.i (.i (.i (.o (.i (.o .h)))))))
def x174x : Pos := (.i (.i (.i (.i (.o (.i (.o .h)))))))
def x175x : Pos := (.o (.o (.o (.o (.i (.i (.o .h)))))))
def x176x : Pos := (.i (.o (.o (.o (.i (.i (.o .h)))))))
def x177x : Pos := (.o (.i (.o (.o (.i (.i (.o .h)))))))
def x178x : Pos := (.i (.i (.o (.o (.i (.i (.o .h)))))))
def x179x : Pos := (.o (.o (.i (.o (.i (.i (.o .h)))))))
def x180x : Pos := (.i (.o (.i (.o (.i (.i (.o .h)))))))
def x181x : Pos := (.o (.i (.i (.o (.i (.i (.o .h)))))))
def x182x : Pos := (.i (.i (.i (.o (.i (.i (.o .h)))))))
def x183x : Pos := (.o (.o (.o (.i (.i (.i (.o .h)))))))
def x184x : Pos := (.i (.o (.o (.i (.i (.i (.o .h)))))))
def x185x : Pos := (.o (.i (.o (.i (.i (.i (.o .h)))))))
def x186x : Pos := (.i (.i (.o (.i (.i (.i (.o .h)))))))
def x187x : Pos := (.o (.o (.i (.i (.i (.i (.o .h)))))))
def x188x : Pos := (.i (.o (.i (.i (.i (.i (.o .h)))))))
def x189x : Pos := (.o (.i (.i (.i (.i (.i (.o .h)))))))
def x190x : Pos := (.i (.i (.i (.i (.i (.i (.o .h)))))))
def x191x : Pos := (.o (.o (.o (.o (.o (.o (.i .h)))))))
def x192x : Pos := (.i (.o (.o (.o (.o (.o (.i .h)))))))
def x193x : Pos := (.o (.i (.o (.o (.o (.o (.i .h)))))))
def x194x : Pos := (.i (.i (.o (.o (.o (.o (.i .h)))))))
def x195x : Pos := (.o (.o (.i (.o (.o (.o (.i .h)))))))
def x196x : Pos := (.i (.o (.i (.o (.o (.o (.i .h)))))))
def x197x : Pos := (.o (.i (.i (.o (.o (.o (.i .h)))))))
def x198x : Pos := (.i (.i (.i (.o (.o (.o (.i .h)))))))
def x199x : Pos := (.o (.o (.o (.i (.o (.o (.i .h)))))))
def x200x : Pos := (.i (.o (.o (.i (.o (.o (.i .h)))))))
def x201x : Pos := (.o (.i (.o (.i (.o (.o (.i .h)))))))
def x202x : Pos := (.i (.i (.o (.i (.o (.o (.i .h)))))))
def x203x : Pos := (.o (.o (.i (.i (.o (.o (.i .h)))))))
def x204x : Pos := (.i (.o (.i (.i (.o (.o (.i .h)))))))
def x205x : Pos := (.o (.i (.i (.i (.o (.o (.i .h)))))))
def x206x : Pos := (.i (.i (.i (.i (.o (.o (.i .h)))))))
def x207x : Pos := (.o (.o (.o (.o (.i (.o (.i .h)))))))
def x208x : Pos := (.i (.o (.o (.o (.i (.o (.i .h)))))))
def x209x : Pos := (.o (.i (.o (.o (.i (.o (.i .h)))))))
def x210x : Pos := (.i (.i (.o (.o (.i (.o (.i .h)))))))
def x211x : Pos := (.o (.o (.i (.o (.i (.o (.i .h)))))))
def x212x : Pos := (.i (.o (.i (.o (.i (.o (.i .h)))))))
def x213x : Pos := (.o (.i (.i (.o (.i (.o (.i .h)))))))
def x214x : Pos := (.i (.i (.i (.o (.i (.o (.i .h)))))))
noncomputable def i7 : FnI := (.mk true false (.seq (.reg (.cons (some x4x) none (.mv (.c .ns)) (.cons (some x5x) none (.mv (.c (.n 0))) .nil))) (.seq (.reg (.cons (some x9x) none (.mv (.t x0x)) (.cons (some 
  x10x) none (.mv (.t x1x)) (.cons (some x11x) none (.call 28 (.cons (.t x9x) (.cons (.t x10x) .nil))) (.cons (some x8x) none (.mv (.t x11x)) (.cons (some x12x) none (.ext 0 (.t 
  x8x)) (.cons (some x13x) none (.ext 1 (.t x8x)) (.cons (some x6x) none (.mv (.t x12x)) (.cons (some x7x) none (.mv (.t x13x)) .nil))))))))) (.seq (.seq (.reg (.cons (some x14x) 
  none (.mv (.t x7x)) (.cons (some x15x) none (.bin .neq (.t x14x) (.c (.n 0))) .nil))) (.cond (.t x15x) (.seq (.reg (.cons (some x16x) none (.mv (.t x7x)) (.cons (some x4x) none 
  (.mv (.c .ns)) (.cons (some x5x) none (.mv (.t x16x)) .nil)))) .ret) .skip)) (.seq (.reg (.cons (some x17x) none (.mv (.t x0x)) (.cons (some x18x) none (.mv (.t x6x)) (.cons 
  (some x19x) none (.call 30 (.cons (.t x17x) (.cons (.t x18x) .nil))) (.cons (some x20x) none (.call 29 (.cons (.t x19x) (.cons (.c (.fn 31 .nil .nil)) .nil))) (.cons (some x4x) 
  none (.mv (.t x20x)) (.cons (some x5x) none (.mv (.c (.n 0))) .nil))))))) .ret)))) [(.tmp x4x), (.tmp x5x)])
theorem cc7 : compF Tryd.prog drops true false Tryd.f7 = some i7 := by kernel_rfl
noncomputable def i8 : FnI := (.mk true false (.seq (.reg (.cons (some x2x) none (.mv (.c .ns)) .nil)) (.seq (.reg (.cons (some x3x) none (.mv (.c .ns)) .nil)) (.seq (.seq (.reg (.cons (some x5x) none (.mv (.c 
  (.n 0))) .nil)) (.block 0 (.loop (.seq (.reg (.cons (some x6x) none (.bin .lss (.t x5x) (.c (.n 6))) .nil)) (.seq (.cond (.t x6x) .skip (.exit 0)) (.seq (.block 1 (.seq (.reg 
  (.cons (some x7x) none (.mv (.t x5x)) (.cons (some x4x) none (.mv (.t x7x)) .nil))) (.seq (.reg (.cons (some x8x) none (.mv (.t x0x)) (.cons (some x9x) none (.mv (.t x4x)) (.cons 
  (some x10x) none (.bin .shr (.t x8x) (.t x9x)) (.cons (some x11x) none (.bin .and (.t x10x) (.c (.n 1))) (.cons (some x12x) none (.bin .eql (.t x11x) (.c (.n 1))) .nil)))))) 
  (.cond (.t x12x) (.reg (.cons (some x13x) none (.mv (.t x3x)) (.cons (some x14x) none (.mv (.t x4x)) (.cons (some x15x) none (.bsl 3 1 1 (.cons (.n 0) .nil) (.cons 0 1 (.t x14x) 
  .nil)) (.cons (some x16x) none (.app 3 1 8 (.t x13x) (.t x15x)) (.cons (some x3x) none (.mv (.t x16x)) .nil)))))) .skip)))) (.reg (.cons (some x17x) none (.bin .add (.t x5x) (.c 
  (.n 1))) (.cons (some x5x) none (.mv (.t x17x)) .nil))))))))) (.seq (.reg (.cons (some x18x) none (.mv (.t x3x)) (.cons (some x2x) none (.mv (.t x18x)) .nil))) .ret)))) [(.tmp 
  x2x)])
theorem cc8 : compF Tryd.prog drops true false Tryd.f8 = some i8 := by kernel_rfl
noncomputable def i9 : FnI := (.mk true false (.seq (.reg (.cons (some x4x) none (.mv (.c .ns)) (.cons (some x5x) none (.mv (.c (.n 0))) .nil))) (.seq (.reg (.cons (some x9x) none (.mv (.t x0x)) (.cons (some 
  x10x) none (.mv (.t x1x)) (.cons (some x11x) none (.call 28 (.cons (.t x9x) (.cons (.t x10x) .nil))) (.cons (some x8x) none (.mv (.t x11x)) (.cons (some x12x) none (.ext 0 (.t 
  x8x)) (.cons (some x13x) none (.ext 1 (.t x8x)) (.cons (some x6x) none (.mv (.t x12x)) (.cons (some x7x) none (.mv (.t x13x)) .nil))))))))) (.seq (.seq (.reg (.cons (some x14x) 
  none (.mv (.t x7x)) (.cons (some x15x) none (.bin .neq (.t x14x) (.c (.n 0))) .nil))) (.cond (.t x15x) (.seq (.reg (.cons (some x16x) none (.mv (.t x7x)) (.cons (some x4x) none 
  (.mv (.c .ns)) (.cons (some x5x) none (.mv (.t x16x)) .nil)))) .ret) .skip)) (.seq (.reg (.cons (some x17x) none (.mv (.t x0x)) (.cons (some x18x) none (.mv (.t x6x)) (.cons 
  (some x19x) none (.call 32 (.cons (.t x17x) (.cons (.t x18x) .nil))) (.cons (some x20x) none (.call 31 (.cons (.t x19x) .nil)) (.cons (some x4x) none (.mv (.t x20x)) (.cons (some 
  x5x) none (.mv (.c (.n 0))) .nil))))))) .ret)))) [(.tmp x4x), (.tmp x5x)])
theorem cc9 : compF Tryd.prog drops true false Tryd.f9 = some i9 := by kernel_rfl
noncomputable def i10 : FnI := (.mk true true (.seq (.reg (.cons (some x2x) none (.mv (.c (.b false))) .nil)) (.seq (.seq (.reg (.cons (some x4x) none (.mv (.t x0x)) (.cons (some x5x) none (.len (.t x4x)) (.cons 
  (some x6x) none (.bin .sub (.t x5x) (.c (.n 1))) (.cons (some x3x) none (.mv (.t x6x)) .nil))))) (.block 0 (.loop (.seq (.seq (.reg (.cons (some x7x) none (.mv (.t x3x)) (.cons 
  (some x8x) none (.bin .gtr (.t x7x) (.c (.n 0))) .nil))) (.cond (.t x8x) .skip (.exit 0))) (.seq (.block 1 (.seq (.draw [(.mk (some x11x) none true [] false [] [] [x0x] (.mv (.t 
  x0x)) false [] [] []), (.mk (some x12x) none true [] false [false] [] [x3x] (.mv (.t x3x)) false [] [] []), (.mk (some x13x) none true [] false [true, true] [] [x11x, x12x] (.ixs 
  1 (.t x11x) (.t x12x)) false [] [] []), (.mk (some x14x) none false [] false [true, true, true] [] [x13x] (.ld 1 false (.t x13x)) false [] [] []), (.mk (some x15x) none true [] 
  false [false, false, false, false] [] [x0x] (.mv (.t x0x)) false [] [] []), (.mk (some x16x) none true [] false [false, false, false, false, false] [] [x3x] (.mv (.t x3x)) false 
  [] [] []), (.mk (some x17x) none true [] false [true, false, false, false, false, false] [] [x16x] (.bin .sub (.t x16x) (.c (.n 1))) false [] [] []), (.mk (some x18x) none true 
  [] false [true, true, true, false, false, false, false] [] [x15x, x17x] (.ixs 1 (.t x15x) (.t x17x)) false [] [] []), (.mk (some x19x) none false [] false [true, true, true, 
  true, false, false, false, false] [] [x18x] (.ld 1 false (.t x18x)) false [] [] []), (.mk (some x20x) none false [] false [true, true, true, true, true, true, true, true, true] 
  [] [x14x, x19x] (.call 33 (.cons (.t x14x) (.cons (.t x19x) .nil))) false [] [] [])]) (.cond (.t x20x) (.seq (.reg (.cons (some x2x) none (.mv (.c (.b false))) .nil)) .ret) 
  .skip))) (.reg (.cons (some x9x) none (.mv (.t x3x)) (.cons (some x10x) none (.bin .sub (.t x9x) (.c (.n 1))) (.cons (some x3x) none (.mv (.t x10x)) .nil))))))))) (.seq (.reg 
  (.cons (some x2x) none (.mv (.c (.b true))) .nil)) .ret))) [(.tmp x2x)])
theorem cc10 : compF Tryd.prog drops true true Tryd.f10 = some i10 := by kernel_rfl
noncomputable def i11 : FnI := (.mk true true (.seq (.reg (.cons (some x4x) none (.mv (.c (.b false))) .nil)) (.seq (.seq (.reg (.cons (some x6x) none (.mv (.t x0x)) (.cons (some x7x) none (.len (.t x6x)) (.cons 
  (some x8x) none (.mv (.t x1x)) (.cons (some x9x) none (.len (.t x8x)) (.cons (some x10x) none (.bin .neq (.t x7x) (.t x9x)) .nil)))))) (.cond (.t x10x) (.seq (.reg (.cons (some 
  x4x) none (.mv (.c (.b false))) .nil)) .ret) .skip)) (.seq (.seq (.reg (.cons (some x5x) none (.mv (.c (.n 0))) .nil)) (.block 0 (.loop (.seq (.seq (.reg (.cons (some x11x) none 
  (.mv (.t x5x)) (.cons (some x12x) none (.mv (.t x0x)) (.cons (some x13x) none (.len (.t x12x)) (.cons (some x14x) none (.bin .lss (.t x11x) (.t x13x)) .nil))))) (.cond (.t x14x) 
  .skip (.exit 0))) (.seq (.block 1 (.seq (.draw [(.mk (some x17x) none true [] false [] [] [x0x] (.mv (.t x0x)) false [] [] []), (.mk (some x18x) none true [] false [false] [] 
  [x5x] (.mv (.t x5x)) false [] [] []), (.mk (some x19x) none true [] false [true, true] [] [x17x, x18x] (.ixs 1 (.t x17x) (.t x18x)) false [] [] []), (.mk (some x20x) none false 
  [] false [true, true, true] [] [x19x] (.ld 1 false (.t x19x)) false [] [] []), (.mk (some x21x) none true [] false [false, false, false, false] [] [x1x] (.mv (.t x1x)) false [] 
  [] []), (.mk (some x22x) none true [] false [false, false, false, false, false] [] [x5x] (.mv (.t x5x)) false [] [] []), (.mk (some x23x) none true [] false [true, true, false, 
  false, false, false] [] [x21x, x22x] (.ixs 1 (.t x21x) (.t x22x)) false [] [] []), (.mk (some x24x) none false [] false [true, true, true, false, false, false, false] [] [x23x] 
  (.ld 1 false (.t x23x)) false [] [] []), (.mk (some x25x) none false [] false [true, true, true, true, true, true, true, true] [] [x20x, x24x] (.call 20 (.cons (.t x20x) (.cons 
  (.t x24x) .nil))) false [] [] []), (.mk (some x26x) none true [] false [true, true, true, true, true, true, true, true, true] [] [x25x] (.not (.t x25x)) false [] [] [])]) (.cond 
  (.t x26x) (.seq (.reg (.cons (some x4x) none (.mv (.c (.b false))) .nil)) .ret) .skip))) (.reg (.cons (some x15x) none (.mv (.t x5x)) (.cons (some x16x) none (.bin .add (.t x15x) 
  (.c (.n 1))) (.cons (some x5x) none (.mv (.t x16x)) .nil))))))))) (.seq (.reg (.cons (some x4x) none (.mv (.c (.b true))) .nil)) .ret)))) [(.tmp x4x)])
theorem cc11 : compF Tryd.prog drops true true Tryd.f11 = some i11 := by kernel_rfl
noncomputable def i12 : FnI := (.mk true true (.seq (.reg (.cons (some x4x) none (.mv (.c (.b false))) .nil)) (.seq (.reg (.cons (some x5x) none (.mv (.t x0x)) (.cons (some x6x) none (.mv (.t x1x)) (.cons (some 
  x7x) none (.call 34 (.cons (.t x5x) (.cons (.t x6x) .nil))) (.cons (some x8x) none (.bin .geq (.t x7x) (.c (.n 0))) (.cons (some x4x) none (.mv (.t x8x)) .nil)))))) .ret)) [(.tmp 
  x4x)])
theorem cc12 : compF Tryd.prog drops true true Tryd.f12 = some i12 := by kernel_rfl
noncomputable def i13 : FnI := (.mk true true (.seq (.reg (.cons (some x0x) none (.mv (.c (.b false))) .nil)) (.seq (.reg (.cons (some x23x) none (.call 36 .nil) (.cons (some x24x) none (.call 35 (.cons (.t 
  x23x) .nil)) (.cons (some x22x) none (.mv (.t x24x)) (.cons (some x25x) none (.ext 0 (.t x22x)) (.cons (some x26x) none (.ext 1 (.t x22x)) (.cons (some x27x) none (.ext 2 (.t 
  x22x)) (.cons (some x1x) none (.mv (.t x25x)) (.cons (some x2x) none (.mv (.t x26x)) (.cons (some x3x) none (.mv (.t x27x)) .nil)))))))))) (.seq (.reg (.cons (some x29x) none 
  (.call 21 (.cons (.c (.n 6)) .nil)) (.cons (some x28x) none (.mv (.t x29x)) (.cons (some x30x) none (.ext 0 (.t x28x)) (.cons (some x31x) none (.ext 1 (.t x28x)) (.cons (some 
  x4x) none (.mv (.t x30x)) (.cons (some x5x) none (.mv (.t x31x)) .nil))))))) (.seq (.reg (.cons (some x33x) none (.bsl 3 1 1 (.cons (.n 0) .nil) (.cons 0 1 (.c (.n 1)) .nil)) 
  (.cons (some x34x) none (.call 9 (.cons (.c (.n 3)) (.cons (.t x33x) .nil))) (.cons (some x32x) none (.mv (.t x34x)) (.cons (some x35x) none (.ext 0 (.t x32x)) (.cons (some x36x) 
  none (.ext 1 (.t x32x)) (.cons (some x6x) none (.mv (.t x35x)) (.cons (some x7x) none (.mv (.t x36x)) .nil)))))))) (.seq (.reg (.cons (some x38x) none (.bsl 3 1 2 (.cons (.n 0) 
  (.cons (.n 0) .nil)) (.cons 0 1 (.c (.n 0)) (.cons 1 1 (.c (.n 2)) .nil))) (.cons (some x39x) none (.call 7 (.cons (.c (.n 3)) (.cons (.t x38x) .nil))) (.cons (some x37x) none 
  (.mv (.t x39x)) (.cons (some x40x) none (.ext 0 (.t x37x)) (.cons (some x41x) none (.ext 1 (.t x37x)) (.cons (some x8x) none (.mv (.t x40x)) (.cons (some x9x) none (.mv (.t 
  x41x)) .nil)))))))) (.seq (.reg (.cons (some x43x) none (.call 37 (.cons (.c (.n 2)) .nil)) (.cons (some x42x) none (.mv (.t x43x)) (.cons (some x44x) none (.ext 0 (.t x42x)) 
  (.cons (some x45x) none (.ext 1 (.t x42x)) (.cons (some x10x) none (.mv (.t x44x)) (.cons (some x11x) none (.mv (.t x45x)) .nil))))))) (.seq (.reg (.cons (some x47x) none (.call 
  36 .nil) (.cons (some x48x) none (.call 22 (.cons (.t x47x) .nil)) (.cons (some x46x) none (.mv (.t x48x)) (.cons (some x49x) none (.ext 0 (.t x46x)) (.cons (some x50x) none 
  (.ext 1 (.t x46x)) (.cons (some x12x) none (.mv (.t x49x)) (.cons (some x13x) none (.mv (.t x50x)) .nil)))))))) (.seq (.reg (.cons (some x52x) none (.call 23 .nil) (.cons (some 
  x53x) none (.call 35 (.cons (.t x52x) .nil)) (.cons (some x51x) none (.mv (.t x53x)) (.cons (some x54x) none (.ext 0 (.t x51x)) (.cons (some x55x) none (.ext 1 (.t x51x)) (.cons 
  (some x56x) none (.ext 2 (.t x51x)) (.cons (some x14x) none (.mv (.t x54x)) (.cons (some x15x) none (.mv (.t x55x)) (.cons (some x16x) none (.mv (.t x56x)) .nil)))))))))) (.seq 
  (.seq (.reg (.cons (some x57x) none (.mv (.t x3x)) (.cons (some x58x) none (.bin .neq (.t x57x) (.c (.n 0))) (.cons (some x59x) none (.mv (.t x58x)) (.cons (some x60x) (some (.mk 
  x59x false)) (.mv (.t x5x)) (.cons (some x61x) (some (.mk x59x false)) (.bin .neq (.t x60x) (.c (.n 0))) (.cons (some x62x) none (.pick (.t x59x) (.c (.b true)) (.t x61x)) (.cons 
  (some x63x) none (.mv (.t x62x)) (.cons (some x64x) (some (.mk x63x false)) (.mv (.t x7x)) (.cons (some x65x) (some (.mk x63x false)) (.bin .neq (.t x64x) (.c (.n 0))) (.cons 
  (some x66x) none (.pick (.t x63x) (.c (.b true)) (.t x65x)) (.cons (some x67x) none (.mv (.t x66x)) (.cons (some x68x) (some (.mk x67x false)) (.mv (.t x9x)) (.cons (some x69x) 
  (some (.mk x67x false)) (.bin .neq (.t x68x) (.c (.n 0))) (.cons (some x70x) none (.pick (.t x67x) (.c (.b true)) (.t x69x)) (.cons (some x71x) none (.mv (.t x70x)) (.cons (some 
  x72x) (some (.mk x71x false)) (.mv (.t x11x)) (.cons (some x73x) (some (.mk x71x false)) (.bin .neq (.t x72x) (.c (.n 0))) (.cons (some x74x) none (.pick (.t x71x) (.c (.b true)) 
  (.t x73x)) (.cons (some x75x) none (.mv (.t x74x)) (.cons (some x76x) (some (.mk x75x false)) (.mv (.t x13x)) (.cons (some x77x) (some (.mk x75x false)) (.bin .neq (.t x76x) (.c 
  (.n 0))) (.cons (some x78x) none (.pick (.t x75x) (.c (.b true)) (.t x77x)) (.cons (some x79x) none (.mv (.t x78x)) (.cons (some x80x) (some (.mk x79x false)) (.mv (.t x16x)) 
  (.cons (some x81x) (some (.mk x79x false)) (.bin .neq (.t x80x) (.c (.n 12))) (.cons (some x82x) none (.pick (.t x79x) (.c (.b true)) (.t x81x)) .nil))))))))))))))))))))))))))) 
  (.cond (.t x82x) (.seq (.reg (.cons (some x0x) none (.mv (.c (.b false))) .nil)) .ret) .skip)) (.seq (.reg (.cons (some x84x) none (.call 23 .nil) (.cons (some x85x) none (.call 
  17 (.cons (.t x84x) .nil)) (.cons (some x83x) none (.mv (.t x85x)) (.cons (some x86x) none (.ext 0 (.t x83x)) (.cons (some x87x) none (.ext 1 (.t x83x)) (.cons (some x17x) none 
  (.mv (.t x86x)) (.cons (some x3x) none (.mv (.t x87x)) .nil)))))))) (.seq (.reg (.cons (some x89x) none (.call 23 .nil) (.cons (some x90x) none (.call 38 (.cons (.t x89x) .nil)) 
  (.cons (some x88x) none (.mv (.t x90x)) (.cons (some x91x) none (.ext 0 (.t x88x)) (.cons (some x92x) none (.ext 1 (.t x88x)) (.cons (some x18x) none (.mv (.t x91x)) (.cons (some 
  x5x) none (.mv (.t x92x)) .nil)))))))) (.seq (.reg (.cons (some x94x) none (.bsl 3 1 2 (.cons (.n 0) (.cons (.n 0) .nil)) (.cons 0 1 (.c (.n 1)) (.cons 1 1 (.c (.n 2)) .nil))) 
  (.cons (some x95x) none (.call 19 (.cons (.c (.n 4)) (.cons (.t x94x) .nil))) (.cons (some x93x) none (.mv (.t x95x)) (.cons (some x96x) none (.ext 0 (.t x93x)) (.cons (some 
  x97x) none (.ext 1 (.t x93x)) (.cons (some x19x) none (.mv (.t x96x)) (.cons (some x7x) none (.mv (.t x97x)) .nil)))))))) (.seq (.reg (.cons (some x99x) none (.call 16 (.cons (.c 
  (.n 4)) (.cons (.c (.n 2)) (.cons (.c (.n 5)) .nil)))) (.cons (some x98x) none (.mv (.t x99x)) (.cons (some x100x) none (.ext 0 (.t x98x)) (.cons (some x101x) none (.ext 1 (.t 
  x98x)) (.cons (some x20x) none (.mv (.t x100x)) (.cons (some x9x) none (.mv (.t x101x)) .nil))))))) (.seq (.reg (.cons (some x103x) none (.call 15 (.cons (.c (.n 4)) (.cons (.c 
  (.n 2)) (.cons (.c (.n 4)) .nil)))) (.cons (some x102x) none (.mv (.t x103x)) (.cons (some x104x) none (.ext 0 (.t x102x)) (.cons (some x105x) none (.ext 1 (.t x102x)) (.cons 
  (some x21x) none (.mv (.t x104x)) (.cons (some x11x) none (.mv (.t x105x)) .nil))))))) (.seq (.reg (.cons (some x107x) none (.call 16 (.cons (.c (.n 4)) (.cons (.c (.n 2)) (.cons 
  (.c (.n 6)) .nil)))) (.cons (some x106x) none (.mv (.t x107x)) (.cons (some x108x) none (.ext 0 (.t x106x)) (.cons (some x109x) none (.ext 1 (.t x106x)) (.cons (some x13x) none 
  (.mv (.t x109x)) .nil)))))) (.seq (.reg (.cons (some x110x) none (.mv (.t x3x)) (.cons (some x111x) none (.bin .eql (.t x110x) (.c (.n 0))) (.cons (some x112x) none (.mv (.t 
  x111x)) (.cons (some x113x) (some (.mk x112x true)) (.mv (.t x5x)) (.cons (some x114x) (some (.mk x112x true)) (.bin .eql (.t x113x) (.c (.n 0))) (.cons (some x115x) none (.pick 
  (.t x112x) (.t x114x) (.c (.b false))) (.cons (some x116x) none (.mv (.t x115x)) (.cons (some x117x) (some (.mk x116x true)) (.mv (.t x7x)) (.cons (some x118x) (some (.mk x116x 
  true)) (.bin .eql (.t x117x) (.c (.n 0))) (.cons (some x119x) none (.pick (.t x116x) (.t x118x) (.c (.b false))) (.cons (some x120x) none (.mv (.t x119x)) (.cons (some x121x) 
  (some (.mk x120x true)) (.mv (.t x9x)) (.cons (some x122x) (some (.mk x120x true)) (.bin .eql (.t x121x) (.c (.n 0))) (.cons (some x123x) none (.pick (.t x120x) (.t x122x) (.c 
  (.b false))) (.cons (some x124x) none (.mv (.t x123x)) (.cons (some x125x) (some (.mk x124x true)) (.mv (.t x11x)) (.cons (some x126x) (some (.mk x124x true)) (.bin .eql (.t 
  x125x) (.c (.n 0))) (.cons (some x127x) none (.pick (.t x124x) (.t x126x) (.c (.b false))) (.cons (some x128x) none (.mv (.t x127x)) (.cons (some x129x) (some (.mk x128x true)) 
  (.mv (.t x13x)) (.cons (some x130x) (some (.mk x128x true)) (.bin .eql (.t x129x) (.c (.n 2))) (.cons (some x131x) none (.pick (.t x128x) (.t x130x) (.c (.b false))) (.cons (some 
  x132x) none (.mv (.t x131x)) (.cons (some x133x) (some (.mk x132x true)) (.mv (.t x1x)) (.cons (some x134x) (some (.mk x132x true)) (.bin .eql (.t x133x) (.c (.n 1))) (.cons 
  (some x135x) none (.pick (.t x132x) (.t x134x) (.c (.b false))) (.cons (some x136x) none (.mv (.t x135x)) (.cons (some x137x) (some (.mk x136x true)) (.mv (.t x2x)) (.cons (some 
  x138x) (some (.mk x136x true)) (.bin .eql (.t x137x) (.c (.n 0))) (.cons (some x139x) none (.pick (.t x136x) (.t x138x) (.c (.b false))) (.cons (some x140x) none (.mv (.t x139x)) 
  (.cons (some x141x) (some (.mk x140x true)) (.mv (.t x4x)) (.cons (some x142x) (some (.mk x140x true)) (.bin .eql (.t x141x) (.c (.n 20))) (.cons (some x143x) none (.pick (.t 
  x140x) (.t x142x) (.c (.b false))) (.cons (some x144x) none (.mv (.t x143x)) (.cons (some x145x) (some (.mk x144x true)) (.mv (.t x12x)) (.cons (some x146x) (some (.mk x144x 
  true)) (.bin .eql (.t x145x) (.c (.n 5))) (.cons (some x147x) none (.pick (.t x144x) (.t x146x) (.c (.b false))) (.cons (some x148x) none (.mv (.t x147x)) (.cons (some x149x) 
  (some (.mk x148x true)) (.mv (.t x19x)) (.cons (some x150x) (some (.mk x148x true)) (.bin .eql (.t x149x) (.c (.n 2))) (.cons (some x151x) none (.pick (.t x148x) (.t x150x) (.c 
  (.b false))) (.cons (some x152x) none (.mv (.t x151x)) (.cons (some x153x) (some (.mk x152x true)) (.mv (.t x21x)) (.cons (some x154x) (some (.mk x152x true)) (.bin .eql (.t 
  x153x) (.c (.n 4))) (.cons (some x155x) none (.pick (.t x152x) (.t x154x) (.c (.b false))) (.cons (some x156x) none (.mv (.t x155x)) (.cons (some x157x) (some (.mk x156x true)) 
  (.mv (.t x6x)) (.cons (some x158x) (some (.mk x156x true)) (.bsl 3 1 1 (.cons (.n 0) .nil) (.cons 0 1 (.c (.n 2)) .nil)) (.cons (some x159x) (some (.mk x156x true)) (.call 24 
  (.cons (.t x158x) .nil)) (.cons (some x160x) (some (.mk x156x true)) (.call 20 (.cons (.t x157x) (.cons (.t x159x) .nil))) (.cons (some x161x) none (.pick (.t x156x) (.t x160x) 
  (.c (.b false))) (.cons (some x162x) none (.mv (.t x161x)) (.cons (some x163x) (some (.mk x162x true)) (.mv (.t x8x)) (.cons (some x164x) (some (.mk x162x true)) (.bsl 3 1 1 
  (.cons (.n 0) .nil) (.cons 0 1 (.c (.n 2)) .nil)) (.cons (some x165x) (some (.mk x162x true)) (.call 24 (.cons (.t x164x) .nil)) (.cons (some x166x) (some (.mk x162x true)) (.bsl 
  3 1 2 (.cons (.n 0) (.cons (.n 0) .nil)) (.cons 0 1 (.c (.n 0)) (.cons 1 1 (.c (.n 2)) .nil))) (.cons (some x167x) (some (.mk x162x true)) (.call 24 (.cons (.t x166x) .nil)) 
  (.cons (some x168x) (some (.mk x162x true)) (.bsl 26 1 2 (.cons .ns (.cons .ns .nil)) (.cons 0 1 (.t x165x) (.cons 1 1 (.t x167x) .nil))) (.cons (some x169x) (some (.mk x162x 
  true)) (.call 25 (.cons (.t x168x) .nil)) (.cons (some x170x) (some (.mk x162x true)) (.call 11 (.cons (.t x163x) (.cons (.t x169x) .nil))) (.cons (some x171x) none (.pick (.t 
  x162x) (.t x170x) (.c (.b false))) (.cons (some x172x) none (.mv (.t x171x)) (.cons (some x173x) (some (.mk x172x true)) (.mv (.t x10x)) (.cons (some x174x) (some (.mk x172x 
  true)) (.bsl 3 1 1 (.cons (.n 0) .nil) (.cons 0 1 (.c (.n 0)) .nil)) (.cons (some x175x) (some (.mk x172x true)) (.call 24 (.cons (.t x174x) .nil)) (.cons (some x176x) (some (.mk 
  x172x true)) (.bsl 3 1 2 (.cons (.n 0) (.cons (.n 0) .nil)) (.cons 0 1 (.c (.n 0)) (.cons 1 1 (.c (.n 1)) .nil))) (.cons (some x177x) (some (.mk x172x true)) (.call 24 (.cons (.t 
  x176x) .nil)) (.cons (some x178x) (some (.mk x172x true)) (.bsl 26 1 3 (.cons .ns (.cons .ns (.cons .ns .nil))) (.cons 0 1 (.c .ns) (.cons 1 1 (.t x175x) (.cons 2 1 (.t x177x) 
  .nil)))) (.cons (some x179x) (some (.mk x172x true)) (.call 25 (.cons (.t x178x) .nil)) (.cons (some x180x) (some (.mk x172x true)) (.bsl 3 1 1 (.cons (.n 0) .nil) (.cons 0 1 (.c 
  (.n 1)) .nil)) (.cons (some x181x) (some (.mk x172x true)) (.call 24 (.cons (.t x180x) .nil)) (.cons (some x182x) (some (.mk x172x true)) (.bsl 26 1 1 (.cons .ns .nil) (.cons 0 1 
  (.t x181x) .nil)) (.cons (some x183x) (some (.mk x172x true)) (.call 25 (.cons (.t x182x) .nil)) (.cons (some x184x) (some (.mk x172x true)) (.bsl 22 1 2 (.cons .ns (.cons .ns 
  .nil)) (.cons 0 1 (.t x179x) (.cons 1 1 (.t x183x) .nil))) (.cons (some x185x) (some (.mk x172x true)) (.call 39 (.cons (.t x173x) (.cons (.t x184x) .nil))) (.cons (some x186x) 
  none (.pick (.t x172x) (.t x185x) (.c (.b false))) (.cons (some x187x) none (.mv (.t x186x)) (.cons (some x188x) (some (.mk x187x true)) (.mv (.t x17x)) (.cons (some x189x) (some 
  (.mk x187x true)) (.bsl 3 1 1 (.cons (.n 0) .nil) (.cons 0 1 (.c (.n 1)) .nil)) (.cons (some x190x) (some (.mk x187x true)) (.call 24 (.cons (.t x189x) .nil)) (.cons (some x191x) 
  (some (.mk x187x true)) (.bsl 3 1 1 (.cons (.n 0) .nil) (.cons 0 1 (.c (.n 2)) .nil)) (.cons (some x192x) (some (.mk x187x true)) (.call 24 (.cons (.t x191x) .nil)) (.cons (some 
  x193x) (some (.mk x187x true)) (.bsl 26 1 3 (.cons .ns (.cons .ns (.cons .ns .nil))) (.cons 0 1 (.c .ns) (.cons 1 1 (.t x190x) (.cons 2 1 (.t x192x) .nil)))) (.cons (some x194x) 
  (some (.mk x187x true)) (.call 25 (.cons (.t x193x) .nil)) (.cons (some x195x) (some (.mk x187x true)) (.call 11 (.cons (.t x188x) (.cons (.t x194x) .nil))) (.cons (some x196x) 
  none (.pick (.t x187x) (.t x195x) (.c (.b false))) (.cons (some x197x) none (.mv (.t x196x)) (.cons (some x198x) (some (.mk x197x true)) (.mv (.t x18x)) (.cons (some x199x) (some 
  (.mk x197x true)) (.bsl 3 1 2 (.cons (.n 0) (.cons (.n 0) .nil)) (.cons 0 1 (.c (.n 0)) (.cons 1 1 (.c (.n 1)) .nil))) (.cons (some x200x) (some (.mk x197x true)) (.call 24 
  (.cons (.t x199x) .nil)) (.cons (some x201x) (some (.mk x197x true)) (.bsl 3 1 3 (.cons (.n 0) (.cons (.n 0) (.cons (.n 0) .nil))) (.cons 0 1 (.c (.n 0)) (.cons 1 1 (.c (.n 1)) 
  (.cons 2 1 (.c (.n 2)) .nil)))) (.cons (some x202x) (some (.mk x197x true)) (.call 24 (.cons (.t x201x) .nil)) (.cons (some x203x) (some (.mk x197x true)) (.bsl 3 1 2 (.cons (.n 
  0) (.cons (.n 0) .nil)) (.cons 0 1 (.c (.n 0)) (.cons 1 1 (.c (.n 2)) .nil))) (.cons (some x204x) (some (.mk x197x true)) (.call 24 (.cons (.t x203x) .nil)) (.cons (some x205x) 
  (some (.mk x197x true)) (.bsl 26 1 3 (.cons .ns (.cons .ns (.cons .ns .nil))) (.cons 0 1 (.t x200x) (.cons 1 1 (.t x202x) (.cons 2 1 (.t x204x) .nil)))) (.cons (some x206x) (some 
  (.mk x197x true)) (.call 25 (.cons (.t x205x) .nil)) (.cons (some x207x) (some (.mk x197x true)) (.call 11 (.cons (.t x198x) (.cons (.t x206x) .nil))) (.cons (some x208x) none 
  (.pick (.t x197x) (.t x207x) (.c (.b false))) (.cons (some x209x) none (.mv (.t x208x)) (.cons (some x210x) (some (.mk x209x true)) (.mv (.t x20x)) (.cons (some x211x) (some (.mk 
  x209x true)) (.bsl 3 1 2 (.cons (.n 0) (.cons (.n 0) .nil)) (.cons 0 1 (.c (.n 2)) (.cons 1 1 (.c (.n 3)) .nil))) (.cons (some x212x) (some (.mk x209x true)) (.call 24 (.cons (.t 
  x211x) .nil)) (.cons (some x213x) (some (.mk x209x true)) (.call 20 (.cons (.t x210x) (.cons (.t x212x) .nil))) (.cons (some x214x) none (.pick (.t x209x) (.t x213x) (.c (.b 
  false))) (.cons (some x0x) none (.mv (.t x214x)) .nil))))))))))))))))))))))))))))))))))))))))))))))))))))))))))))))))))))))))))))))))))))))))))))))))))))))))))) 
  .ret)))))))))))))))) [(.tmp x0x)])
theorem cc13 : compF Tryd.prog drops true true Tryd.f13 = some i13 := by kernel_rfl
noncomputable def i14 : FnI := (.mk true true (.seq (.reg (.cons (some x2x) none (.mv (.c (.n 0))) .nil)) (.seq (.reg (.cons (some x3x) none (.mv (.t x0x)) (.cons (some x4x) none (.conv .u64 (.t x3x)) (.cons 
  (some x5x) none (.call 40 (.cons (.t x4x) .nil)) (.cons (some x2x) none (.mv (.t x5x)) .nil))))) .ret)) [(.tmp x2x)])
theorem cc14 : compF Tryd.prog drops true true Tryd.f14 = some i14 := by kernel_rfl
noncomputable def i15 : FnI := (.mk true true (.seq (.reg (.cons (some x6x) none (.mv (.c (.n 0))) (.cons (some x7x) none (.mv (.c (.n 0))) .nil))) (.seq (.seq (.reg (.cons (some x9x) none (.mv (.t x0x)) (.cons 
  (some x10x) none (.call 41 (.cons (.t x9x) .nil)) (.cons (some x11x) none (.not (.t x10x)) (.cons (some x12x) none (.mv (.t x11x)) (.cons (some x13x) (some (.mk x12x false)) (.mv 
  (.t x0x)) (.cons (some x14x) (some (.mk x12x false)) (.mv (.t x1x)) (.cons (some x15x) (some (.mk x12x false)) (.call 42 (.cons (.t x13x) (.cons (.t x14x) .nil))) (.cons (some 
  x16x) (some (.mk x12x false)) (.not (.t x15x)) (.cons (some x17x) none (.pick (.t x12x) (.c (.b true)) (.t x16x)) .nil)))))))))) (.cond (.t x17x) (.seq (.reg (.cons (some x6x) 
  none (.mv (.c (.n 0))) (.cons (some x7x) none (.mv (.c (.n 1))) .nil))) .ret) .skip)) (.seq (.reg (.cons (some x18x) none (.mv (.t x0x)) (.cons (some x19x) none (.mv (.t x1x)) 
  (.cons (some x20x) none (.call 43 (.cons (.t x18x) (.cons (.t x19x) .nil))) (.cons (some x8x) none (.mv (.t x20x)) .nil))))) (.seq (.seq (.reg (.cons (some x21x) none (.mv (.t 
  x2x)) (.cons (some x22x) none (.bin .lss (.t x21x) (.c (.n 0))) (.cons (some x23x) none (.mv (.t x22x)) (.cons (some x24x) (some (.mk x23x false)) (.mv (.t x2x)) (.cons (some 
  x25x) (some (.mk x23x false)) (.mv (.t x8x)) (.cons (some x26x) (some (.mk x23x false)) (.len (.t x25x)) (.cons (some x27x) (some (.mk x23x false)) (.bin .gtr (.t x24x) (.t 
  x26x)) (.cons (some x28x) none (.pick (.t x23x) (.c (.b true)) (.t x27x)) .nil))))))))) (.cond (.t x28x) (.seq (.reg (.cons (some x6x) none (.mv (.c (.n 0))) (.cons (some x7x) 
  none (.mv (.c (.n 2))) .nil))) .ret) .skip)) (.seq (.reg (.cons (some x29x) none (.mv (.t x0x)) (.cons (some x30x) none (.mv (.t x8x)) (.cons (some x31x) none (.mv (.t x2x)) 
  (.cons (some x32x) none (.slc 1 (.t x30x) none (some (.t x31x)) none) (.cons (some x33x) none (.call 44 (.cons (.t x29x) (.cons (.t x32x) .nil))) (.cons (some x34x) none (.len 
  (.t x33x)) (.cons (some x6x) none (.mv (.t x34x)) (.cons (some x7x) none (.mv (.c (.n 0))) .nil))))))))) .ret))))) [(.tmp x6x), (.tmp x7x)])
theorem cc15 : compF Tryd.prog drops true true Tryd.f15 = some i15 := by kernel_rfl
noncomputable def i16 : FnI := (.mk true false (.seq (.reg (.cons (some x6x) none (.mv (.c .ns)) (.cons (some x7x) none (.mv (.c (.n 0))) .nil))) (.seq (.seq (.reg (.cons (some x9x) none (.mv (.t x0x)) (.cons 
  (some x10x) none (.call 41 (.cons (.t x9x) .nil)) (.cons (some x11x) none (.not (.t x10x)) (.cons (some x12x) none (.mv (.t x11x)) (.cons (some x13x) (some (.mk x12x false)) (.mv 
  (.t x0x)) (.cons (some x14x) (some (.mk x12x false)) (.mv (.t x1x)) (.cons (some x15x) (some (.mk x12x false)) (.call 42 (.cons (.t x13x) (.cons (.t x14x) .nil))) (.cons (some 
  x16x) (some (.mk x12x false)) (.not (.t x15x)) (.cons (some x17x) none (.pick (.t x12x) (.c (.b true)) (.t x16x)) .nil)))))))))) (.cond (.t x17x) (.seq (.reg (.cons (some x6x) 
  none (.mv (.c .ns)) (.cons (some x7x) none (.mv (.c (.n 1))) .nil))) .ret) .skip)) (.seq (.reg (.cons (some x18x) none (.mv (.t x0x)) (.cons (some x19x) none (.mv (.t x1x)) 
  (.cons (some x20x) none (.call 43 (.cons (.t x18x) (.cons (.t x19x) .nil))) (.cons (some x8x) none (.mv (.t x20x)) .nil))))) (.seq (.seq (.reg (.cons (some x21x) none (.mv (.t 
  x2x)) (.cons (some x22x) none (.bin .lss (.t x21x) (.c (.n 0))) (.cons (some x23x) none (.mv (.t x22x)) (.cons (some x24x) (some (.mk x23x false)) (.mv (.t x2x)) (.cons (some 
  x25x) (some (.mk x23x false)) (.mv (.t x8x)) (.cons (some x26x) (some (.mk x23x false)) (.len (.t x25x)) (.cons (some x27x) (some (.mk x23x false)) (.bin .geq (.t x24x) (.t 
  x26x)) (.cons (some x28x) none (.pick (.t x23x) (.c (.b true)) (.t x27x)) .nil))))))))) (.cond (.t x28x) (.seq (.reg (.cons (some x6x) none (.mv (.c .ns)) (.cons (some x7x) none 
  (.mv (.c (.n 2))) .nil))) .ret) .skip)) (.seq (.reg (.cons (some x29x) none (.mv (.t x8x)) (.cons (some x30x) none (.mv (.t x2x)) (.cons (some x31x) none (.ixs 1 (.t x29x) (.t 
  x30x)) (.cons (some x32x) none (.ld 1 false (.t x31x)) (.cons (some x33x) none (.call 31 (.cons (.t x32x) .nil)) (.cons (some x6x) none (.mv (.t x33x)) (.cons (some x7x) none 
  (.mv (.c (.n 0))) .nil)))))))) .ret))))) [(.tmp x6x), (.tmp x7x)])
theorem cc16 : compF Tryd.prog drops true false Tryd.f16 = some i16 := by kernel_rfl
noncomputable def i17 : FnI := (.mk true false (.seq (.reg (.cons (some x1x) none (.box 42 (.t x0x)) (.cons (some x2x) none (.mv (.c .ns)) (.cons (some x3x) none (.mv (.c (.n 0))) .nil)))) (.seq (.reg (.cons 
  (some x7x) none (.ld 2 true (.t x1x)) (.cons (some x8x) none (.call 45 (.cons (.t x7x) .nil)) (.cons (some x6x) none (.mv (.t x8x)) (.cons (some x9x) none (.ext 0 (.t x6x)) 
  (.cons (some x10x) none (.ext 1 (.t x6x)) (.cons (some x4x) none (.mv (.t x9x)) (.cons (some x5x) none (.mv (.t x10x)) .nil)))))))) (.seq (.seq (.reg (.cons (some x11x) none (.mv 
  (.t x5x)) (.cons (some x12x) none (.bin .neq (.t x11x) (.c (.n 0))) .nil))) (.cond (.t x12x) (.seq (.reg (.cons (some x13x) none (.mv (.t x5x)) (.cons (some x2x) none (.mv (.c 
  .ns)) (.cons (some x3x) none (.mv (.t x13x)) .nil)))) .ret) .skip)) (.seq (.reg (.cons (some x14x) none (.fad 0 (.t x1x)) (.cons (some x15x) none (.ld 1 false (.t x14x)) (.cons 
  (some x16x) none (.mv (.t x4x)) (.cons (some x17x) none (.call 44 (.cons (.t x15x) (.cons (.t x16x) .nil))) (.cons (some x18x) none (.call 46 (.cons (.t x17x) .nil)) (.cons (some 
  x19x) none (.call 29 (.cons (.t x18x) (.cons (.c (.fn 31 .nil .nil)) .nil))) (.cons (some x2x) none (.mv (.t x19x)) (.cons (some x3x) none (.mv (.c (.n 0))) .nil))))))))) 
  .ret)))) [(.tmp x2x), (.tmp x3x)])
theorem cc17 : compF Tryd.prog drops true false Tryd.f17 = some i17 := by kernel_rfl
noncomputable def i18 : FnI := (.mk true false (.seq (.reg (.cons (some x4x) none (.alloc 42 (.cons (.n 0) (.cons .ns .nil)) 2) .nil)) (.seq (.reg (.cons (some x8x) none (.mv (.t x0x)) (.cons (some x9x) none 
  (.build (.cons (.n 0) (.cons .ns .nil)) (.cons 0 1 (.t x8x) .nil)) (.cons (some x5x) none (.alloc 42 (.cons (.n 0) (.cons .ns .nil)) 2) (.cons none none (.st 2 (.t x5x) (.t x9x)) 
  .nil))))) (.seq (.seq (.reg (.cons (some x10x) none (.mv (.t x1x)) (.cons (some x11x) none (.len (.t x10x)) (.cons (some x12x) none (.mv (.c (.n 0))) .nil)))) (.block 0 (.loop 
  (.seq (.reg (.cons (some x13x) none (.bin .lss (.t x12x) (.t x11x)) .nil)) (.seq (.cond (.t x13x) .skip (.exit 0)) (.seq (.block 1 (.seq (.reg (.cons (some x14x) none (.ixs 1 (.t 
  x10x) (.t x12x)) (.cons (some x15x) none (.ld 1 false (.t x14x)) (.cons (some x7x) none (.mv (.t x15x)) .nil)))) (.draw [(.mk (some x16x) none true [] false [] [] [x5x] (.fad 1 
  (.t x5x)) false [] [] []), (.mk (some x17x) none false [] false [true] [] [x16x] (.ld 1 false (.t x16x)) false [] [] []), (.mk (some x18x) none true [] false [false, false] [] 
  [x7x] (.mv (.t x7x)) false [] [] []), (.mk (some x19x) none false [] true [true, false, false] [] [x18x] (.call 8 (.cons (.t x18x) .nil)) false [] [] []), (.mk (some x20x) none 
  true [] true [true, true, false, false] [] [x19x] (.bsl 26 1 1 (.cons .ns .nil) (.cons 0 1 (.t x19x) .nil)) false [] [] []), (.mk (some x21x) none false [x17x, x20x] true [true, 
  true, true, true, true] [] [x17x, x20x] (.app 26 1 24 (.t x17x) (.t x20x)) false [] [] []), (.mk (some x22x) none true [] false [true, true, true, true, true, true] [] [x5x] 
  (.fad 1 (.t x5x)) false [] [] []), (.mk none none false [x22x] false [true, true, true, true, true, true, true] [] [x22x, x21x] (.st 1 (.t x22x) (.t x21x)) false [] [] [])]))) 
  (.reg (.cons (some x23x) none (.bin .add (.t x12x) (.c (.n 1))) (.cons (some x12x) none (.mv (.t x23x)) .nil))))))))) (.seq (.reg (.cons (some x24x) none (.ld 2 true (.t x5x)) 
  (.cons none none (.st 2 (.t x4x) (.t x24x)) .nil))) .ret)))) [(.cell x4x 2 true)])
theorem cc18 : compF Tryd.prog drops true false Tryd.f18 = some i18 := by kernel_rfl
noncomputable def i19 : FnI := (.mk true true (.seq (.reg (.cons (some x4x) none (.mv (.c (.n 0))) (.cons (some x5x) none (.mv (.c (.n 0))) .nil))) (.seq (.reg (.cons (some x9x) none (.mv (.t x0x)) (.cons (some 
  x10x) none (.mv (.t x1x)) (.cons (some x11x) none (.call 28 (.cons (.t x9x) (.cons (.t x10x) .nil))) (.cons (some x8x) none (.mv (.t x11x)) (.cons (some x12x) none (.ext 0 (.t 
  x8x)) (.cons (some x13x) none (.ext 1 (.t x8x)) (.cons (some x6x) none (.mv (.t x12x)) (.cons (some x7x) none (.mv (.t x13x)) .nil))))))))) (.seq (.seq (.reg (.cons (some x14x) 
  none (.mv (.t x7x)) (.cons (some x15x) none (.bin .neq (.t x14x) (.c (.n 0))) .nil))) (.cond (.t x15x) (.seq (.reg (.cons (some x16x) none (.mv (.t x7x)) (.cons (some x4x) none 
  (.mv (.c (.n 0))) (.cons (some x5x) none (.mv (.t x16x)) .nil)))) .ret) .skip)) (.seq (.reg (.cons (some x17x) none (.mv (.t x0x)) (.cons (some x18x) none (.mv (.t x6x)) (.cons 
  (some x19x) none (.call 48 (.cons (.t x18x) .nil)) (.cons (some x20x) none (.call 43 (.cons (.t x17x) (.cons (.t x19x) .nil))) (.cons (some x21x) none (.mv (.t x6x)) (.cons (some 
  x22x) none (.call 47 (.cons (.t x20x) (.cons (.t x21x) .nil))) (.cons (some x4x) none (.mv (.t x22x)) (.cons (some x5x) none (.mv (.c (.n 0))) .nil))))))))) .ret)))) [(.tmp x4x), 
  (.tmp x5x)])
theorem cc19 : compF Tryd.prog drops true true Tryd.f19 = some i19 := by kernel_rfl
noncomputable def i20 : FnI := (.mk true true (.seq (.reg (.cons (some x4x) none (.mv (.c (.b false))) .nil)) (.seq (.seq (.reg (.cons (some x6x) none (.mv (.t x0x)) (.cons (some x7x) none (.len (.t x6x)) (.cons 
  (some x8x) none (.mv (.t x1x)) (.cons (some x9x) none (.len (.t x8x)) (.cons (some x10x) none (.bin .neq (.t x7x) (.t x9x)) .nil)))))) (.cond (.t x10x) (.seq (.reg (.cons (some 
  x4x) none (.mv (.c (.b false))) .nil)) .ret) .skip)) (.seq (.seq (.reg (.cons (some x5x) none (.mv (.c (.n 0))) .nil)) (.block 0 (.loop (.seq (.seq (.reg (.cons (some x11x) none 
  (.mv (.t x5x)) (.cons (some x12x) none (.mv (.t x0x)) (.cons (some x13x) none (.len (.t x12x)) (.cons (some x14x) none (.bin .lss (.t x11x) (.t x13x)) .nil))))) (.cond (.t x14x) 
  .skip (.exit 0))) (.seq (.block 1 (.seq (.draw [(.mk (some x17x) none true [] false [] [] [x0x] (.mv (.t x0x)) false [] [] []), (.mk (some x18x) none true [] false [false] [] 
  [x5x] (.mv (.t x5x)) false [] [] []), (.mk (some x19x) none true [] false [true, true] [] [x17x, x18x] (.ixs 1 (.t x17x) (.t x18x)) false [] [] []), (.mk (some x20x) none false 
  [] false [true, true, true] [] [x19x] (.ld 1 false (.t x19x)) false [] [] []), (.mk (some x21x) none true [] false [false, false, false, false] [] [x1x] (.mv (.t x1x)) false [] 
  [] []), (.mk (some x22x) none true [] false [false, false, false, false, false] [] [x5x] (.mv (.t x5x)) false [] [] []), (.mk (some x23x) none true [] false [true, true, false, 
  false, false, false] [] [x21x, x22x] (.ixs 1 (.t x21x) (.t x22x)) false [] [] []), (.mk (some x24x) none false [] false [true, true, true, false, false, false, false] [] [x23x] 
  (.ld 1 false (.t x23x)) false [] [] []), (.mk (some x25x) none true [] false [true, true, true, true, true, true, true, true] [] [x20x, x24x] (.bin .neq (.t x20x) (.t x24x)) 
  false [] [] [])]) (.cond (.t x25x) (.seq (.reg (.cons (some x4x) none (.mv (.c (.b false))) .nil)) .ret) .skip))) (.reg (.cons (some x15x) none (.mv (.t x5x)) (.cons (some x16x) 
  none (.bin .add (.t x15x) (.c (.n 1))) (.cons (some x5x) none (.mv (.t x16x)) .nil))))))))) (.seq (.reg (.cons (some x4x) none (.mv (.c (.b true))) .nil)) .ret)))) [(.tmp x4x)])
theorem cc20 : compF Tryd.prog drops true true Tryd.f20 = some i20 := by kernel_rfl
noncomputable def i21 : FnI := (.mk true true (.seq (.reg (.cons (some x2x) none (.mv (.c (.n 0))) (.cons (some x3x) none (.mv (.c (.n 0))) .nil))) (.seq (.seq (.reg (.cons (some x4x) none (.mv (.t x0x)) (.cons 
  (some x5x) none (.call 41 (.cons (.t x4x) .nil)) (.cons (some x6x) none (.not (.t x5x)) .nil)))) (.cond (.t x6x) (.seq (.reg (.cons (some x2x) none (.mv (.c (.n 0))) (.cons (some 
  x3x) none (.mv (.c (.n 1))) .nil))) .ret) .skip)) (.seq (.reg (.cons (some x7x) none (.mv (.t x0x)) (.cons (some x8x) none (.mv (.t x0x)) (.cons (some x9x) none (.bin .quo (.t 
  x8x) (.c (.n 2))) (.cons (some x10x) none (.call 43 (.cons (.t x7x) (.cons (.t x9x) .nil))) (.cons (some x11x) none (.len (.t x10x)) (.cons (some x2x) none (.mv (.t x11x)) (.cons 
  (some x3x) none (.mv (.c (.n 0))) .nil)))))))) .ret))) [(.tmp x2x), (.tmp x3x)])
theorem cc21 : compF Tryd.prog drops true true Tryd.f21 = some i21 := by kernel_rfl
noncomputable def i22 : FnI := (.mk true true (.seq (.reg (.cons (some x1x) none (.box 42 (.t x0x)) (.cons (some x2x) none (.mv (.c (.n 0))) (.cons (some x3x) none (.mv (.c (.n 0))) .nil)))) (.seq (.reg (.cons 
  (some x7x) none (.ld 2 true (.t x1x)) (.cons (some x8x) none (.call 45 (.cons (.t x7x) .nil)) (.cons (some x6x) none (.mv (.t x8x)) (.cons (some x9x) none (.ext 0 (.t x6x)) 
  (.cons (some x10x) none (.ext 1 (.t x6x)) (.cons (some x4x) none (.mv (.t x9x)) (.cons (some x5x) none (.mv (.t x10x)) .nil)))))))) (.seq (.seq (.reg (.cons (some x11x) none (.mv 
  (.t x5x)) (.cons (some x12x) none (.bin .neq (.t x11x) (.c (.n 0))) .nil))) (.cond (.t x12x) (.seq (.reg (.cons (some x13x) none (.mv (.t x5x)) (.cons (some x2x) none (.mv (.c 
  (.n 0))) (.cons (some x3x) none (.mv (.t x13x)) .nil)))) .ret) .skip)) (.seq (.draw [(.mk (some x14x) none true [] false [] [] [x1x] (.fad 0 (.t x1x)) false [] [] []), (.mk (some 
  x15x) none false [] false [true] [] [x14x] (.ld 1 false (.t x14x)) false [] [] []), (.mk (some x16x) none false [] false [true, true] [] [x15x] (.call 49 (.cons (.t x15x) (.cons 
  (.c .ns) .nil))) false [] [] []), (.mk (some x17x) none true [] false [false, false, false] [] [x1x] (.fad 0 (.t x1x)) false [] [] []), (.mk (some x18x) none false [] false 
  [true, false, false, false] [] [x17x] (.ld 1 false (.t x17x)) false [] [] []), (.mk (some x19x) none true [] false [false, false, false, false, false] [] [x4x] (.mv (.t x4x)) 
  false [] [] []), (.mk (some x20x) none false [] false [true, true, true, true, true, true] [] [x18x, x19x] (.call 49 (.cons (.t x18x) (.cons (.t x19x) .nil))) false [] [] []), 
  (.mk (some x21x) none true [] false [true, true, true, true, true, true, true] [] [x16x, x20x] (.bin .sub (.t x16x) (.t x20x)) false [] [] []), (.mk (some x2x) none true [] false 
  [true, true, true, true, true, true, true, true] [] [x21x] (.mv (.t x21x)) false [] [] []), (.mk (some x3x) none true [] false [true, true, true, true, true, true, true, true, 
  true] [] [] (.mv (.c (.n 0))) false [] [] [])]) .ret)))) [(.tmp x2x), (.tmp x3x)])
theorem cc22 : compF Tryd.prog drops true true Tryd.f22 = some i22 := by kernel_rfl
noncomputable def i23 : FnI := (.mk true false (.seq (.reg (.cons (some x0x) none (.alloc 42 (.cons (.n 0) (.cons .ns .nil)) 2) .nil)) (.seq (.reg (.cons (some x1x) none (.bsl 3 1 1 (.cons (.n 0) .nil) (.cons 0 
  1 (.c (.n 0)) .nil)) (.cons (some x2x) none (.call 24 (.cons (.t x1x) .nil)) (.cons (some x3x) none (.bsl 3 1 2 (.cons (.n 0) (.cons (.n 0) .nil)) (.cons 0 1 (.c (.n 1)) (.cons 1 
  1 (.c (.n 2)) .nil))) (.cons (some x4x) none (.call 24 (.cons (.t x3x) .nil)) (.cons (some x5x) none (.bsl 26 1 2 (.cons .ns (.cons .ns .nil)) (.cons 0 1 (.t x2x) (.cons 1 1 (.t 
  x4x) .nil))) (.cons (some x6x) none (.call 27 (.cons (.c (.n 3)) (.cons (.t x5x) .nil))) (.cons none none (.st 2 (.t x0x) (.t x6x)) .nil)))))))) .ret)) [(.cell x0x 2 true)])
theorem cc23 : compF Tryd.prog drops true false Tryd.f23 = some i23 := by kernel_rfl
noncomputable def i24 : FnI := (.mk true false (.seq (.reg (.cons (some x2x) none (.mv (.c .ns)) .nil)) (.seq (.reg (.cons (some x3x) none (.mv (.t x0x)) (.cons (some x2x) none (.mv (.t x3x)) .nil))) .ret)) 
  [(.tmp x2x)])
theorem cc24 : compF Tryd.prog drops true false Tryd.f24 = some i24 := by kernel_rfl
noncomputable def i25 : FnI := (.mk true false (.seq (.reg (.cons (some x2x) none (.mv (.c .ns)) .nil)) (.seq (.reg (.cons (some x3x) none (.mv (.t x0x)) (.cons (some x2x) none (.mv (.t x3x)) .nil))) .ret)) 
  [(.tmp x2x)])
theorem cc25 : compF Tryd.prog drops true false Tryd.f25 = some i25 := by kernel_rfl
noncomputable def i26 : FnI := (.mk true true (.seq (.reg (.cons (some x1x) none (.box 42 (.t x0x)) (.cons (some x2x) none (.mv (.c (.n 0))) .nil))) (.seq (.reg (.cons (some x6x) none (.ld 2 true (.t x1x)) 
  (.cons (some x7x) none (.call 45 (.cons (.t x6x) .nil)) (.cons (some x5x) none (.mv (.t x7x)) (.cons (some x8x) none (.ext 0 (.t x5x)) (.cons (some x9x) none (.ext 1 (.t x5x)) 
  (.cons (some x3x) none (.mv (.t x8x)) (.cons (some x4x) none (.mv (.t x9x)) .nil)))))))) (.seq (.reg (.cons (some x10x) none (.mv (.t x4x)) (.cons (some x2x) none (.mv (.t x10x)) 
  .nil))) .ret))) [(.tmp x2x)])
theorem cc26 : compF Tryd.prog drops true true Tryd.f26 = some i26 := by kernel_rfl
noncomputable def i27 : FnI := (.mk true false (.seq (.reg (.cons (some x4x) none (.alloc 42 (.cons (.n 0) (.cons .ns .nil)) 2) .nil)) (.seq (.reg (.cons (some x5x) none (.mv (.t x0x)) (.cons (some x6x) none 
  (.mv (.t x1x)) (.cons (some x7x) none (.build (.cons (.n 0) (.cons .ns .nil)) (.cons 0 1 (.t x5x) (.cons 1 1 (.t x6x) .nil))) (.cons none none (.st 2 (.t x4x) (.t x7x)) .nil))))) 
  .ret)) [(.cell x4x 2 true)])
theorem cc27 : compF Tryd.prog drops true false Tryd.f27 = some i27 := by kernel_rfl
noncomputable def i28 : FnI := (.mk true true (.seq (.reg (.cons (some x4x) none (.mv (.c (.i .u64 (.ofNat 0)))) (.cons (some x5x) none (.mv (.c (.n 0))) .nil))) (.seq (.reg (.cons (some x9x) none (.mv (.t x0x)) 
  (.cons (some x10x) none (.mv (.t x1x)) (.cons (some x11x) none (.bsl 26 1 1 (.cons .ns .nil) (.cons 0 1 (.t x10x) .nil)) (.cons (some x12x) none (.build (.cons (.n 0) (.cons .ns 
  .nil)) (.cons 0 1 (.t x9x) (.cons 1 1 (.t x11x) .nil))) (.cons (some x13x) none (.call 45 (.cons (.t x12x) .nil)) (.cons (some x8x) none (.mv (.t x13x)) (.cons (some x14x) none 
  (.ext 0 (.t x8x)) (.cons (some x15x) none (.ext 1 (.t x8x)) (.cons (some x6x) none (.mv (.t x14x)) (.cons (some x7x) none (.mv (.t x15x)) .nil))))))))))) (.seq (.seq (.reg (.cons 
  (some x16x) none (.mv (.t x7x)) (.cons (some x17x) none (.bin .neq (.t x16x) (.c (.n 0))) .nil))) (.cond (.t x17x) (.seq (.reg (.cons (some x18x) none (.mv (.t x7x)) (.cons (some 
  x4x) none (.mv (.c (.i .u64 (.ofNat 0)))) (.cons (some x5x) none (.mv (.t x18x)) .nil)))) .ret) .skip)) (.seq (.reg (.cons (some x19x) none (.mv (.t x6x)) (.cons (some x20x) none 
  (.ixs 1 (.t x19x) (.c (.n 0))) (.cons (some x21x) none (.ld 1 false (.t x20x)) (.cons (some x4x) none (.mv (.t x21x)) (.cons (some x5x) none (.mv (.c (.n 0))) .nil)))))) .ret)))) 
  [(.tmp x4x), (.tmp x5x)])
theorem cc28 : compF Tryd.prog drops true true Tryd.f28 = some i28 := by kernel_rfl
noncomputable def i29 : FnI := (.mk true false (.seq (.reg (.cons (some x4x) none (.mv (.c .ns)) .nil)) (.seq (.reg (.cons (some x5x) none (.mv (.c .ns)) .nil)) (.seq (.seq (.reg (.cons (some x8x) none (.mv (.t 
  x0x)) (.cons (some x9x) none (.len (.t x8x)) (.cons (some x10x) none (.mv (.c (.n 0))) .nil)))) (.block 0 (.loop (.seq (.reg (.cons (some x11x) none (.bin .lss (.t x10x) (.t 
  x9x)) .nil)) (.seq (.cond (.t x11x) .skip (.exit 0)) (.seq (.block 1 (.seq (.reg (.cons (some x12x) none (.ixs 1 (.t x8x) (.t x10x)) (.cons (some x13x) none (.ld 1 false (.t 
  x12x)) (.cons (some x7x) none (.mv (.t x13x)) .nil)))) (.reg (.cons (some x14x) none (.mv (.t x5x)) (.cons (some x15x) none (.mv (.t x1x)) (.cons (some x16x) none (.mv (.t x7x)) 
  (.cons (some x17x) none (.callv (.t x15x) (.cons (.t x16x) .nil)) (.cons (some x18x) none (.bsl 26 1 1 (.cons .ns .nil) (.cons 0 1 (.t x17x) .nil)) (.cons (some x19x) none (.app 
  26 1 24 (.t x14x) (.t x18x)) (.cons (some x5x) none (.mv (.t x19x)) .nil)))))))))) (.reg (.cons (some x20x) none (.bin .add (.t x10x) (.c (.n 1))) (.cons (some x10x) none (.mv 
  (.t x20x)) .nil))))))))) (.seq (.reg (.cons (some x21x) none (.mv (.t x5x)) (.cons (some x4x) none (.mv (.t x21x)) .nil))) .ret)))) [(.tmp x4x)])
theorem cc29 : compF Tryd.prog drops true false Tryd.f29 = some i29 := by kernel_rfl
noncomputable def i30 : FnI := (.mk true false (.seq (.reg (.cons (some x4x) none (.mv (.c .ns)) .nil)) (.seq (.reg (.cons (some x10x) none (.mv (.t x0x)) (.cons (some x11x) none (.mv (.t x1x)) (.cons (some 
  x12x) none (.call 32 (.cons (.t x10x) (.cons (.t x11x) .nil))) (.cons (some x5x) none (.mv (.t x12x)) .nil))))) (.seq (.reg (.cons (some x13x) none (.mv (.t x1x)) (.cons (some 
  x14x) none (.mv (.t x5x)) (.cons (some x15x) none (.call 50 (.cons (.t x13x) (.cons (.t x14x) .nil))) (.cons (some x6x) none (.mv (.t x15x)) .nil))))) (.seq (.reg (.cons (some 
  x16x) none (.mv (.t x6x)) (.cons (some x17x) none (.bsl 55 1 1 (.cons (.i .u64 (.ofNat 0)) .nil) (.cons 0 1 (.t x16x) .nil)) (.cons (some x7x) none (.mv (.t x17x)) .nil)))) (.seq 
  (.seq (.reg (.cons (some x18x) none (.mv (.t x5x)) (.cons (some x19x) none (.call 31 (.cons (.t x18x) .nil)) (.cons (some x20x) none (.len (.t x19x)) (.cons (some x21x) none (.mv 
  (.c (.n 0))) .nil))))) (.block 0 (.loop (.seq (.reg (.cons (some x22x) none (.bin .lss (.t x21x) (.t x20x)) .nil)) (.seq (.cond (.t x22x) .skip (.exit 0)) (.seq (.block 1 (.seq 
  (.reg (.cons (some x23x) none (.ixs 1 (.t x19x) (.t x21x)) (.cons (some x24x) none (.ld 1 false (.t x23x)) (.cons (some x9x) none (.mv (.t x24x)) .nil)))) (.seq (.reg (.cons 
  (some x25x) none (.mv (.t x6x)) (.cons (some x26x) none (.mv (.t x9x)) (.cons (some x27x) none (.call 51 (.cons (.t x25x) (.cons (.t x26x) .nil))) (.cons (some x6x) none (.mv (.t 
  x27x)) .nil))))) (.reg (.cons (some x28x) none (.mv (.t x7x)) (.cons (some x29x) none (.mv (.t x6x)) (.cons (some x30x) none (.bsl 55 1 1 (.cons (.i .u64 (.ofNat 0)) .nil) (.cons 
  0 1 (.t x29x) .nil)) (.cons (some x31x) none (.app 55 1 8 (.t x28x) (.t x30x)) (.cons (some x7x) none (.mv (.t x31x)) .nil))))))))) (.reg (.cons (some x32x) none (.bin .add (.t 
  x21x) (.c (.n 1))) (.cons (some x21x) none (.mv (.t x32x)) .nil))))))))) (.seq (.reg (.cons (some x33x) none (.mv (.t x7x)) (.cons (some x4x) none (.mv (.t x33x)) .nil))) 
  .ret)))))) [(.tmp x4x)])
theorem cc30 : compF Tryd.prog drops true false Tryd.f30 = some i30 := by kernel_rfl
noncomputable def i31 : FnI := (.mk true false (.seq (.reg (.cons (some x2x) none (.mv (.c .ns)) .nil)) (.seq (.reg (.cons (some x3x) none (.mv (.c .ns)) .nil)) (.seq (.seq (.reg (.cons (some x5x) none (.mv (.t 
  x0x)) (.cons (some x4x) none (.mv (.t x5x)) .nil))) (.block 0 (.loop (.seq (.seq (.reg (.cons (some x6x) none (.mv (.t x4x)) (.cons (some x7x) none (.bin .neq (.t x6x) (.c (.i 
  .u64 (.ofNat 0)))) .nil))) (.cond (.t x7x) .skip (.exit 0))) (.seq (.block 1 (.reg (.cons (some x14x) none (.mv (.t x3x)) (.cons (some x15x) none (.mv (.t x4x)) (.cons (some 
  x16x) none (.call 53 (.cons (.t x15x) .nil)) (.cons (some x17x) none (.bsl 3 1 1 (.cons (.n 0) .nil) (.cons 0 1 (.t x16x) .nil)) (.cons (some x18x) none (.app 3 1 8 (.t x14x) (.t 
  x17x)) (.cons (some x3x) none (.mv (.t x18x)) .nil)))))))) (.reg (.cons (some x8x) none (.mv (.t x4x)) (.cons (some x9x) none (.mv (.t x4x)) (.cons (some x10x) none (.call 53 
  (.cons (.t x9x) .nil)) (.cons (some x11x) none (.bsl 3 1 1 (.cons (.n 0) .nil) (.cons 0 1 (.t x10x) .nil)) (.cons (some x12x) none (.call 52 (.cons (.t x11x) .nil)) (.cons (some 
  x13x) none (.call 50 (.cons (.t x8x) (.cons (.t x12x) .nil))) (.cons (some x4x) none (.mv (.t x13x)) .nil))))))))))))) (.seq (.reg (.cons (some x19x) none (.mv (.t x3x)) (.cons 
  (some x2x) none (.mv (.t x19x)) .nil))) .ret)))) [(.tmp x2x)])
theorem cc31 : compF Tryd.prog drops true false Tryd.f31 = some i31 := by kernel_rfl
noncomputable def i32 : FnI := (.mk true true (.seq (.reg (.cons (some x4x) none (.mv (.c (.i .u64 (.ofNat 0)))) .nil)) (.seq (.reg (.cons (some x9x) none (.mv (.t x0x)) (.cons (some x10x) none (.call 54 (.cons 
  (.t x9x) .nil)) (.cons (some x5x) none (.mv (.t x10x)) .nil)))) (.seq (.reg (.cons (some x6x) none (.mv (.c (.i .u64 (.ofNat 0)))) .nil)) (.seq (.seq (.reg (.cons (some x11x) 
  none (.mv (.t x0x)) (.cons (some x12x) none (.mv (.c (.n 0))) .nil))) (.block 0 (.loop (.seq (.reg (.cons (some x13x) none (.bin .lss (.t x12x) (.t x11x)) .nil)) (.seq (.cond (.t 
  x13x) .skip (.exit 0)) (.seq (.block 1 (.seq (.reg (.cons (some x14x) none (.mv (.t x12x)) (.cons (some x7x) none (.mv (.t x14x)) .nil))) (.seq (.seq (.reg (.cons (some x15x) 
  none (.mv (.t x1x)) (.cons (some x16x) none (.mv (.t x7x)) (.cons (some x17x) none (.call 55 (.cons (.t x15x) (.cons (.t x16x) .nil))) (.cons (some x18x) none (.not (.t x17x)) 
  .nil))))) (.cond (.t x18x) (.seq (.reg (.cons (some x19x) none (.mv (.t x6x)) (.cons (some x20x) none (.mv (.t x7x)) (.cons (some x21x) none (.call 51 (.cons (.t x19x) (.cons (.t 
  x20x) .nil))) (.cons (some x6x) none (.mv (.t x21x)) .nil))))) (.exit 1)) .skip)) (.seq (.seq (.reg (.cons (some x22x) none (.mv (.t x6x)) (.cons (some x23x) none (.bin .eql (.t 
  x22x) (.c (.i .u64 (.ofNat 0)))) .nil))) (.cond (.t x23x) (.exit 1) .skip)) (.seq (.reg (.cons (some x24x) none (.mv (.t x6x)) (.cons (some x25x) none (.call 56 (.cons (.t x24x) 
  .nil)) (.cons (some x8x) none (.mv (.t x25x)) .nil)))) (.seq (.reg (.cons (some x26x) none (.mv (.t x6x)) (.cons (some x27x) none (.mv (.t x8x)) (.cons (some x28x) none (.bsl 3 1 
  1 (.cons (.n 0) .nil) (.cons 0 1 (.t x27x) .nil)) (.cons (some x29x) none (.call 52 (.cons (.t x28x) .nil)) (.cons (some x30x) none (.call 50 (.cons (.t x26x) (.cons (.t x29x) 
  .nil))) (.cons (some x6x) none (.mv (.t x30x)) .nil))))))) (.reg (.cons (some x31x) none (.mv (.t x5x)) (.cons (some x32x) none (.mv (.t x8x)) (.cons (some x33x) none (.mv (.t 
  x7x)) (.cons (some x34x) none (.bsl 3 1 2 (.cons (.n 0) (.cons (.n 0) .nil)) (.cons 0 1 (.t x32x) (.cons 1 1 (.t x33x) .nil))) (.cons (some x35x) none (.call 52 (.cons (.t x34x) 
  .nil)) (.cons (some x36x) none (.call 50 (.cons (.t x31x) (.cons (.t x35x) .nil))) (.cons (some x5x) none (.mv (.t x36x)) .nil)))))))))))))) (.reg (.cons (some x37x) none (.bin 
  .add (.t x12x) (.c (.n 1))) (.cons (some x12x) none (.mv (.t x37x)) .nil))))))))) (.seq (.reg (.cons (some x38x) none (.mv (.t x5x)) (.cons (some x4x) none (.mv (.t x38x)) 
  .nil))) .ret))))) [(.tmp x4x)])
theorem cc32 : compF Tryd.prog drops true true Tryd.f32 = some i32 := by kernel_rfl
noncomputable def i33 : FnI := (.mk true true (.seq (.reg (.cons (some x4x) none (.mv (.c (.b false))) .nil)) (.seq (.reg (.cons (some x5x) none (.mv (.t x0x)) (.cons (some x6x) none (.call 57 (.cons (.t x5x) 
  .nil)) (.cons (some x7x) none (.mv (.t x6x)) (.cons (some x8x) (some (.mk x7x true)) (.mv (.t x1x)) (.cons (some x9x) (some (.mk x7x true)) (.call 57 (.cons (.t x8x) .nil)) 
  (.cons (some x10x) (some (.mk x7x true)) (.not (.t x9x)) (.cons (some x11x) none (.pick (.t x7x) (.t x10x) (.c (.b false))) (.cons (some x12x) none (.mv (.t x11x)) (.cons (some 
  x13x) (some (.mk x12x false)) (.mv (.t x0x)) (.cons (some x14x) (some (.mk x12x false)) (.mv (.t x1x)) (.cons (some x15x) (some (.mk x12x false)) (.bin .lss (.t x13x) (.t x14x)) 
  (.cons (some x16x) none (.pick (.t x12x) (.c (.b true)) (.t x15x)) (.cons (some x4x) none (.mv (.t x16x)) .nil)))))))))))))) .ret)) [(.tmp x4x)])
theorem cc33 : compF Tryd.prog drops true true Tryd.f33 = some i33 := by kernel_rfl
noncomputable def i34 : FnI := (.mk true true (.seq (.reg (.cons (some x4x) none (.mv (.c (.n 0))) .nil)) (.seq (.seq (.reg (.cons (some x6x) none (.mv (.t x0x)) (.cons (some x7x) none (.len (.t x6x)) (.cons 
  (some x8x) none (.mv (.c (.n 0))) .nil)))) (.block 0 (.loop (.seq (.reg (.cons (some x9x) none (.bin .lss (.t x8x) (.t x7x)) .nil)) (.seq (.cond (.t x9x) .skip (.exit 0)) (.seq 
  (.block 1 (.seq (.reg (.cons (some x10x) none (.mv (.t x8x)) (.cons (some x5x) none (.mv (.t x10x)) .nil))) (.seq (.reg (.cons (some x11x) none (.mv (.t x1x)) (.cons (some x12x) 
  none (.mv (.t x0x)) (.cons (some x13x) none (.mv (.t x5x)) (.cons (some x14x) none (.ixs 1 (.t x12x) (.t x13x)) (.cons (some x15x) none (.ld 1 false (.t x14x)) (.cons (some x16x) 
  none (.bin .eql (.t x11x) (.t x15x)) .nil))))))) (.cond (.t x16x) (.seq (.reg (.cons (some x17x) none (.mv (.t x5x)) (.cons (some x4x) none (.mv (.t x17x)) .nil))) .ret) 
  .skip)))) (.reg (.cons (some x18x) none (.bin .add (.t x8x) (.c (.n 1))) (.cons (some x8x) none (.mv (.t x18x)) .nil))))))))) (.seq (.reg (.cons (some x4x) none (.mv (.c (.i .i64 
  (.negSucc 0)))) .nil)) .ret))) [(.tmp x4x)])
theorem cc34 : compF Tryd.prog drops true true Tryd.f34 = some i34 := by kernel_rfl
noncomputable def i35 : FnI := (.mk true true (.seq (.reg (.cons (some x1x) none (.box 42 (.t x0x)) (.cons (some x2x) none (.mv (.c (.n 0))) (.cons (some x3x) none (.mv (.c (.n 0))) (.cons (some x4x) none (.mv 
  (.c (.n 0))) .nil))))) (.seq (.reg (.cons (some x10x) none (.ld 2 true (.t x1x)) (.cons (some x11x) none (.call 45 (.cons (.t x10x) .nil)) (.cons (some x9x) none (.mv (.t x11x)) 
  (.cons (some x12x) none (.ext 0 (.t x9x)) (.cons (some x13x) none (.ext 1 (.t x9x)) (.cons (some x5x) none (.mv (.t x12x)) (.cons (some x4x) none (.mv (.t x13x)) .nil)))))))) 
  (.seq (.seq (.reg (.cons (some x14x) none (.mv (.t x4x)) (.cons (some x15x) none (.bin .neq (.t x14x) (.c (.n 0))) .nil))) (.cond (.t x15x) (.seq (.reg (.cons (some x16x) none 
  (.mv (.t x4x)) (.cons (some x2x) none (.mv (.c (.n 0))) (.cons (some x3x) none (.mv (.c (.n 0))) (.cons (some x4x) none (.mv (.t x16x)) .nil))))) .ret) .skip)) (.seq (.seq (.reg 
  (.cons (some x17x) none (.mv (.t x5x)) (.cons (some x18x) none (.len (.t x17x)) (.cons (some x19x) none (.mv (.c (.n 0))) .nil)))) (.block 0 (.loop (.seq (.reg (.cons (some x20x) 
  none (.bin .lss (.t x19x) (.t x18x)) .nil)) (.seq (.cond (.t x20x) .skip (.exit 0)) (.seq (.block 1 (.seq (.reg (.cons (some x21x) none (.mv (.t x19x)) (.cons (some x22x) none 
  (.ixs 1 (.t x17x) (.t x19x)) (.cons (some x23x) none (.ld 1 false (.t x22x)) (.cons (some x6x) none (.mv (.t x21x)) (.cons (some x7x) none (.mv (.t x23x)) .nil)))))) (.seq (.reg 
  (.cons (some x24x) none (.mv (.t x5x)) (.cons (some x25x) none (.mv (.t x7x)) (.cons (some x26x) none (.mkf 59 (.cons (.t x25x) .nil) .nil) (.cons (some x27x) none (.call 58 
  (.cons (.t x24x) (.cons (.t x26x) .nil))) (.cons (some x8x) none (.mv (.t x27x)) .nil)))))) (.seq (.reg (.cons (some x28x) none (.mv (.t x8x)) (.cons (some x29x) none (.bin .geq 
  (.t x28x) (.c (.n 0))) .nil))) (.cond (.t x29x) (.seq (.reg (.cons (some x30x) none (.mv (.t x6x)) (.cons (some x31x) none (.mv (.t x8x)) (.cons (some x2x) none (.mv (.t x30x)) 
  (.cons (some x3x) none (.mv (.t x31x)) (.cons (some x4x) none (.mv (.c (.n 0))) .nil)))))) .ret) .skip))))) (.reg (.cons (some x32x) none (.bin .add (.t x19x) (.c (.n 1))) (.cons 
  (some x19x) none (.mv (.t x32x)) .nil))))))))) (.seq (.reg (.cons (some x2x) none (.mv (.c (.n 0))) (.cons (some x3x) none (.mv (.c (.n 0))) (.cons (some x4x) none (.mv (.c (.n 
  12))) .nil)))) .ret))))) [(.tmp x2x), (.tmp x3x), (.tmp x4x)])
theorem cc35 : compF Tryd.prog drops true true Tryd.f35 = some i35 := by kernel_rfl
noncomputable def i36 : FnI := (.mk true false (.seq (.reg (.cons (some x0x) none (.alloc 42 (.cons (.n 0) (.cons .ns .nil)) 2) .nil)) (.seq (.reg (.cons (some x1x) none (.bsl 3 1 2 (.cons (.n 0) (.cons (.n 0) 
  .nil)) (.cons 0 1 (.c (.n 0)) (.cons 1 1 (.c (.n 1)) .nil))) (.cons (some x2x) none (.call 24 (.cons (.t x1x) .nil)) (.cons (some x3x) none (.bsl 3 1 1 (.cons (.n 0) .nil) (.cons 
  0 1 (.c (.n 0)) .nil)) (.cons (some x4x) none (.call 24 (.cons (.t x3x) .nil)) (.cons (some x5x) none (.bsl 3 1 2 (.cons (.n 0) (.cons (.n 0) .nil)) (.cons 0 1 (.c (.n 1)) (.cons 
  1 1 (.c (.n 2)) .nil))) (.cons (some x6x) none (.call 24 (.cons (.t x5x) .nil)) (.cons (some x7x) none (.bsl 26 1 3 (.cons .ns (.cons .ns (.cons .ns .nil))) (.cons 0 1 (.t x2x) 
  (.cons 1 1 (.t x4x) (.cons 2 1 (.t x6x) .nil)))) (.cons (some x8x) none (.call 27 (.cons (.c (.n 3)) (.cons (.t x7x) .nil))) (.cons none none (.st 2 (.t x0x) (.t x8x)) 
  .nil)))))))))) .ret)) [(.cell x0x 2 true)])
theorem cc36 : compF Tryd.prog drops true false Tryd.f36 = some i36 := by kernel_rfl
noncomputable def i37 : FnI := (.mk true false (.seq (.reg (.cons (some x1x) none (.box 3 (.t x0x)) (.cons (some x2x) none (.mv (.c .ns)) (.cons (some x3x) none (.mv (.c (.n 0))) .nil)))) (.seq (.seq (.reg 
  (.cons (some x5x) none (.ld 1 false (.t x1x)) (.cons (some x6x) none (.call 41 (.cons (.t x5x) .nil)) (.cons (some x7x) none (.not (.t x6x)) .nil)))) (.cond (.t x7x) (.seq (.reg 
  (.cons (some x2x) none (.mv (.c .ns)) (.cons (some x3x) none (.mv (.c (.n 1))) .nil))) .ret) .skip)) (.seq (.reg (.cons (some x8x) none (.mkf 60 .nil (.cons (.t x1x) .nil)) 
  (.cons (some x4x) none (.mv (.t x8x)) .nil))) (.seq (.reg (.cons (some x9x) none (.ld 1 false (.t x1x)) (.cons (some x10x) none (.call 62 (.cons (.t x9x) .nil)) (.cons (some 
  x11x) none (.call 46 (.cons (.t x10x) .nil)) (.cons (some x12x) none (.mv (.t x4x)) (.cons (some x13x) none (.call 61 (.cons (.t x11x) (.cons (.t x12x) .nil))) (.cons (some x2x) 
  none (.mv (.t x13x)) (.cons (some x3x) none (.mv (.c (.n 0))) .nil)))))))) .ret)))) [(.tmp x2x), (.tmp x3x)])
theorem cc37 : compF Tryd.prog drops true false Tryd.f37 = some i37 := by kernel_rfl
noncomputable def i38 : FnI := (.mk true false (.seq (.reg (.cons (some x1x) none (.box 42 (.t x0x)) (.cons (some x2x) none (.mv (.c .ns)) (.cons (some x3x) none (.mv (.c (.n 0))) .nil)))) (.seq (.reg (.cons 
  (some x7x) none (.ld 2 true (.t x1x)) (.cons (some x8x) none (.call 45 (.cons (.t x7x) .nil)) (.cons (some x6x) none (.mv (.t x8x)) (.cons (some x9x) none (.ext 0 (.t x6x)) 
  (.cons (some x10x) none (.ext 1 (.t x6x)) (.cons (some x4x) none (.mv (.t x9x)) (.cons (some x5x) none (.mv (.t x10x)) .nil)))))))) (.seq (.seq (.reg (.cons (some x11x) none (.mv 
  (.t x5x)) (.cons (some x12x) none (.bin .neq (.t x11x) (.c (.n 0))) .nil))) (.cond (.t x12x) (.seq (.reg (.cons (some x13x) none (.mv (.t x5x)) (.cons (some x2x) none (.mv (.c 
  .ns)) (.cons (some x3x) none (.mv (.t x13x)) .nil)))) .ret) .skip)) (.seq (.reg (.cons (some x14x) none (.fad 0 (.t x1x)) (.cons (some x15x) none (.ld 1 false (.t x14x)) (.cons 
  (some x16x) none (.mv (.t x4x)) (.cons (some x17x) none (.call 63 (.cons (.t x15x) (.cons (.t x16x) .nil))) (.cons (some x18x) none (.call 46 (.cons (.t x17x) .nil)) (.cons (some 
  x19x) none (.call 29 (.cons (.t x18x) (.cons (.c (.fn 31 .nil .nil)) .nil))) (.cons (some x2x) none (.mv (.t x19x)) (.cons (some x3x) none (.mv (.c (.n 0))) .nil))))))))) 
  .ret)))) [(.tmp x2x), (.tmp x3x)])
theorem cc38 : compF Tryd.prog drops true false Tryd.f38 = some i38 := by kernel_rfl
noncomputable def i39 : FnI := (.mk true true (.seq (.reg (.cons (some x4x) none (.mv (.c (.b false))) .nil)) (.seq (.seq (.reg (.cons (some x6x) none (.mv (.t x0x)) (.cons (some x7x) none (.len (.t x6x)) (.cons 
  (some x8x) none (.mv (.t x1x)) (.cons (some x9x) none (.len (.t x8x)) (.cons (some x10x) none (.bin .neq (.t x7x) (.t x9x)) .nil)))))) (.cond (.t x10x) (.seq (.reg (.cons (some 
  x4x) none (.mv (.c (.b false))) .nil)) .ret) .skip)) (.seq (.seq (.reg (.cons (some x5x) none (.mv (.c (.n 0))) .nil)) (.block 0 (.loop (.seq (.seq (.reg (.cons (some x11x) none 
  (.mv (.t x5x)) (.cons (some x12x) none (.mv (.t x0x)) (.cons (some x13x) none (.len (.t x12x)) (.cons (some x14x) none (.bin .lss (.t x11x) (.t x13x)) .nil))))) (.cond (.t x14x) 
  .skip (.exit 0))) (.seq (.block 1 (.seq (.draw [(.mk (some x17x) none true [] false [] [] [x0x] (.mv (.t x0x)) false [] [] []), (.mk (some x18x) none true [] false [false] [] 
  [x5x] (.mv (.t x5x)) false [] [] []), (.mk (some x19x) none true [] false [true, true] [] [x17x, x18x] (.ixs 1 (.t x17x) (.t x18x)) false [] [] []), (.mk (some x20x) none false 
  [] false [true, true, true] [] [x19x] (.ld 1 false (.t x19x)) false [] [] []), (.mk (some x21x) none true [] false [false, false, false, false] [] [x1x] (.mv (.t x1x)) false [] 
  [] []), (.mk (some x22x) none true [] false [false, false, false, false, false] [] [x5x] (.mv (.t x5x)) false [] [] []), (.mk (some x23x) none true [] false [true, true, false, 
  false, false, false] [] [x21x, x22x] (.ixs 1 (.t x21x) (.t x22x)) false [] [] []), (.mk (some x24x) none false [] false [true, true, true, false, false, false, false] [] [x23x] 
  (.ld 1 false (.t x23x)) false [] [] []), (.mk (some x25x) none false [] false [true, true, true, true, true, true, true, true] [] [x20x, x24x] (.call 11 (.cons (.t x20x) (.cons 
  (.t x24x) .nil))) false [] [] []), (.mk (some x26x) none true [] false [true, true, true, true, true, true, true, true, true] [] [x25x] (.not (.t x25x)) false [] [] [])]) (.cond 
  (.t x26x) (.seq (.reg (.cons (some x4x) none (.mv (.c (.b false))) .nil)) .ret) .skip))) (.reg (.cons (some x15x) none (.mv (.t x5x)) (.cons (some x16x) none (.bin .add (.t x15x) 
  (.c (.n 1))) (.cons (some x5x) none (.mv (.t x16x)) .nil))))))))) (.seq (.reg (.cons (some x4x) none (.mv (.c (.b true))) .nil)) .ret)))) [(.tmp x4x)])
theorem cc39 : compF Tryd.prog drops true true Tryd.f39 = some i39 := by kernel_rfl
noncomputable def i40 : FnI := (.mk true true (.seq (.reg (.cons (some x2x) none (.mv (.c (.n 0))) .nil)) (.seq (.cond (.c (.b false)) (.seq (.reg (.cons (some x3x) none (.mv (.t x0x)) (.cons (some x4x) none 
  (.conv .u32 (.t x3x)) (.cons (some x5x) none (.call 64 (.cons (.t x4x) .nil)) (.cons (some x2x) none (.mv (.t x5x)) .nil))))) .ret) .skip) (.seq (.reg (.cons (some x6x) none (.mv 
  (.t x0x)) (.cons (some x7x) none (.call 65 (.cons (.t x6x) .nil)) (.cons (some x2x) none (.mv (.t x7x)) .nil)))) .ret))) [(.tmp x2x)])
theorem cc40 : compF Tryd.prog drops true true Tryd.f40 = some i40 := by kernel_rfl
noncomputable def i41 : FnI := (.mk true true (.seq (.reg (.cons (some x2x) none (.mv (.c (.b false))) .nil)) (.seq (.reg (.cons (some x3x) none (.mv (.t x0x)) (.cons (some x4x) none (.bin .geq (.t x3x) (.c (.n 
  1))) (.cons (some x5x) none (.mv (.t x4x)) (.cons (some x6x) (some (.mk x5x true)) (.mv (.t x0x)) (.cons (some x7x) (some (.mk x5x true)) (.bin .leq (.t x6x) (.c (.n 6))) (.cons 
  (some x8x) none (.pick (.t x5x) (.t x7x) (.c (.b false))) (.cons (some x2x) none (.mv (.t x8x)) .nil)))))))) .ret)) [(.tmp x2x)])
theorem cc41 : compF Tryd.prog drops true true Tryd.f41 = some i41 := by kernel_rfl
noncomputable def i42 : FnI := (.mk true true (.seq (.reg (.cons (some x4x) none (.mv (.c (.b false))) .nil)) (.seq (.reg (.cons (some x5x) none (.mv (.t x1x)) (.cons (some x6x) none (.bin .geq (.t x5x) (.c (.n 
  0))) (.cons (some x7x) none (.mv (.t x6x)) (.cons (some x8x) (some (.mk x7x true)) (.mv (.t x1x)) (.cons (some x9x) (some (.mk x7x true)) (.mv (.t x0x)) (.cons (some x10x) (some 
  (.mk x7x true)) (.bin .leq (.t x8x) (.t x9x)) (.cons (some x11x) none (.pick (.t x7x) (.t x10x) (.c (.b false))) (.cons (some x4x) none (.mv (.t x11x)) .nil))))))))) .ret)) 
  [(.tmp x4x)])
theorem cc42 : compF Tryd.prog drops true true Tryd.f42 = some i42 := by kernel_rfl
noncomputable def i43 : FnI := (.mk true false (.seq (.reg (.cons (some x3x) none (.box 3 (.t x1x)) (.cons (some x4x) none (.mv (.c .ns)) .nil))) (.seq (.reg (.cons (some x5x) none (.mv (.t x0x)) (.cons (some 
  x6x) none (.mkf 67 .nil (.cons (.t x3x) .nil)) (.cons (some x7x) none (.call 66 (.cons (.t x5x) (.cons (.t x6x) .nil))) (.cons (some x4x) none (.mv (.t x7x)) .nil))))) .ret)) 
  [(.tmp x4x)])
theorem cc43 : compF Tryd.prog drops true false Tryd.f43 = some i43 := by kernel_rfl
noncomputable def i44 : FnI := (.mk true false (.seq (.reg (.cons (some x3x) none (.box 59 (.t x1x)) (.cons (some x4x) none (.mv (.c .ns)) .nil))) (.seq (.reg (.cons (some x5x) none (.mv (.t x0x)) (.cons (some 
  x6x) none (.mkf 68 .nil (.cons (.t x3x) .nil)) (.cons (some x7x) none (.call 66 (.cons (.t x5x) (.cons (.t x6x) .nil))) (.cons (some x4x) none (.mv (.t x7x)) .nil))))) .ret)) 
  [(.tmp x4x)])
theorem cc44 : compF Tryd.prog drops true false Tryd.f44 = some i44 := by kernel_rfl
noncomputable def i45 : FnI := (.mk true false (.seq (.reg (.cons (some x1x) none (.box 42 (.t x0x)) (.cons (some x2x) none (.mv (.c .ns)) (.cons (some x3x) none (.mv (.c (.n 0))) .nil)))) (.seq (.seq (.reg 
  (.cons (some x9x) none (.fad 0 (.t x1x)) (.cons (some x10x) none (.ld 1 false (.t x9x)) (.cons (some x11x) none (.call 41 (.cons (.t x10x) .nil)) (.cons (some x12x) none (.not 
  (.t x11x)) .nil))))) (.cond (.t x12x) (.seq (.reg (.cons (some x2x) none (.mv (.c .ns)) (.cons (some x3x) none (.mv (.c (.n 1))) .nil))) .ret) .skip)) (.seq (.reg (.cons (some 
  x4x) none (.mv (.c .ns)) .nil)) (.seq (.seq (.reg (.cons (some x13x) none (.fad 1 (.t x1x)) (.cons (some x14x) none (.ld 1 false (.t x13x)) (.cons (some x15x) none (.len (.t 
  x14x)) (.cons (some x16x) none (.mv (.c (.n 0))) .nil))))) (.block 0 (.loop (.seq (.reg (.cons (some x17x) none (.bin .lss (.t x16x) (.t x15x)) .nil)) (.seq (.cond (.t x17x) 
  .skip (.exit 0)) (.seq (.block 1 (.seq (.reg (.cons (some x18x) none (.ixs 1 (.t x14x) (.t x16x)) (.cons (some x19x) none (.ld 1 false (.t x18x)) (.cons (some x6x) none (.mv (.t 
  x19x)) .nil)))) (.seq (.seq (.reg (.cons (some x20x) none (.fad 0 (.t x1x)) (.cons (some x21x) none (.ld 1 false (.t x20x)) (.cons (some x22x) none (.mv (.t x6x)) (.cons (some 
  x23x) none (.call 71 (.cons (.t x21x) (.cons (.t x22x) .nil))) (.cons (some x7x) none (.mv (.t x23x)) .nil)))))) (.seq (.reg (.cons (some x24x) none (.mv (.t x7x)) (.cons (some 
  x25x) none (.bin .neq (.t x24x) (.c (.n 0))) .nil))) (.cond (.t x25x) (.seq (.reg (.cons (some x26x) none (.mv (.t x7x)) (.cons (some x2x) none (.mv (.c .ns)) (.cons (some x3x) 
  none (.mv (.t x26x)) .nil)))) .ret) .skip))) (.seq (.reg (.cons (some x27x) none (.mv (.t x6x)) (.cons (some x28x) none (.call 52 (.cons (.t x27x) .nil)) (.cons (some x8x) none 
  (.mv (.t x28x)) .nil)))) (.seq (.seq (.reg (.cons (some x29x) none (.mv (.t x4x)) (.cons (some x30x) none (.mv (.t x8x)) (.cons (some x31x) none (.call 72 (.cons (.t x29x) (.cons 
  (.t x30x) .nil))) .nil)))) (.cond (.t x31x) (.seq (.reg (.cons (some x2x) none (.mv (.c .ns)) (.cons (some x3x) none (.mv (.c (.n 6))) .nil))) .ret) .skip)) (.reg (.cons (some 
  x32x) none (.mv (.t x4x)) (.cons (some x33x) none (.mv (.t x8x)) (.cons (some x34x) none (.bsl 55 1 1 (.cons (.i .u64 (.ofNat 0)) .nil) (.cons 0 1 (.t x33x) .nil)) (.cons (some 
  x35x) none (.app 55 1 8 (.t x32x) (.t x34x)) (.cons (some x4x) none (.mv (.t x35x)) .nil))))))))))) (.reg (.cons (some x36x) none (.bin .add (.t x16x) (.c (.n 1))) (.cons (some 
  x16x) none (.mv (.t x36x)) .nil))))))))) (.seq (.reg (.cons (some x37x) none (.mv (.t x4x)) (.cons (some x2x) none (.mv (.t x37x)) (.cons (some x3x) none (.mv (.c (.n 0))) 
  .nil)))) .ret))))) [(.tmp x2x), (.tmp x3x)])
theorem cc45 : compF Tryd.prog drops true false Tryd.f45 = some i45 := by kernel_rfl
noncomputable def i46 : FnI := (.mk true false (.seq (.reg (.cons (some x2x) none (.mv (.c .ns)) .nil)) (.seq (.reg (.cons (some x3x) none (.mv (.t x0x)) (.cons (some x4x) none (.call 74 (.cons (.t x3x) .nil)) 
  (.cons (some x5x) none (.call 73 (.cons (.t x4x) (.cons (.c (.fn 75 .nil .nil)) .nil))) (.cons (some x2x) none (.mv (.t x5x)) .nil))))) .ret)) [(.tmp x2x)])
theorem cc46 : compF Tryd.prog drops true false Tryd.f46 = some i46 := by kernel_rfl
noncomputable def i47 : FnI := (.mk true true (.seq (.reg (.cons (some x4x) none (.mv (.c (.n 0))) .nil)) (.seq (.seq (.reg (.cons (some x6x) none (.mv (.t x0x)) (.cons (some x7x) none (.len (.t x6x)) (.cons 
  (some x8x) none (.mv (.c (.n 0))) .nil)))) (.block 0 (.loop (.seq (.reg (.cons (some x9x) none (.bin .lss (.t x8x) (.t x7x)) .nil)) (.seq (.cond (.t x9x) .skip (.exit 0)) (.seq 
  (.block 1 (.seq (.reg (.cons (some x10x) none (.mv (.t x8x)) (.cons (some x5x) none (.mv (.t x10x)) .nil))) (.seq (.reg (.cons (some x11x) none (.mv (.t x1x)) (.cons (some x12x) 
  none (.mv (.t x0x)) (.cons (some x13x) none (.mv (.t x5x)) (.cons (some x14x) none (.ixs 1 (.t x12x) (.t x13x)) (.cons (some x15x) none (.ld 1 false (.t x14x)) (.cons (some x16x) 
  none (.bin .eql (.t x11x) (.t x15x)) .nil))))))) (.cond (.t x16x) (.seq (.reg (.cons (some x17x) none (.mv (.t x5x)) (.cons (some x4x) none (.mv (.t x17x)) .nil))) .ret) 
  .skip)))) (.reg (.cons (some x18x) none (.bin .add (.t x8x) (.c (.n 1))) (.cons (some x8x) none (.mv (.t x18x)) .nil))))))))) (.seq (.reg (.cons (some x4x) none (.mv (.c (.i .i64 
  (.negSucc 0)))) .nil)) .ret))) [(.tmp x4x)])
theorem cc47 : compF Tryd.prog drops true true Tryd.f47 = some i47 := by kernel_rfl
noncomputable def i48 : FnI := (.mk true true (.seq (.reg (.cons (some x2x) none (.mv (.c (.n 0))) .nil)) (.seq (.reg (.cons (some x3x) none (.mv (.t x0x)) (.cons (some x4x) none (.call 40 (.cons (.t x3x) .nil)) 
  (.cons (some x2x) none (.mv (.t x4x)) .nil)))) .ret)) [(.tmp x2x)])
theorem cc48 : compF Tryd.prog drops true true Tryd.f48 = some i48 := by kernel_rfl
noncomputable def i49 : FnI := (.mk true true (.seq (.reg (.cons (some x4x) none (.mv (.c (.n 0))) .nil)) (.seq (.reg (.cons (some x9x) none (.mv (.t x0x)) (.cons (some x10x) none (.call 54 (.cons (.t x9x) 
  .nil)) (.cons (some x11x) none (.bin .add (.t x10x) (.c (.i .u64 (.ofNat 1)))) (.cons (some x12x) none (.mks 3 1 8 1 (.cons (.n 0) .nil) (.t x11x) (.t x11x)) (.cons (some x5x) 
  none (.mv (.t x12x)) .nil)))))) (.seq (.seq (.reg (.cons (some x13x) none (.mv (.t x0x)) (.cons (some x14x) none (.call 54 (.cons (.t x13x) .nil)) (.cons (some x15x) none (.bin 
  .add (.t x14x) (.c (.i .u64 (.ofNat 1)))) (.cons (some x16x) none (.mv (.c (.i .u64 (.ofNat 0)))) .nil))))) (.block 0 (.loop (.seq (.reg (.cons (some x17x) none (.bin .lss (.t 
  x16x) (.t x15x)) .nil)) (.seq (.cond (.t x17x) .skip (.exit 0)) (.seq (.block 1 (.seq (.reg (.cons (some x18x) none (.mv (.t x16x)) (.cons (some x6x) none (.mv (.t x18x)) .nil))) 
  (.block 2 (.seq (.reg (.cons (some x42x) none (.mv (.t x1x)) (.cons (some x43x) none (.mv (.t x6x)) (.cons (some x44x) none (.call 72 (.cons (.t x42x) (.cons (.t x43x) .nil))) 
  (.cons (some x41x) none (.mv (.t x44x)) .nil))))) (.cond (.t x41x) (.reg (.cons (some x45x) none (.mv (.t x5x)) (.cons (some x46x) none (.mv (.t x6x)) (.cons (some x47x) none 
  (.ixs 1 (.t x45x) (.t x46x)) (.cons none none (.st 1 (.t x47x) (.c (.n 0))) .nil))))) (.seq (.reg (.cons (some x49x) none (.mv (.t x6x)) (.cons (some x50x) none (.bin .eql (.t 
  x49x) (.c (.i .u64 (.ofNat 0)))) (.cons (some x48x) none (.mv (.t x50x)) .nil)))) (.cond (.t x48x) (.reg (.cons (some x51x) none (.mv (.t x5x)) (.cons (some x52x) none (.mv (.t 
  x6x)) (.cons (some x53x) none (.ixs 1 (.t x51x) (.t x52x)) (.cons none none (.st 1 (.t x53x) (.c (.n 1))) .nil))))) (.seq (.reg (.cons (some x19x) none (.mv (.t x6x)) (.cons 
  (some x20x) none (.call 31 (.cons (.t x19x) .nil)) (.cons (some x21x) none (.len (.t x20x)) (.cons (some x22x) none (.mv (.c (.n 0))) .nil))))) (.block 3 (.loop (.seq (.reg 
  (.cons (some x23x) none (.bin .lss (.t x22x) (.t x21x)) .nil)) (.seq (.cond (.t x23x) .skip (.exit 3)) (.seq (.block 4 (.seq (.reg (.cons (some x24x) none (.ixs 1 (.t x20x) (.t 
  x22x)) (.cons (some x25x) none (.ld 1 false (.t x24x)) (.cons (some x8x) none (.mv (.t x25x)) .nil)))) (.draw [(.mk (some x26x) none true [] false [] [] [x5x] (.mv (.t x5x)) 
  false [] [] []), (.mk (some x27x) none true [] false [false] [] [x6x] (.mv (.t x6x)) false [] [] []), (.mk (some x28x) none true [] false [true, true] [] [x26x, x27x] (.ixs 1 (.t 
  x26x) (.t x27x)) false [] [] []), (.mk (some x29x) none false [] false [true, true, true] [] [x28x] (.ld 1 false (.t x28x)) false [] [] []), (.mk (some x30x) none true [] false 
  [false, false, false, false] [] [x5x] (.mv (.t x5x)) false [] [] []), (.mk (some x31x) none true [] false [false, false, false, false, false] [] [x6x] (.mv (.t x6x)) false [] [] 
  []), (.mk (some x32x) none true [] false [false, false, false, false, false, false] [] [x8x] (.mv (.t x8x)) false [] [] []), (.mk (some x33x) none true [] true [true, false, 
  false, false, false, false, false] [] [x32x] (.bsl 3 1 1 (.cons (.n 0) .nil) (.cons 0 1 (.t x32x) .nil)) false [] [] []), (.mk (some x34x) none false [] false [true, true, false, 
  false, false, false, false, false] [] [x33x] (.call 52 (.cons (.t x33x) .nil)) false [] [] []), (.mk (some x35x) none false [] false [true, true, true, true, false, false, false, 
  false, false] [] [x31x, x34x] (.call 50 (.cons (.t x31x) (.cons (.t x34x) .nil))) false [] [] []), (.mk (some x36x) none true [] false [true, true, true, true, true, true, false, 
  false, false, false] [] [x30x, x35x] (.ixs 1 (.t x30x) (.t x35x)) false [] [] []), (.mk (some x37x) none false [] false [true, true, true, true, true, true, true, false, false, 
  false, false] [] [x36x] (.ld 1 false (.t x36x)) false [] [] []), (.mk (some x38x) none true [] false [true, true, true, true, true, true, true, true, true, true, true, true] [] 
  [x29x, x37x] (.bin .add (.t x29x) (.t x37x)) false [] [] []), (.mk (some x39x) none true [] false [true, true, true, true, true, true, true, true, true, true, true, true, true] 
  [] [x26x, x27x] (.ixs 1 (.t x26x) (.t x27x)) false [] [] []), (.mk none none false [x39x] false [true, true, true, true, true, true, true, true, true, true, true, true, true, 
  true] [] [x39x, x38x] (.st 1 (.t x39x) (.t x38x)) false [] [] [])]))) (.reg (.cons (some x40x) none (.bin .add (.t x22x) (.c (.n 1))) (.cons (some x22x) none (.mv (.t x40x)) 
  .nil)))))))))))))))) (.reg (.cons (some x54x) none (.bin .add (.t x16x) (.c (.i .u64 (.ofNat 1)))) (.cons (some x16x) none (.mv (.t x54x)) .nil))))))))) (.seq (.reg (.cons (some 
  x55x) none (.mv (.t x5x)) (.cons (some x56x) none (.mv (.t x0x)) (.cons (some x57x) none (.call 54 (.cons (.t x56x) .nil)) (.cons (some x58x) none (.ixs 1 (.t x55x) (.t x57x)) 
  (.cons (some x59x) none (.ld 1 false (.t x58x)) (.cons (some x4x) none (.mv (.t x59x)) .nil))))))) .ret)))) [(.tmp x4x)])
theorem cc49 : compF Tryd.prog drops true true Tryd.f49 = some i49 := by kernel_rfl
noncomputable def i50 : FnI := (.mk true true (.seq (.reg (.cons (some x4x) none (.mv (.c (.i .u64 (.ofNat 0)))) .nil)) (.seq (.reg (.cons (some x5x) none (.mv (.t x0x)) (.cons (some x6x) none (.mv (.t x1x)) 
  (.cons (some x7x) none (.bin .andNot (.t x5x) (.t x6x)) (.cons (some x4x) none (.mv (.t x7x)) .nil))))) .ret)) [(.tmp x4x)])
theorem cc50 : compF Tryd.prog drops true true Tryd.f50 = some i50 := by kernel_rfl
noncomputable def i51 : FnI := (.mk true true (.seq (.reg (.cons (some x4x) none (.mv (.c (.i .u64 (.ofNat 0)))) .nil)) (.seq (.reg (.cons (some x5x) none (.mv (.t x0x)) (.cons (some x6x) none (.mv (.t x1x)) 
  (.cons (some x7x) none (.bin .shl (.c (.i .u64 (.ofNat 1))) (.t x6x)) (.cons (some x8x) none (.bin .or (.t x5x) (.t x7x)) (.cons (some x4x) none (.mv (.t x8x)) .nil)))))) .ret)) 
  [(.tmp x4x)])
theorem cc51 : compF Tryd.prog drops true true Tryd.f51 = some i51 := by kernel_rfl
noncomputable def i52 : FnI := (.mk true true (.seq (.reg (.cons (some x2x) none (.mv (.c (.i .u64 (.ofNat 0)))) .nil)) (.seq (.reg (.cons (some x3x) none (.mv (.c (.i .u64 (.ofNat 0)))) .nil)) (.seq (.seq (.reg 
  (.cons (some x6x) none (.mv (.t x0x)) (.cons (some x7x) none (.len (.t x6x)) (.cons (some x8x) none (.mv (.c (.n 0))) .nil)))) (.block 0 (.loop (.seq (.reg (.cons (some x9x) none 
  (.bin .lss (.t x8x) (.t x7x)) .nil)) (.seq (.cond (.t x9x) .skip (.exit 0)) (.seq (.block 1 (.seq (.reg (.cons (some x10x) none (.ixs 1 (.t x6x) (.t x8x)) (.cons (some x11x) none 
  (.ld 1 false (.t x10x)) (.cons (some x5x) none (.mv (.t x11x)) .nil)))) (.reg (.cons (some x12x) none (.mv (.t x3x)) (.cons (some x13x) none (.mv (.t x5x)) (.cons (some x14x) 
  none (.call 51 (.cons (.t x12x) (.cons (.t x13x) .nil))) (.cons (some x3x) none (.mv (.t x14x)) .nil))))))) (.reg (.cons (some x15x) none (.bin .add (.t x8x) (.c (.n 1))) (.cons 
  (some x8x) none (.mv (.t x15x)) .nil))))))))) (.seq (.reg (.cons (some x16x) none (.mv (.t x3x)) (.cons (some x2x) none (.mv (.t x16x)) .nil))) .ret)))) [(.tmp x2x)])
theorem cc52 : compF Tryd.prog drops true true Tryd.f52 = some i52 := by kernel_rfl
noncomputable def i53 : FnI := (.mk true true (.seq (.reg (.cons (some x2x) none (.mv (.c (.n 0))) .nil)) (.seq (.reg (.cons (some x3x) none (.mv (.t x0x)) (.cons (some x4x) none (.call 77 (.cons (.t x3x) .nil)) 
  (.cons (some x2x) none (.mv (.t x4x)) .nil)))) .ret)) [(.tmp x2x)])
theorem cc53 : compF Tryd.prog drops true true Tryd.f53 = some i53 := by kernel_rfl
noncomputable def i54 : FnI := (.mk true true (.seq (.reg (.cons (some x2x) none (.mv (.c (.i .u64 (.ofNat 0)))) .nil)) (.seq (.reg (.cons (some x3x) none (.mv (.t x0x)) (.cons (some x4x) none (.bin .shl (.c (.i 
  .u64 (.ofNat 1))) (.t x3x)) (.cons (some x5x) none (.bin .sub (.t x4x) (.c (.i .u64 (.ofNat 1)))) (.cons (some x2x) none (.mv (.t x5x)) .nil))))) .ret)) [(.tmp x2x)])
theorem cc54 : compF Tryd.prog drops true true Tryd.f54 = some i54 := by kernel_rfl
noncomputable def i55 : FnI := (.mk true true (.seq (.reg (.cons (some x4x) none (.mv (.c (.b false))) .nil)) (.seq (.reg (.cons (some x5x) none (.mv (.t x0x)) (.cons (some x6x) none (.mv (.t x1x)) (.cons (some 
  x7x) none (.bsl 3 1 1 (.cons (.n 0) .nil) (.cons 0 1 (.t x6x) .nil)) (.cons (some x8x) none (.call 52 (.cons (.t x7x) .nil)) (.cons (some x9x) none (.bin .and (.t x5x) (.t x8x)) 
  (.cons (some x10x) none (.bin .neq (.t x9x) (.c (.i .u64 (.ofNat 0)))) (.cons (some x4x) none (.mv (.t x10x)) .nil)))))))) .ret)) [(.tmp x4x)])
theorem cc55 : compF Tryd.prog drops true true Tryd.f55 = some i55 := by kernel_rfl
noncomputable def i56 : FnI := (.mk true true (.seq (.reg (.cons (some x2x) none (.mv (.c (.n 0))) .nil)) (.seq (.reg (.cons (some x3x) none (.mv (.t x0x)) (.cons (some x4x) none (.call 78 (.cons (.t x3x) .nil)) 
  (.cons (some x5x) none (.bin .sub (.t x4x) (.c (.n 1))) (.cons (some x2x) none (.mv (.t x5x)) .nil))))) .ret)) [(.tmp x2x)])
theorem cc56 : compF Tryd.prog drops true true Tryd.f56 = some i56 := by kernel_rfl
noncomputable def i57 : FnI := (.mk true true (.seq (.reg (.cons (some x2x) none (.mv (.c (.b false))) .nil)) (.seq (.reg (.cons (some x3x) none (.mv (.t x0x)) (.cons (some x4x) none (.mv (.t x0x)) (.cons (some 
  x5x) none (.bin .neq (.t x3x) (.t x4x)) (.cons (some x2x) none (.mv (.t x5x)) .nil))))) .ret)) [(.tmp x2x)])
theorem cc57 : compF Tryd.prog drops true true Tryd.f57 = some i57 := by kernel_rfl
noncomputable def i58 : FnI := (.mk true true (.seq (.reg (.cons (some x4x) none (.mv (.c (.n 0))) .nil)) (.seq (.seq (.reg (.cons (some x6x) none (.mv (.t x0x)) (.cons (some x7x) none (.len (.t x6x)) (.cons 
  (some x8x) none (.mv (.c (.n 0))) .nil)))) (.block 0 (.loop (.seq (.reg (.cons (some x9x) none (.bin .lss (.t x8x) (.t x7x)) .nil)) (.seq (.cond (.t x9x) .skip (.exit 0)) (.seq 
  (.block 1 (.seq (.reg (.cons (some x10x) none (.mv (.t x8x)) (.cons (some x5x) none (.mv (.t x10x)) .nil))) (.seq (.reg (.cons (some x11x) none (.mv (.t x1x)) (.cons (some x12x) 
  none (.mv (.t x0x)) (.cons (some x13x) none (.mv (.t x5x)) (.cons (some x14x) none (.ixs 1 (.t x12x) (.t x13x)) (.cons (some x15x) none (.ld 1 false (.t x14x)) (.cons (some x16x) 
  none (.callv (.t x11x) (.cons (.t x15x) .nil)) .nil))))))) (.cond (.t x16x) (.seq (.reg (.cons (some x17x) none (.mv (.t x5x)) (.cons (some x4x) none (.mv (.t x17x)) .nil))) 
  .ret) .skip)))) (.reg (.cons (some x18x) none (.bin .add (.t x8x) (.c (.n 1))) (.cons (some x8x) none (.mv (.t x18x)) .nil))))))))) (.seq (.reg (.cons (some x4x) none (.mv (.c 
  (.i .i64 (.negSucc 0)))) .nil)) .ret))) [(.tmp x4x)])
theorem cc58 : compF Tryd.prog drops true true Tryd.f58 = some i58 := by kernel_rfl
noncomputable def i59 : FnI := (.mk true true (.seq (.reg (.cons (some x4x) none (.mv (.c (.b false))) .nil)) (.seq (.reg (.cons (some x5x) none (.mv (.t x0x)) (.cons (some x6x) none (.mv (.t x1x)) (.cons (some 
  x7x) none (.bin .neq (.t x5x) (.t x6x)) (.cons (some x8x) none (.mv (.t x7x)) (.cons (some x9x) (some (.mk x8x true)) (.mv (.t x0x)) (.cons (some x10x) (some (.mk x8x true)) (.mv 
  (.t x1x)) (.cons (some x11x) (some (.mk x8x true)) (.call 50 (.cons (.t x9x) (.cons (.t x10x) .nil))) (.cons (some x12x) (some (.mk x8x true)) (.bin .eql (.t x11x) (.c (.i .u64 
  (.ofNat 0)))) (.cons (some x13x) none (.pick (.t x8x) (.t x12x) (.c (.b false))) (.cons (some x4x) none (.mv (.t x13x)) .nil))))))))))) .ret)) [(.tmp x4x)])
theorem cc59 : compF Tryd.prog drops true true Tryd.f59 = some i59 := by kernel_rfl
noncomputable def i60 : FnI := (.mk true false (.seq (.reg (.cons (some x3x) none (.mv (.c .ns)) .nil)) (.seq (.reg (.cons (some x4x) none (.ld 1 false (.t x1x)) (.cons (some x5x) none (.mv (.t x0x)) (.cons 
  (some x6x) none (.call 30 (.cons (.t x4x) (.cons (.t x5x) .nil))) (.cons (some x7x) none (.call 29 (.cons (.t x6x) (.cons (.c (.fn 31 .nil .nil)) .nil))) (.cons (some x3x) none 
  (.mv (.t x7x)) .nil)))))) .ret)) [(.tmp x3x)])
theorem cc60 : compF Tryd.prog drops true false Tryd.f60 = some i60 := by kernel_rfl
noncomputable def i61 : FnI := (.mk true false (.seq (.reg (.cons (some x4x) none (.mv (.c .ns)) .nil)) (.seq (.reg (.cons (some x5x) none (.mv (.c .ns)) .nil)) (.seq (.seq (.reg (.cons (some x8x) none (.mv (.t 
  x0x)) (.cons (some x9x) none (.len (.t x8x)) (.cons (some x10x) none (.mv (.c (.n 0))) .nil)))) (.block 0 (.loop (.seq (.reg (.cons (some x11x) none (.bin .lss (.t x10x) (.t 
  x9x)) .nil)) (.seq (.cond (.t x11x) .skip (.exit 0)) (.seq (.block 1 (.seq (.reg (.cons (some x12x) none (.ixs 1 (.t x8x) (.t x10x)) (.cons (some x13x) none (.ld 1 false (.t 
  x12x)) (.cons (some x7x) none (.mv (.t x13x)) .nil)))) (.reg (.cons (some x14x) none (.mv (.t x5x)) (.cons (some x15x) none (.mv (.t x1x)) (.cons (some x16x) none (.mv (.t x7x)) 
  (.cons (some x17x) none (.callv (.t x15x) (.cons (.t x16x) .nil)) (.cons (some x18x) none (.bsl 22 1 1 (.cons .ns .nil) (.cons 0 1 (.t x17x) .nil)) (.cons (some x19x) none (.app 
  22 1 24 (.t x14x) (.t x18x)) (.cons (some x5x) none (.mv (.t x19x)) .nil)))))))))) (.reg (.cons (some x20x) none (.bin .add (.t x10x) (.c (.n 1))) (.cons (some x10x) none (.mv 
  (.t x20x)) .nil))))))))) (.seq (.reg (.cons (some x21x) none (.mv (.t x5x)) (.cons (some x4x) none (.mv (.t x21x)) .nil))) .ret)))) [(.tmp x4x)])
theorem cc61 : compF Tryd.prog drops true false Tryd.f61 = some i61 := by kernel_rfl
noncomputable def i62 : FnI := (.mk true false (.seq (.reg (.cons (some x1x) none (.box 3 (.t x0x)) (.cons (some x2x) none (.mv (.c .ns)) .nil))) (.seq (.reg (.cons (some x3x) none (.ld 1 false (.t x1x)) (.cons 
  (some x4x) none (.mkf 79 .nil (.cons (.t x1x) .nil)) (.cons (some x5x) none (.call 66 (.cons (.t x3x) (.cons (.t x4x) .nil))) (.cons (some x2x) none (.mv (.t x5x)) .nil))))) 
  .ret)) [(.tmp x2x)])
theorem cc62 : compF Tryd.prog drops true false Tryd.f62 = some i62 := by kernel_rfl
noncomputable def i63 : FnI := (.mk true false (.seq (.reg (.cons (some x3x) none (.box 59 (.t x1x)) (.cons (some x4x) none (.mv (.c .ns)) .nil))) (.seq (.reg (.cons (some x5x) none (.mv (.t x0x)) (.cons (some 
  x6x) none (.mkf 80 .nil (.cons (.t x3x) .nil)) (.cons (some x7x) none (.call 66 (.cons (.t x5x) (.cons (.t x6x) .nil))) (.cons (some x4x) none (.mv (.t x7x)) .nil))))) .ret)) 
  [(.tmp x4x)])
theorem cc63 : compF Tryd.prog drops true false Tryd.f63 = some i63 := by kernel_rfl
noncomputable def i64 : FnI := (.mk true true (.seq (.reg (.cons (some x2x) none (.mv (.c (.n 0))) .nil)) (.seq (.draw [(.mk (some x3x) none true [] false [] [] [x0x] (.mv (.t x0x)) false [] [] []), (.mk (some 
  x4x) none true [] false [true] [] [x3x] (.bin .shr (.t x3x) (.c (.i .u64 (.ofNat 24)))) false [] [] []), (.mk (some x5x) none true [] false [true, true] [] [x4x] (.six (.c (.s 
  [0, 1, 1, 2, 1, 2, 2, 3, 1, 2, 2, 3, 2, 3, 3, 4, 1, 2, 2, 3, 2, 3, 3, 4, 2, 3, 3, 4, 3, 4, 4, 5, 1, 2, 2, 3, 2, 3, 3, 4, 2, 3, 3, 4, 3, 4, 4, 5, 2, 3, 3, 4, 3, 4, 4, 5, 3, 4, 4, 
  5, 4, 5, 5, 6, 1, 2, 2, 3, 2, 3, 3, 4, 2, 3, 3, 4, 3, 4, 4, 5, 2, 3, 3, 4, 3, 4, 4, 5, 3, 4, 4, 5, 4, 5, 5, 6, 2, 3, 3, 4, 3, 4, 4, 5, 3, 4, 4, 5, 4, 5, 5, 6, 3, 4, 4, 5, 4, 5, 
  5, 6, 4, 5, 5, 6, 5, 6, 6, 7, 1, 2, 2, 3, 2, 3, 3, 4, 2, 3, 3, 4, 3, 4, 4, 5, 2, 3, 3, 4, 3, 4, 4, 5, 3, 4, 4, 5, 4, 5, 5, 6, 2, 3, 3, 4, 3, 4, 4, 5, 3, 4, 4, 5, 4, 5, 5, 6, 3, 
  4, 4, 5, 4, 5, 5, 6, 4, 5, 5, 6, 5, 6, 6, 7, 2, 3, 3, 4, 3, 4, 4, 5, 3, 4, 4, 5, 4, 5, 5, 6, 3, 4, 4, 5, 4, 5, 5, 6, 4, 5, 5, 6, 5, 6, 6, 7, 3, 4, 4, 5, 4, 5, 5, 6, 4, 5, 5, 6, 
  5, 6, 6, 7, 4, 5, 5, 6, 5, 6, 6, 7, 5, 6, 6, 7, 6, 7, 7, 8])) (.t x4x)) false [] [] []), (.mk (some x6x) none true [] false [false, false, false] [] [x0x] (.mv (.t x0x)) false [] 
  [] []), (.mk (some x7x) none true [] false [true, false, false, false] [] [x6x] (.bin .shr (.t x6x) (.c (.i .u64 (.ofNat 16)))) false [] [] []), (.mk (some x8x) none true [] 
  false [true, true, false, false, false] [] [x7x] (.bin .and (.t x7x) (.c (.i .u32 (.ofNat 255)))) false [] [] []), (.mk (some x9x) none true [] false [true, true, true, false, 
  false, false] [] [x8x] (.six (.c (.s [0, 1, 1, 2, 1, 2, 2, 3, 1, 2, 2, 3, 2, 3, 3, 4, 1, 2, 2, 3, 2, 3, 3, 4, 2, 3, 3, 4, 3, 4, 4, 5, 1, 2, 2, 3, 2, 3, 3, 4, 2, 3, 3, 4, 3, 4, 4, 
  5, 2, 3, 3, 4, 3, 4, 4, 5, 3, 4, 4, 5, 4, 5, 5, 6, 1, 2, 2, 3, 2, 3, 3, 4, 2, 3, 3, 4, 3, 4, 4, 5, 2, 3, 3, 4, 3, 4, 4, 5, 3, 4, 4, 5, 4, 5, 5, 6, 2, 3, 3, 4, 3, 4, 4, 5, 3, 4, 
  4, 5, 4, 5, 5, 6, 3, 4, 4, 5, 4, 5, 5, 6, 4, 5, 5, 6, 5, 6, 6, 7, 1, 2, 2, 3, 2, 3, 3, 4, 2, 3, 3, 4, 3, 4, 4, 5, 2, 3, 3, 4, 3, 4, 4, 5, 3, 4, 4, 5, 4, 5, 5, 6, 2, 3, 3, 4, 3, 
  4, 4, 5, 3, 4, 4, 5, 4, 5, 5, 6, 3, 4, 4, 5, 4, 5, 5, 6, 4, 5, 5, 6, 5, 6, 6, 7, 2, 3, 3, 4, 3, 4, 4, 5, 3, 4, 4, 5, 4, 5, 5, 6, 3, 4, 4, 5, 4, 5, 5, 6, 4, 5, 5, 6, 5, 6, 6, 7, 
  3, 4, 4, 5, 4, 5, 5, 6, 4, 5, 5, 6, 5, 6, 6, 7, 4, 5, 5, 6, 5, 6, 6, 7, 5, 6, 6, 7, 6, 7, 7, 8])) (.t x8x)) false [] [] []), (.mk (some x10x) none true [] false [true, true, 
  true, true, true, true, true] [] [x5x, x9x] (.bin .add (.t x5x) (.t x9x)) false [] [] []), (.mk (some x11x) none true [] false [false, false, false, false, false, false, false, 
  false] [] [x0x] (.mv (.t x0x)) false [] [] []), (.mk (some x12x) none true [] false [true, false, false, false, false, false, false, false, false] [] [x11x] (.bin .shr (.t x11x) 
  (.c (.i .u64 (.ofNat 8)))) false [] [] []), (.mk (some x13x) none true [] false [true, true, false, false, false, false, false, false, false, false] [] [x12x] (.bin .and (.t 
  x12x) (.c (.i .u32 (.ofNat 255)))) false [] [] []), (.mk (some x14x) none true [] false [true, true, true, false, false, false, false, false, false, false, false] [] [x13x] (.six 
  (.c (.s [0, 1, 1, 2, 1, 2, 2, 3, 1, 2, 2, 3, 2, 3, 3, 4, 1, 2, 2, 3, 2, 3, 3, 4, 2, 3, 3, 4, 3, 4, 4, 5, 1, 2, 2, 3, 2, 3, 3, 4, 2, 3, 3, 4, 3, 4, 4, 5, 2, 3, 3, 4, 3, 4, 4, 5, 
  3, 4, 4, 5, 4, 5, 5, 6, 1, 2, 2, 3, 2, 3, 3, 4, 2, 3, 3, 4, 3, 4, 4, 5, 2, 3, 3, 4, 3, 4, 4, 5, 3, 4, 4, 5, 4, 5, 5, 6, 2, 3, 3, 4, 3, 4, 4, 5, 3, 4, 4, 5, 4, 5, 5, 6, 3, 4, 4, 
  5, 4, 5, 5, 6, 4, 5, 5, 6, 5, 6, 6, 7, 1, 2, 2, 3, 2, 3, 3, 4, 2, 3, 3, 4, 3, 4, 4, 5, 2, 3, 3, 4, 3, 4, 4, 5, 3, 4, 4, 5, 4, 5, 5, 6, 2, 3, 3, 4, 3, 4, 4, 5, 3, 4, 4, 5, 4, 5, 
  5, 6, 3, 4, 4, 5, 4, 5, 5, 6, 4, 5, 5, 6, 5, 6, 6, 7, 2, 3, 3, 4, 3, 4, 4, 5, 3, 4, 4, 5, 4, 5, 5, 6, 3, 4, 4, 5, 4, 5, 5, 6, 4, 5, 5, 6, 5, 6, 6, 7, 3, 4, 4, 5, 4, 5, 5, 6, 4, 
  5, 5, 6, 5, 6, 6, 7, 4, 5, 5, 6, 5, 6, 6, 7, 5, 6, 6, 7, 6, 7, 7, 8])) (.t x13x)) false [] [] []), (.mk (some x15x) none true [] false [true, true, true, true, true, true, true, 
  true, true, true, true, true] [] [x10x, x14x] (.bin .add (.t x10x) (.t x14x)) false [] [] []), (.mk (some x16x) none true [] false [false, false, false, false, false, false, 
  false, false, false, false, false, false, false] [] [x0x] (.mv (.t x0x)) false [] [] []), (.mk (some x17x) none true [] false [true, false, false, false, false, false, false, 
  false, false, false, false, false, false, false] [] [x16x] (.bin .and (.t x16x) (.c (.i .u32 (.ofNat 255)))) false [] [] []), (.mk (some x18x) none true [] false [true, true, 
  false, false, false, false, false, false, false, false, false, false, false, false, false] [] [x17x] (.six (.c (.s [0, 1, 1, 2, 1, 2, 2, 3, 1, 2, 2, 3, 2, 3, 3, 4, 1, 2, 2, 3, 2, 
  3, 3, 4, 2, 3, 3, 4, 3, 4, 4, 5, 1, 2, 2, 3, 2, 3, 3, 4, 2, 3, 3, 4, 3, 4, 4, 5, 2, 3, 3, 4, 3, 4, 4, 5, 3, 4, 4, 5, 4, 5, 5, 6, 1, 2, 2, 3, 2, 3, 3, 4, 2, 3, 3, 4, 3, 4, 4, 5, 
  2, 3, 3, 4, 3, 4, 4, 5, 3, 4, 4, 5, 4, 5, 5, 6, 2, 3, 3, 4, 3, 4, 4, 5, 3, 4, 4, 5, 4, 5, 5, 6, 3, 4, 4, 5, 4, 5, 5, 6, 4, 5, 5, 6, 5, 6, 6, 7, 1, 2, 2, 3, 2, 3, 3, 4, 2, 3, 3, 
  4, 3, 4, 4, 5, 2, 3, 3, 4, 3, 4, 4, 5, 3, 4, 4, 5, 4, 5, 5, 6, 2, 3, 3, 4, 3, 4, 4, 5, 3, 4, 4, 5, 4, 5, 5, 6, 3, 4, 4, 5, 4, 5, 5, 6, 4, 5, 5, 6, 5, 6, 6, 7, 2, 3, 3, 4, 3, 4, 
  4, 5, 3, 4, 4, 5, 4, 5, 5, 6, 3, 4, 4, 5, 4, 5, 5, 6, 4, 5, 5, 6, 5, 6, 6, 7, 3, 4, 4, 5, 4, 5, 5, 6, 4, 5, 5, 6, 5, 6, 6, 7, 4, 5, 5, 6, 5, 6, 6, 7, 5, 6, 6, 7, 6, 7, 7, 8])) 
  (.t x17x)) false [] [] []), (.mk (some x19x) none true [] false [true, true, true, true, true, true, true, true, true, true, true, true, true, true, true, true] [] [x15x, x18x] 
  (.bin .add (.t x15x) (.t x18x)) false [] [] []), (.mk (some x20x) none true [] false [true, true, true, true, true, true, true, true, true, true, true, true, true, true, true, 
  true, true] [] [x19x] (.conv .i64 (.t x19x)) false [] [] []), (.mk (some x2x) none true [] false [true, true, true, true, true, true, true, true, true, true, true, true, true, 
  true, true, true, true, true] [] [x20x] (.mv (.t x20x)) false [] [] [])]) .ret)) [(.tmp x2x)])
theorem cc64 : compF Tryd.prog drops true true Tryd.f64 = some i64 := by kernel_rfl
noncomputable def i65 : FnI := (.mk true true (.seq (.reg (.cons (some x2x) none (.mv (.c (.n 0))) .nil)) (.seq (.reg (.cons (some x3x) none (.mv (.t x0x)) (.cons (some x4x) none (.bin .shr (.t x3x) (.c (.i .u64 
  (.ofNat 1)))) (.cons (some x5x) none (.bin .and (.t x4x) (.c (.i .u64 (.ofNat 6148914691236517205)))) (.cons (some x6x) none (.mv (.t x0x)) (.cons (some x7x) none (.bin .and (.t 
  x6x) (.c (.i .u64 (.ofNat 6148914691236517205)))) (.cons (some x8x) none (.bin .add (.t x5x) (.t x7x)) (.cons (some x0x) none (.mv (.t x8x)) .nil)))))))) (.seq (.reg (.cons (some 
  x9x) none (.mv (.t x0x)) (.cons (some x10x) none (.bin .shr (.t x9x) (.c (.i .u64 (.ofNat 2)))) (.cons (some x11x) none (.bin .and (.t x10x) (.c (.i .u64 (.ofNat 
  3689348814741910323)))) (.cons (some x12x) none (.mv (.t x0x)) (.cons (some x13x) none (.bin .and (.t x12x) (.c (.i .u64 (.ofNat 3689348814741910323)))) (.cons (some x14x) none 
  (.bin .add (.t x11x) (.t x13x)) (.cons (some x0x) none (.mv (.t x14x)) .nil)))))))) (.seq (.reg (.cons (some x15x) none (.mv (.t x0x)) (.cons (some x16x) none (.bin .shr (.t 
  x15x) (.c (.i .u64 (.ofNat 4)))) (.cons (some x17x) none (.mv (.t x0x)) (.cons (some x18x) none (.bin .add (.t x16x) (.t x17x)) (.cons (some x19x) none (.bin .and (.t x18x) (.c 
  (.i .u64 (.ofNat 1085102592571150095)))) (.cons (some x0x) none (.mv (.t x19x)) .nil))))))) (.seq (.reg (.cons (some x20x) none (.mv (.t x0x)) (.cons (some x21x) none (.mv (.t 
  x0x)) (.cons (some x22x) none (.bin .shr (.t x21x) (.c (.i .u64 (.ofNat 8)))) (.cons (some x23x) none (.bin .add (.t x20x) (.t x22x)) (.cons (some x0x) none (.mv (.t x23x)) 
  .nil)))))) (.seq (.reg (.cons (some x24x) none (.mv (.t x0x)) (.cons (some x25x) none (.mv (.t x0x)) (.cons (some x26x) none (.bin .shr (.t x25x) (.c (.i .u64 (.ofNat 16)))) 
  (.cons (some x27x) none (.bin .add (.t x24x) (.t x26x)) (.cons (some x0x) none (.mv (.t x27x)) .nil)))))) (.seq (.reg (.cons (some x28x) none (.mv (.t x0x)) (.cons (some x29x) 
  none (.mv (.t x0x)) (.cons (some x30x) none (.bin .shr (.t x29x) (.c (.i .u64 (.ofNat 32)))) (.cons (some x31x) none (.bin .add (.t x28x) (.t x30x)) (.cons (some x0x) none (.mv 
  (.t x31x)) .nil)))))) (.seq (.reg (.cons (some x32x) none (.mv (.t x0x)) (.cons (some x33x) none (.conv .i64 (.t x32x)) (.cons (some x34x) none (.bin .and (.t x33x) (.c (.n 
  127))) (.cons (some x2x) none (.mv (.t x34x)) .nil))))) .ret)))))))) [(.tmp x2x)])
theorem cc65 : compF Tryd.prog drops true true Tryd.f65 = some i65 := by kernel_rfl
noncomputable def i66 : FnI := (.mk true false (.seq (.reg (.cons (some x4x) none (.mv (.c .ns)) .nil)) (.seq (.reg (.cons (some x5x) none (.mv (.c .ns)) .nil)) (.seq (.seq (.reg (.cons (some x7x) none (.mv (.t 
  x0x)) (.cons (some x8x) none (.call 54 (.cons (.t x7x) .nil)) (.cons (some x9x) none (.bin .add (.t x8x) (.c (.i .u64 (.ofNat 1)))) (.cons (some x10x) none (.mv (.c (.i .u64 
  (.ofNat 0)))) .nil))))) (.block 0 (.loop (.seq (.reg (.cons (some x11x) none (.bin .lss (.t x10x) (.t x9x)) .nil)) (.seq (.cond (.t x11x) .skip (.exit 0)) (.seq (.block 1 (.seq 
  (.reg (.cons (some x12x) none (.mv (.t x10x)) (.cons (some x6x) none (.mv (.t x12x)) .nil))) (.seq (.reg (.cons (some x13x) none (.mv (.t x1x)) (.cons (some x14x) none (.mv (.t 
  x6x)) (.cons (some x15x) none (.callv (.t x13x) (.cons (.t x14x) .nil)) .nil)))) (.cond (.t x15x) (.reg (.cons (some x16x) none (.mv (.t x5x)) (.cons (some x17x) none (.mv (.t 
  x6x)) (.cons (some x18x) none (.bsl 55 1 1 (.cons (.i .u64 (.ofNat 0)) .nil) (.cons 0 1 (.t x17x) .nil)) (.cons (some x19x) none (.app 55 1 8 (.t x16x) (.t x18x)) (.cons (some 
  x5x) none (.mv (.t x19x)) .nil)))))) .skip)))) (.reg (.cons (some x20x) none (.bin .add (.t x10x) (.c (.i .u64 (.ofNat 1)))) (.cons (some x10x) none (.mv (.t x20x)) .nil))))))))) 
  (.seq (.reg (.cons (some x21x) none (.mv (.t x5x)) (.cons (some x4x) none (.mv (.t x21x)) .nil))) .ret)))) [(.tmp x4x)])
theorem cc66 : compF Tryd.prog drops true false Tryd.f66 = some i66 := by kernel_rfl
noncomputable def i67 : FnI := (.mk true true (.seq (.reg (.cons (some x3x) none (.mv (.c (.b false))) .nil)) (.seq (.draw [(.mk (some x4x) none true [] false [] [] [x0x] (.mv (.t x0x)) false [] [] []), (.mk 
  (some x5x) none false [] false [true] [] [x4x] (.call 48 (.cons (.t x4x) .nil)) false [] [] []), (.mk (some x6x) none false [] false [false, false] [] [x1x] (.ld 1 false (.t 
  x1x)) false [] [] []), (.mk (some x7x) none true [] false [true, true, true] [] [x5x, x6x] (.bin .eql (.t x5x) (.t x6x)) false [] [] []), (.mk (some x3x) none true [] false 
  [true, true, true, true] [] [x7x] (.mv (.t x7x)) false [] [] [])]) .ret)) [(.tmp x3x)])
theorem cc67 : compF Tryd.prog drops true true Tryd.f67 = some i67 := by kernel_rfl
noncomputable def i68 : FnI := (.mk true true (.seq (.reg (.cons (some x3x) none (.mv (.c (.b false))) .nil)) (.seq (.reg (.cons (some x4x) none (.ld 1 false (.t x1x)) (.cons (some x5x) none (.mv (.t x0x)) 
  (.cons (some x6x) none (.mkf 70 (.cons (.t x5x) .nil) .nil) (.cons (some x7x) none (.call 69 (.cons (.t x4x) (.cons (.t x6x) .nil))) (.cons (some x3x) none (.mv (.t x7x)) 
  .nil)))))) .ret)) [(.tmp x3x)])
theorem cc68 : compF Tryd.prog drops true true Tryd.f68 = some i68 := by kernel_rfl
noncomputable def i69 : FnI := (.mk true true (.seq (.reg (.cons (some x4x) none (.mv (.c (.b false))) .nil)) (.seq (.reg (.cons (some x5x) none (.mv (.t x0x)) (.cons (some x6x) none (.mv (.t x1x)) (.cons (some 
  x7x) none (.call 58 (.cons (.t x5x) (.cons (.t x6x) .nil))) (.cons (some x8x) none (.bin .geq (.t x7x) (.c (.n 0))) (.cons (some x4x) none (.mv (.t x8x)) .nil)))))) .ret)) [(.tmp 
  x4x)])
theorem cc69 : compF Tryd.prog drops true true Tryd.f69 = some i69 := by kernel_rfl
noncomputable def i70 : FnI := (.mk true true (.seq (.reg (.cons (some x4x) none (.mv (.c (.b false))) .nil)) (.seq (.reg (.cons (some x5x) none (.mv (.t x0x)) (.cons (some x6x) none (.mv (.t x1x)) (.cons (some 
  x7x) none (.call 59 (.cons (.t x5x) (.cons (.t x6x) .nil))) (.cons (some x8x) none (.mv (.t x7x)) (.cons (some x9x) (some (.mk x8x true)) (.mv (.t x0x)) (.cons (some x10x) (some 
  (.mk x8x true)) (.call 48 (.cons (.t x9x) .nil)) (.cons (some x11x) (some (.mk x8x true)) (.bin .add (.t x10x) (.c (.n 1))) (.cons (some x12x) (some (.mk x8x true)) (.mv (.t 
  x1x)) (.cons (some x13x) (some (.mk x8x true)) (.call 48 (.cons (.t x12x) .nil)) (.cons (some x14x) (some (.mk x8x true)) (.bin .eql (.t x11x) (.t x13x)) (.cons (some x15x) none 
  (.pick (.t x8x) (.t x14x) (.c (.b false))) (.cons (some x4x) none (.mv (.t x15x)) .nil))))))))))))) .ret)) [(.tmp x4x)])
theorem cc70 : compF Tryd.prog drops true true Tryd.f70 = some i70 := by kernel_rfl
noncomputable def i71 : FnI := (.mk true true (.seq (.reg (.cons (some x4x) none (.mv (.c (.n 0))) .nil)) (.seq (.seq (.reg (.cons (some x7x) none (.mv (.t x1x)) (.cons (some x8x) none (.len (.t x7x)) (.cons 
  (some x9x) none (.mv (.c (.n 0))) .nil)))) (.block 0 (.loop (.seq (.reg (.cons (some x10x) none (.bin .lss (.t x9x) (.t x8x)) .nil)) (.seq (.cond (.t x10x) .skip (.exit 0)) (.seq 
  (.block 1 (.seq (.reg (.cons (some x11x) none (.mv (.t x9x)) (.cons (some x12x) none (.ixs 1 (.t x7x) (.t x9x)) (.cons (some x13x) none (.ld 1 false (.t x12x)) (.cons (some x5x) 
  none (.mv (.t x11x)) (.cons (some x6x) none (.mv (.t x13x)) .nil)))))) (.seq (.seq (.reg (.cons (some x14x) none (.mv (.t x6x)) (.cons (some x15x) none (.bin .lss (.t x14x) (.c 
  (.n 0))) (.cons (some x16x) none (.mv (.t x15x)) (.cons (some x17x) (some (.mk x16x false)) (.mv (.t x6x)) (.cons (some x18x) (some (.mk x16x false)) (.mv (.t x0x)) (.cons (some 
  x19x) (some (.mk x16x false)) (.bin .geq (.t x17x) (.t x18x)) (.cons (some x20x) none (.pick (.t x16x) (.c (.b true)) (.t x19x)) .nil)))))))) (.cond (.t x20x) (.seq (.reg (.cons 
  (some x4x) none (.mv (.c (.n 2))) .nil)) .ret) .skip)) (.seq (.reg (.cons (some x21x) none (.mv (.t x5x)) (.cons (some x22x) none (.bin .gtr (.t x21x) (.c (.n 0))) (.cons (some 
  x23x) none (.mv (.t x22x)) (.cons (some x24x) (some (.mk x23x true)) (.mv (.t x6x)) (.cons (some x25x) (some (.mk x23x true)) (.mv (.t x1x)) (.cons (some x26x) (some (.mk x23x 
  true)) (.mv (.t x5x)) (.cons (some x27x) (some (.mk x23x true)) (.bin .sub (.t x26x) (.c (.n 1))) (.cons (some x28x) (some (.mk x23x true)) (.ixs 1 (.t x25x) (.t x27x)) (.cons 
  (some x29x) (some (.mk x23x true)) (.ld 1 false (.t x28x)) (.cons (some x30x) (some (.mk x23x true)) (.bin .leq (.t x24x) (.t x29x)) (.cons (some x31x) none (.pick (.t x23x) (.t 
  x30x) (.c (.b false))) .nil)))))))))))) (.cond (.t x31x) (.seq (.reg (.cons (some x4x) none (.mv (.c (.n 7))) .nil)) .ret) .skip))))) (.reg (.cons (some x32x) none (.bin .add (.t 
  x9x) (.c (.n 1))) (.cons (some x9x) none (.mv (.t x32x)) .nil))))))))) (.seq (.reg (.cons (some x4x) none (.mv (.c (.n 0))) .nil)) .ret))) [(.tmp x4x)])
theorem cc71 : compF Tryd.prog drops true true Tryd.f71 = some i71 := by kernel_rfl
noncomputable def i72 : FnI := (.mk true true (.seq (.reg (.cons (some x4x) none (.mv (.c (.b false))) .nil)) (.seq (.reg (.cons (some x5x) none (.mv (.t x0x)) (.cons (some x6x) none (.mv (.t x1x)) (.cons (some 
  x7x) none (.call 47 (.cons (.t x5x) (.cons (.t x6x) .nil))) (.cons (some x8x) none (.bin .geq (.t x7x) (.c (.n 0))) (.cons (some x4x) none (.mv (.t x8x)) .nil)))))) .ret)) [(.tmp 
  x4x)])
theorem cc72 : compF Tryd.prog drops true true Tryd.f72 = some i72 := by kernel_rfl
noncomputable def i73 : FnI := (.mk true false (.seq (.reg (.cons (some x4x) none (.mv (.c .ns)) .nil)) (.seq (.reg (.cons (some x6x) none (.mv (.t x0x)) (.cons (some x7x) none (.call 82 (.cons (.t x6x) .nil)) 
  (.cons (some x5x) none (.mv (.t x7x)) .nil)))) (.seq (.reg (.cons (some x8x) none (.mv (.t x5x)) (.cons (some x9x) none (.mv (.t x1x)) (.cons (some x10x) none (.call 83 (.cons 
  (.t x8x) (.cons (.t x9x) .nil))) .nil)))) (.seq (.reg (.cons (some x11x) none (.mv (.t x5x)) (.cons (some x4x) none (.mv (.t x11x)) .nil))) .ret)))) [(.tmp x4x)])
theorem cc73 : compF Tryd.prog drops true false Tryd.f73 = some i73 := by kernel_rfl
noncomputable def i74 : FnI := (.mk true false (.seq (.reg (.cons (some x1x) none (.box 59 (.t x0x)) (.cons (some x2x) none (.mv (.c .nf)) .nil))) (.seq (.reg (.cons (some x3x) none (.mkf 84 .nil (.cons (.t x1x) 
  .nil)) (.cons (some x2x) none (.mv (.t x3x)) .nil))) .ret)) [(.tmp x2x)])
theorem cc74 : compF Tryd.prog drops true false Tryd.f74 = some i74 := by kernel_rfl
noncomputable def i75 : FnI := (.mk true true (.seq (.reg (.cons (some x4x) none (.mv (.c (.n 0))) .nil)) (.seq (.reg (.cons (some x5x) none (.mv (.t x0x)) (.cons (some x6x) none (.call 31 (.cons (.t x5x) .nil)) 
  (.cons (some x7x) none (.mv (.t x1x)) (.cons (some x8x) none (.call 31 (.cons (.t x7x) .nil)) (.cons (some x9x) none (.call 76 (.cons (.t x6x) (.cons (.t x8x) .nil))) (.cons 
  (some x4x) none (.mv (.t x9x)) .nil))))))) .ret)) [(.tmp x4x)])
theorem cc75 : compF Tryd.prog drops true true Tryd.f75 = some i75 := by kernel_rfl
noncomputable def i76 : FnI := (.mk true true (.seq (.reg (.cons (some x4x) none (.mv (.c (.n 0))) .nil)) (.seq (.seq (.reg (.cons (some x9x) none (.mv (.t x0x)) (.cons (some x10x) none (.len (.t x9x)) (.cons 
  (some x11x) none (.mv (.c (.n 0))) .nil)))) (.block 0 (.loop (.seq (.reg (.cons (some x12x) none (.bin .lss (.t x11x) (.t x10x)) .nil)) (.seq (.cond (.t x12x) .skip (.exit 0)) 
  (.seq (.block 1 (.seq (.reg (.cons (some x13x) none (.mv (.t x11x)) (.cons (some x14x) none (.ixs 1 (.t x9x) (.t x11x)) (.cons (some x15x) none (.ld 1 false (.t x14x)) (.cons 
  (some x5x) none (.mv (.t x13x)) (.cons (some x6x) none (.mv (.t x15x)) .nil)))))) (.seq (.seq (.reg (.cons (some x16x) none (.mv (.t x5x)) (.cons (some x17x) none (.mv (.t x1x)) 
  (.cons (some x18x) none (.len (.t x17x)) (.cons (some x19x) none (.bin .geq (.t x16x) (.t x18x)) .nil))))) (.cond (.t x19x) (.seq (.reg (.cons (some x4x) none (.mv (.c (.n 1))) 
  .nil)) .ret) .skip)) (.seq (.reg (.cons (some x20x) none (.mv (.t x1x)) (.cons (some x21x) none (.mv (.t x5x)) (.cons (some x22x) none (.ixs 1 (.t x20x) (.t x21x)) (.cons (some 
  x23x) none (.ld 1 false (.t x22x)) (.cons (some x7x) none (.mv (.t x23x)) .nil)))))) (.seq (.reg (.cons (some x24x) none (.mv (.t x6x)) (.cons (some x25x) none (.mv (.t x7x)) 
  (.cons (some x26x) none (.call 85 (.cons (.t x24x) (.cons (.t x25x) .nil))) (.cons (some x8x) none (.mv (.t x26x)) .nil))))) (.seq (.reg (.cons (some x27x) none (.mv (.t x8x)) 
  (.cons (some x28x) none (.bin .neq (.t x27x) (.c (.n 0))) .nil))) (.cond (.t x28x) (.seq (.reg (.cons (some x29x) none (.mv (.t x8x)) (.cons (some x4x) none (.mv (.t x29x)) 
  .nil))) .ret) .skip))))))) (.reg (.cons (some x30x) none (.bin .add (.t x11x) (.c (.n 1))) (.cons (some x11x) none (.mv (.t x30x)) .nil))))))))) (.seq (.seq (.reg (.cons (some 
  x31x) none (.mv (.t x0x)) (.cons (some x32x) none (.len (.t x31x)) (.cons (some x33x) none (.mv (.t x1x)) (.cons (some x34x) none (.len (.t x33x)) (.cons (some x35x) none (.bin 
  .lss (.t x32x) (.t x34x)) .nil)))))) (.cond (.t x35x) (.seq (.reg (.cons (some x4x) none (.mv (.c (.i .i64 (.negSucc 0)))) .nil)) .ret) .skip)) (.seq (.reg (.cons (some x4x) none 
  (.mv (.c (.n 0))) .nil)) .ret)))) [(.tmp x4x)])
theorem cc76 : compF Tryd.prog drops true true Tryd.f76 = some i76 := by kernel_rfl
noncomputable def i77 : FnI := (.mk true true (.seq (.reg (.cons (some x2x) none (.mv (.c (.n 0))) .nil)) (.seq (.cond (.c (.b false)) (.seq (.reg (.cons (some x3x) none (.mv (.t x0x)) (.cons (some x4x) none 
  (.conv .u32 (.t x3x)) (.cons (some x5x) none (.call 86 (.cons (.t x4x) .nil)) (.cons (some x2x) none (.mv (.t x5x)) .nil))))) .ret) .skip) (.seq (.reg (.cons (some x6x) none (.mv 
  (.t x0x)) (.cons (some x7x) none (.call 87 (.cons (.t x6x) .nil)) (.cons (some x2x) none (.mv (.t x7x)) .nil)))) .ret))) [(.tmp x2x)])
theorem cc77 : compF Tryd.prog drops true true Tryd.f77 = some i77 := by kernel_rfl
noncomputable def i78 : FnI := (.mk true true (.seq (.reg (.cons (some x2x) none (.mv (.c (.n 0))) .nil)) (.seq (.cond (.c (.b false)) (.seq (.reg (.cons (some x3x) none (.mv (.t x0x)) (.cons (some x4x) none 
  (.conv .u32 (.t x3x)) (.cons (some x5x) none (.call 88 (.cons (.t x4x) .nil)) (.cons (some x2x) none (.mv (.t x5x)) .nil))))) .ret) .skip) (.seq (.reg (.cons (some x6x) none (.mv 
  (.t x0x)) (.cons (some x7x) none (.call 89 (.cons (.t x6x) .nil)) (.cons (some x2x) none (.mv (.t x7x)) .nil)))) .ret))) [(.tmp x2x)])
theorem cc78 : compF Tryd.prog drops true true Tryd.f78 = some i78 := by kernel_rfl
noncomputable def i79 : FnI := (.mk true true (.seq (.reg (.cons (some x3x) none (.mv (.c (.b false))) .nil)) (.seq (.reg (.cons (some x4x) none (.mv (.t x0x)) (.cons (some x5x) none (.ld 1 false (.t x1x)) 
  (.cons (some x6x) none (.mv (.t x0x)) (.cons (some x7x) none (.call 32 (.cons (.t x5x) (.cons (.t x6x) .nil))) (.cons (some x8x) none (.call 50 (.cons (.t x4x) (.cons (.t x7x) 
  .nil))) (.cons (some x9x) none (.mv (.t x0x)) (.cons (some x10x) none (.bin .eql (.t x8x) (.t x9x)) (.cons (some x3x) none (.mv (.t x10x)) .nil))))))))) .ret)) [(.tmp x3x)])
theorem cc79 : compF Tryd.prog drops true true Tryd.f79 = some i79 := by kernel_rfl
noncomputable def i80 : FnI := (.mk true true (.seq (.reg (.cons (some x2x) none (.box 55 (.t x0x)) (.cons (some x3x) none (.mv (.c (.b false))) .nil))) (.seq (.reg (.cons (some x4x) none (.ld 1 false (.t x1x)) 
  (.cons (some x5x) none (.mkf 81 .nil (.cons (.t x2x) .nil)) (.cons (some x6x) none (.call 69 (.cons (.t x4x) (.cons (.t x5x) .nil))) (.cons (some x3x) none (.mv (.t x6x)) 
  .nil))))) .ret)) [(.tmp x3x)])
theorem cc80 : compF Tryd.prog drops true true Tryd.f80 = some i80 := by kernel_rfl
noncomputable def i81 : FnI := (.mk true true (.seq (.reg (.cons (some x3x) none (.mv (.c (.b false))) .nil)) (.seq (.reg (.cons (some x4x) none (.mv (.t x0x)) (.cons (some x5x) none (.ld 1 false (.t x1x)) 
  (.cons (some x6x) none (.call 70 (.cons (.t x4x) (.cons (.t x5x) .nil))) (.cons (some x3x) none (.mv (.t x6x)) .nil))))) .ret)) [(.tmp x3x)])
theorem cc81 : compF Tryd.prog drops true true Tryd.f81 = some i81 := by kernel_rfl
noncomputable def i82 : FnI := (.mk true false (.seq (.reg (.cons (some x2x) none (.mv (.c .ns)) .nil)) (.seq (.reg (.cons (some x3x) none (.mv (.t x0x)) (.cons (some x4x) none (.call 90 (.cons (.c .ns) (.cons 
  (.t x3x) .nil))) (.cons (some x2x) none (.mv (.t x4x)) .nil)))) .ret)) [(.tmp x2x)])
theorem cc82 : compF Tryd.prog drops true false Tryd.f82 = some i82 := by kernel_rfl
noncomputable def i83 : FnI := (.mk false false (.seq (.reg (.cons (some x5x) none (.mv (.t x0x)) (.cons (some x6x) none (.len (.t x5x)) (.cons (some x4x) none (.mv (.t x6x)) .nil)))) (.reg (.cons (some x7x) 
  none (.mv (.t x0x)) (.cons (some x8x) none (.mv (.t x4x)) (.cons (some x9x) none (.mv (.t x4x)) (.cons (some x10x) none (.conv .u64 (.t x9x)) (.cons (some x11x) none (.call 78 
  (.cons (.t x10x) .nil)) (.cons (some x12x) none (.mv (.t x1x)) (.cons (some x13x) none (.call 91 (.cons (.t x7x) (.cons (.c (.n 0)) (.cons (.t x8x) (.cons (.t x11x) (.cons (.t 
  x12x) .nil)))))) .nil))))))))) [])
theorem cc83 : compF Tryd.prog drops false false Tryd.f83 = some i83 := by kernel_rfl
noncomputable def i84 : FnI := (.mk false false (.seq (.reg (.cons (some x5x) none (.ld 1 false (.t x1x)) (.cons (some x6x) none (.len (.t x5x)) (.cons (some x7x) none (.mv (.c (.n 0))) .nil)))) (.block 0 (.loop 
  (.seq (.reg (.cons (some x8x) none (.bin .lss (.t x7x) (.t x6x)) .nil)) (.seq (.cond (.t x8x) .skip (.exit 0)) (.seq (.block 1 (.seq (.reg (.cons (some x9x) none (.ixs 1 (.t x5x) 
  (.t x7x)) (.cons (some x10x) none (.ld 1 false (.t x9x)) (.cons (some x4x) none (.mv (.t x10x)) .nil)))) (.seq (.reg (.cons (some x11x) none (.mv (.t x0x)) (.cons (some x12x) 
  none (.mv (.t x4x)) (.cons (some x13x) none (.callv (.t x11x) (.cons (.t x12x) .nil)) (.cons (some x14x) none (.not (.t x13x)) .nil))))) (.cond (.t x14x) .ret .skip)))) (.reg 
  (.cons (some x15x) none (.bin .add (.t x7x) (.c (.n 1))) (.cons (some x7x) none (.mv (.t x15x)) .nil))))))))) [])
theorem cc84 : compF Tryd.prog drops false false Tryd.f84 = some i84 := by kernel_rfl
noncomputable def i85 : FnI := (.mk true true (.seq (.reg (.cons (some x4x) none (.mv (.c (.n 0))) .nil)) (.seq (.reg (.cons (some x7x) none (.mv (.t x0x)) (.cons (some x8x) none (.call 57 (.cons (.t x7x) .nil)) 
  (.cons (some x5x) none (.mv (.t x8x)) .nil)))) (.seq (.reg (.cons (some x9x) none (.mv (.t x1x)) (.cons (some x10x) none (.call 57 (.cons (.t x9x) .nil)) (.cons (some x6x) none 
  (.mv (.t x10x)) .nil)))) (.seq (.seq (.reg (.cons (some x11x) none (.mv (.t x5x)) .nil)) (.cond (.t x11x) (.seq (.seq (.reg (.cons (some x12x) none (.mv (.t x6x)) .nil)) (.cond 
  (.t x12x) (.seq (.reg (.cons (some x4x) none (.mv (.c (.n 0))) .nil)) .ret) .skip)) (.seq (.reg (.cons (some x4x) none (.mv (.c (.i .i64 (.negSucc 0)))) .nil)) .ret)) .skip)) 
  (.seq (.seq (.reg (.cons (some x13x) none (.mv (.t x6x)) .nil)) (.cond (.t x13x) (.seq (.reg (.cons (some x4x) none (.mv (.c (.n 1))) .nil)) .ret) .skip)) (.seq (.seq (.reg 
  (.cons (some x14x) none (.mv (.t x0x)) (.cons (some x15x) none (.mv (.t x1x)) (.cons (some x16x) none (.bin .lss (.t x14x) (.t x15x)) .nil)))) (.cond (.t x16x) (.seq (.reg (.cons 
  (some x4x) none (.mv (.c (.i .i64 (.negSucc 0)))) .nil)) .ret) .skip)) (.seq (.seq (.reg (.cons (some x17x) none (.mv (.t x0x)) (.cons (some x18x) none (.mv (.t x1x)) (.cons 
  (some x19x) none (.bin .gtr (.t x17x) (.t x18x)) .nil)))) (.cond (.t x19x) (.seq (.reg (.cons (some x4x) none (.mv (.c (.n 1))) .nil)) .ret) .skip)) (.seq (.reg (.cons (some x4x) 
  none (.mv (.c (.n 0))) .nil)) .ret)))))))) [(.tmp x4x)])
theorem cc85 : compF Tryd.prog drops true true Tryd.f85 = some i85 := by kernel_rfl
noncomputable def i87 : FnI := (.mk true true (.seq (.reg (.cons (some x2x) none (.mv (.c (.n 0))) .nil)) (.seq (.seq (.reg (.cons (some x3x) none (.mv (.t x0x)) (.cons (some x4x) none (.bin .eql (.t x3x) (.c 
  (.i .u64 (.ofNat 0)))) .nil))) (.cond (.t x4x) (.seq (.reg (.cons (some x2x) none (.mv (.c (.n 64))) .nil)) .ret) .skip)) (.seq (.reg (.cons (some x5x) none (.mv (.t x0x)) (.cons 
  (some x6x) none (.mv (.t x0x)) (.cons (some x7x) none (.neg (.t x6x)) (.cons (some x8x) none (.bin .and (.t x5x) (.t x7x)) (.cons (some x9x) none (.bin .mul (.t x8x) (.c (.i .u64 
  (.ofNat 285870213051353865)))) (.cons (some x10x) none (.bin .shr (.t x9x) (.c (.i .u64 (.ofNat 58)))) (.cons (some x11x) none (.ixa 64 1 (.c (.p x1x 0)) (.t x10x)) (.cons (some 
  x12x) none (.ld 1 false (.t x11x)) (.cons (some x13x) none (.conv .i64 (.t x12x)) (.cons (some x2x) none (.mv (.t x13x)) .nil))))))))))) .ret))) [(.tmp x2x)])
theorem cc87 : compF Tryd.prog drops true true Tryd.f87 = some i87 := by kernel_rfl
noncomputable def i89 : FnI := (.mk true true (.seq (.reg (.cons (some x2x) none (.mv (.c (.n 0))) .nil)) (.seq (.seq (.reg (.cons (some x3x) none (.mv (.t x0x)) (.cons (some x4x) none (.bin .geq (.t x3x) (.c 
  (.i .u64 (.ofNat 4294967296)))) .nil))) (.cond (.t x4x) (.seq (.reg (.cons (some x5x) none (.mv (.t x0x)) (.cons (some x6x) none (.bin .shr (.t x5x) (.c (.i .u64 (.ofNat 32)))) 
  (.cons (some x0x) none (.mv (.t x6x)) .nil)))) (.reg (.cons (some x2x) none (.mv (.c (.n 32))) .nil))) .skip)) (.seq (.seq (.reg (.cons (some x7x) none (.mv (.t x0x)) (.cons 
  (some x8x) none (.bin .geq (.t x7x) (.c (.i .u64 (.ofNat 65536)))) .nil))) (.cond (.t x8x) (.seq (.reg (.cons (some x9x) none (.mv (.t x0x)) (.cons (some x10x) none (.bin .shr 
  (.t x9x) (.c (.i .u64 (.ofNat 16)))) (.cons (some x0x) none (.mv (.t x10x)) .nil)))) (.reg (.cons (some x11x) none (.mv (.t x2x)) (.cons (some x12x) none (.bin .add (.t x11x) (.c 
  (.n 16))) (.cons (some x2x) none (.mv (.t x12x)) .nil))))) .skip)) (.seq (.seq (.reg (.cons (some x13x) none (.mv (.t x0x)) (.cons (some x14x) none (.bin .geq (.t x13x) (.c (.i 
  .u64 (.ofNat 256)))) .nil))) (.cond (.t x14x) (.seq (.reg (.cons (some x15x) none (.mv (.t x0x)) (.cons (some x16x) none (.bin .shr (.t x15x) (.c (.i .u64 (.ofNat 8)))) (.cons 
  (some x0x) none (.mv (.t x16x)) .nil)))) (.reg (.cons (some x17x) none (.mv (.t x2x)) (.cons (some x18x) none (.bin .add (.t x17x) (.c (.n 8))) (.cons (some x2x) none (.mv (.t 
  x18x)) .nil))))) .skip)) (.seq (.reg (.cons (some x19x) none (.mv (.t x2x)) (.cons (some x20x) none (.mv (.t x0x)) (.cons (some x21x) none (.conv .u8 (.t x20x)) (.cons (some 
  x22x) none (.six (.c (.s [0, 1, 2, 2, 3, 3, 3, 3, 4, 4, 4, 4, 4, 4, 4, 4, 5, 5, 5, 5, 5, 5, 5, 5, 5, 5, 5, 5, 5, 5, 5, 5, 6, 6, 6, 6, 6, 6, 6, 6, 6, 6, 6, 6, 6, 6, 6, 6, 6, 6, 6, 
  6, 6, 6, 6, 6, 6, 6, 6, 6, 6, 6, 6, 6, 7, 7, 7, 7, 7, 7, 7, 7, 7, 7, 7, 7, 7, 7, 7, 7, 7, 7, 7, 7, 7, 7, 7, 7, 7, 7, 7, 7, 7, 7, 7, 7, 7, 7, 7, 7, 7, 7, 7, 7, 7, 7, 7, 7, 7, 7, 
  7, 7, 7, 7, 7, 7, 7, 7, 7, 7, 7, 7, 7, 7, 7, 7, 7, 7, 8, 8, 8, 8, 8, 8, 8, 8, 8, 8, 8, 8, 8, 8, 8, 8, 8, 8, 8, 8, 8, 8, 8, 8, 8, 8, 8, 8, 8, 8, 8, 8, 8, 8, 8, 8, 8, 8, 8, 8, 8, 
  8, 8, 8, 8, 8, 8, 8, 8, 8, 8, 8, 8, 8, 8, 8, 8, 8, 8, 8, 8, 8, 8, 8, 8, 8, 8, 8, 8, 8, 8, 8, 8, 8, 8, 8, 8, 8, 8, 8, 8, 8, 8, 8, 8, 8, 8, 8, 8, 8, 8, 8, 8, 8, 8, 8, 8, 8, 8, 8, 
  8, 8, 8, 8, 8, 8, 8, 8, 8, 8, 8, 8, 8, 8, 8, 8, 8, 8, 8, 8, 8, 8, 8, 8, 8, 8, 8, 8])) (.t x21x)) (.cons (some x23x) none (.conv .i64 (.t x22x)) (.cons (some x24x) none (.bin .add 
  (.t x19x) (.t x23x)) (.cons (some x2x) none (.mv (.t x24x)) .nil)))))))) .ret))))) [(.tmp x2x)])
theorem cc89 : compF Tryd.prog drops true true Tryd.f89 = some i89 := by kernel_rfl
noncomputable def i90 : FnI := (compF Tryd.prog drops true false Tryd.f90).getD (.mk false false .skip [])
theorem cc90 : compF Tryd.prog drops true false Tryd.f90 = some i90 := by kernel_rfl
noncomputable def i91 : FnI := (.mk false false (.seq (.reg (.cons (some x10x) none (.mv (.c (.b true))) .nil)) (.seq (.reg (.cons (some x11x) none (.mv (.c (.b true))) .nil)) (.block 0 (.loop (.block 1 (.seq 
  (.reg (.cons (some x21x) none (.mv (.t x2x)) (.cons (some x22x) none (.mv (.t x1x)) (.cons (some x23x) none (.bin .sub (.t x21x) (.t x22x)) (.cons (some x12x) none (.mv (.t 
  x23x)) .nil))))) (.seq (.seq (.reg (.cons (some x24x) none (.mv (.t x12x)) (.cons (some x25x) none (.bin .leq (.t x24x) (.c (.n 12))) .nil))) (.cond (.t x25x) (.seq (.reg (.cons 
  (some x26x) none (.mv (.t x0x)) (.cons (some x27x) none (.mv (.t x1x)) (.cons (some x28x) none (.mv (.t x2x)) (.cons (some x29x) none (.mv (.t x4x)) (.cons (some x30x) none 
  (.call 92 (.cons (.t x26x) (.cons (.t x27x) (.cons (.t x28x) (.cons (.t x29x) .nil))))) .nil)))))) .ret) .skip)) (.seq (.seq (.reg (.cons (some x31x) none (.mv (.t x3x)) (.cons 
  (some x32x) none (.bin .eql (.t x31x) (.c (.n 0))) .nil))) (.cond (.t x32x) (.seq (.reg (.cons (some x33x) none (.mv (.t x0x)) (.cons (some x34x) none (.mv (.t x1x)) (.cons (some 
  x35x) none (.mv (.t x2x)) (.cons (some x36x) none (.mv (.t x4x)) (.cons (some x37x) none (.call 93 (.cons (.t x33x) (.cons (.t x34x) (.cons (.t x35x) (.cons (.t x36x) .nil))))) 
  .nil)))))) .ret) .skip)) (.seq (.seq (.reg (.cons (some x38x) none (.mv (.t x10x)) (.cons (some x39x) none (.not (.t x38x)) .nil))) (.cond (.t x39x) (.seq (.reg (.cons (some 
  x40x) none (.mv (.t x0x)) (.cons (some x41x) none (.mv (.t x1x)) (.cons (some x42x) none (.mv (.t x2x)) (.cons (some x43x) none (.mv (.t x4x)) (.cons (some x44x) none (.call 94 
  (.cons (.t x40x) (.cons (.t x41x) (.cons (.t x42x) (.cons (.t x43x) .nil))))) .nil)))))) (.reg (.cons (some x45x) none (.mv (.t x3x)) (.cons (some x46x) none (.bin .sub (.t x45x) 
  (.c (.n 1))) (.cons (some x3x) none (.mv (.t x46x)) .nil))))) .skip)) (.seq (.reg (.cons (some x48x) none (.mv (.t x0x)) (.cons (some x49x) none (.mv (.t x1x)) (.cons (some x50x) 
  none (.mv (.t x2x)) (.cons (some x51x) none (.mv (.t x4x)) (.cons (some x52x) none (.call 95 (.cons (.t x48x) (.cons (.t x49x) (.cons (.t x50x) (.cons (.t x51x) .nil))))) (.cons 
  (some x47x) none (.mv (.t x52x)) (.cons (some x53x) none (.ext 0 (.t x47x)) (.cons (some x54x) none (.ext 1 (.t x47x)) (.cons (some x13x) none (.mv (.t x53x)) (.cons (some x14x) 
  none (.mv (.t x54x)) .nil))))))))))) (.seq (.seq (.reg (.cons (some x55x) none (.mv (.t x14x)) (.cons (some x56x) none (.bin .eql (.t x55x) (.c (.n 2))) .nil))) (.cond (.t x56x) 
  (.seq (.reg (.cons (some x57x) none (.mv (.t x0x)) (.cons (some x58x) none (.mv (.t x1x)) (.cons (some x59x) none (.mv (.t x2x)) (.cons (some x60x) none (.mv (.t x4x)) (.cons 
  (some x61x) none (.call 96 (.cons (.t x57x) (.cons (.t x58x) (.cons (.t x59x) (.cons (.t x60x) .nil))))) .nil)))))) (.seq (.reg (.cons (some x62x) none (.mv (.t x2x)) (.cons 
  (some x63x) none (.bin .sub (.t x62x) (.c (.n 1))) (.cons (some x64x) none (.mv (.t x13x)) (.cons (some x65x) none (.mv (.t x1x)) (.cons (some x66x) none (.bin .sub (.t x64x) (.t 
  x65x)) (.cons (some x67x) none (.bin .sub (.t x63x) (.t x66x)) (.cons (some x13x) none (.mv (.t x67x)) .nil)))))))) (.reg (.cons (some x14x) none (.mv (.c (.n 1))) .nil)))) 
  .skip)) (.seq (.seq (.reg (.cons (some x68x) none (.mv (.t x10x)) (.cons (some x69x) none (.mv (.t x68x)) (.cons (some x70x) (some (.mk x69x true)) (.mv (.t x11x)) (.cons (some 
  x71x) none (.pick (.t x69x) (.t x70x) (.c (.b false))) (.cons (some x72x) none (.mv (.t x71x)) (.cons (some x73x) (some (.mk x72x true)) (.mv (.t x14x)) (.cons (some x74x) (some 
  (.mk x72x true)) (.bin .eql (.t x73x) (.c (.n 1))) (.cons (some x75x) none (.pick (.t x72x) (.t x74x) (.c (.b false))) .nil))))))))) (.cond (.t x75x) (.seq (.reg (.cons (some 
  x76x) none (.mv (.t x0x)) (.cons (some x77x) none (.mv (.t x1x)) (.cons (some x78x) none (.mv (.t x2x)) (.cons (some x79x) none (.mv (.t x4x)) (.cons (some x80x) none (.call 97 
  (.cons (.t x76x) (.cons (.t x77x) (.cons (.t x78x) (.cons (.t x79x) .nil))))) .nil)))))) (.cond (.t x80x) .ret .skip)) .skip)) (.seq (.seq (.draw [(.mk (some x81x) none true [] 
  false [] [] [x1x] (.mv (.t x1x)) false [] [] []), (.mk (some x82x) none true [] false [true] [] [x81x] (.bin .gtr (.t x81x) (.c (.n 0))) false [] [] []), (.mk (some x83x) none 
  true [] false [true, true] [] [x82x] (.mv (.t x82x)) false [] [] []), (.mk (some x84x) (some (.mk x83x true)) true [] false [true, true, true] [] [x83x, x4x] (.mv (.t x4x)) false 
  [] [] []), (.mk (some x85x) (some (.mk x83x true)) true [] false [false, true, true, true] [] [x83x, x0x] (.mv (.t x0x)) false [] [] []), (.mk (some x86x) (some (.mk x83x true)) 
  true [] false [false, false, true, true, true] [] [x83x, x1x] (.mv (.t x1x)) false [] [] []), (.mk (some x87x) (some (.mk x83x true)) true [] false [true, false, false, true, 
  true, true] [] [x83x, x86x] (.bin .sub (.t x86x) (.c (.n 1))) false [] [] []), (.mk (some x88x) (some (.mk x83x true)) true [] false [true, true, true, false, true, true, true] 
  [] [x83x, x85x, x87x] (.ixs 1 (.t x85x) (.t x87x)) false [] [] []), (.mk (some x89x) (some (.mk x83x true)) false [] false [true, true, true, true, false, true, true, true] [] 
  [x83x, x88x] (.ld 1 false (.t x88x)) false [] [] []), (.mk (some x90x) (some (.mk x83x true)) true [] false [false, false, false, false, false, false, true, true, true] [] [x83x, 
  x0x] (.mv (.t x0x)) false [] [] []), (.mk (some x91x) (some (.mk x83x true)) true [] false [false, false, false, false, false, false, false, true, true, true] [] [x83x, x13x] 
  (.mv (.t x13x)) false [] [] []), (.mk (some x92x) (some (.mk x83x true)) true [] false [true, true, false, false, false, false, false, false, true, true, true] [] [x83x, x90x, 
  x91x] (.ixs 1 (.t x90x) (.t x91x)) false [] [] []), (.mk (some x93x) (some (.mk x83x true)) false [] false [true, true, true, false, false, false, false, false, false, true, 
  true, true] [] [x83x, x92x] (.ld 1 false (.t x92x)) false [] [] []), (.mk (some x94x) (some (.mk x83x true)) false [] true [true, true, true, true, true, true, true, true, true, 
  true, true, true, true] [] [x83x, x84x, x89x, x93x] (.callv (.t x84x) (.cons (.t x89x) (.cons (.t x93x) .nil))) false [] [] []), (.mk (some x95x) (some (.mk x83x true)) true [] 
  false [true, true, true, true, true, true, true, true, true, true, true, true, true, true] [] [x83x, x94x] (.bin .lss (.t x94x) (.c (.n 0))) false [] [] []), (.mk (some x96x) 
  (some (.mk x83x true)) true [] false [true, true, true, true, true, true, true, true, true, true, true, true, true, true, true] [] [x83x, x95x] (.not (.t x95x)) false [] [] []), 
  (.mk (some x97x) none true [] false [true, true, true, true, true, true, true, true, true, true, true, true, true, true, true, true] [] [x83x, x96x] (.pick (.t x83x) (.t x96x) 
  (.c (.b false))) false [] [] [])]) (.cond (.t x97x) (.seq (.reg (.cons (some x98x) none (.mv (.t x0x)) (.cons (some x99x) none (.mv (.t x1x)) (.cons (some x100x) none (.mv (.t 
  x2x)) (.cons (some x101x) none (.mv (.t x13x)) (.cons (some x102x) none (.mv (.t x4x)) (.cons (some x103x) none (.call 98 (.cons (.t x98x) (.cons (.t x99x) (.cons (.t x100x) 
  (.cons (.t x101x) (.cons (.t x102x) .nil)))))) (.cons (some x15x) none (.mv (.t x103x)) .nil)))))))) (.seq (.reg (.cons (some x104x) none (.mv (.t x15x)) (.cons (some x1x) none 
  (.mv (.t x104x)) .nil))) (.exit 1))) .skip)) (.seq (.reg (.cons (some x106x) none (.mv (.t x0x)) (.cons (some x107x) none (.mv (.t x1x)) (.cons (some x108x) none (.mv (.t x2x)) 
  (.cons (some x109x) none (.mv (.t x13x)) (.cons (some x110x) none (.mv (.t x4x)) (.cons (some x111x) none (.call 99 (.cons (.t x106x) (.cons (.t x107x) (.cons (.t x108x) (.cons 
  (.t x109x) (.cons (.t x110x) .nil)))))) (.cons (some x105x) none (.mv (.t x111x)) (.cons (some x112x) none (.ext 0 (.t x105x)) (.cons (some x113x) none (.ext 1 (.t x105x)) (.cons 
  (some x16x) none (.mv (.t x112x)) (.cons (some x17x) none (.mv (.t x113x)) .nil)))))))))))) (.seq (.reg (.cons (some x114x) none (.mv (.t x17x)) (.cons (some x11x) none (.mv (.t 
  x114x)) .nil))) (.seq (.reg (.cons (some x115x) none (.mv (.t x16x)) (.cons (some x116x) none (.mv (.t x1x)) (.cons (some x117x) none (.bin .sub (.t x115x) (.t x116x)) (.cons 
  (some x118x) none (.mv (.t x2x)) (.cons (some x119x) none (.mv (.t x16x)) (.cons (some x120x) none (.bin .sub (.t x118x) (.t x119x)) (.cons (some x18x) none (.mv (.t x117x)) 
  (.cons (some x19x) none (.mv (.t x120x)) .nil))))))))) (.seq (.reg (.cons (some x121x) none (.mv (.t x12x)) (.cons (some x122x) none (.bin .quo (.t x121x) (.c (.n 8))) (.cons 
  (some x20x) none (.mv (.t x122x)) .nil)))) (.seq (.reg (.cons (some x123x) none (.mv (.t x18x)) (.cons (some x124x) none (.mv (.t x19x)) (.cons (some x125x) none (.bin .lss (.t 
  x123x) (.t x124x)) .nil)))) (.cond (.t x125x) (.seq (.reg (.cons (some x126x) none (.mv (.t x18x)) (.cons (some x127x) none (.mv (.t x20x)) (.cons (some x128x) none (.bin .geq 
  (.t x126x) (.t x127x)) (.cons (some x10x) none (.mv (.t x128x)) .nil))))) (.seq (.reg (.cons (some x129x) none (.mv (.t x0x)) (.cons (some x130x) none (.mv (.t x1x)) (.cons (some 
  x131x) none (.mv (.t x16x)) (.cons (some x132x) none (.mv (.t x3x)) (.cons (some x133x) none (.mv (.t x4x)) (.cons (some x134x) none (.call 91 (.cons (.t x129x) (.cons (.t x130x) 
  (.cons (.t x131x) (.cons (.t x132x) (.cons (.t x133x) .nil)))))) .nil))))))) (.reg (.cons (some x135x) none (.mv (.t x16x)) (.cons (some x136x) none (.bin .add (.t x135x) (.c (.n 
  1))) (.cons (some x1x) none (.mv (.t x136x)) .nil)))))) (.seq (.reg (.cons (some x137x) none (.mv (.t x19x)) (.cons (some x138x) none (.mv (.t x20x)) (.cons (some x139x) none 
  (.bin .geq (.t x137x) (.t x138x)) (.cons (some x10x) none (.mv (.t x139x)) .nil))))) (.seq (.reg (.cons (some x140x) none (.mv (.t x0x)) (.cons (some x141x) none (.mv (.t x16x)) 
  (.cons (some x142x) none (.bin .add (.t x141x) (.c (.n 1))) (.cons (some x143x) none (.mv (.t x2x)) (.cons (some x144x) none (.mv (.t x3x)) (.cons (some x145x) none (.mv (.t 
  x4x)) (.cons (some x146x) none (.call 91 (.cons (.t x140x) (.cons (.t x142x) (.cons (.t x143x) (.cons (.t x144x) (.cons (.t x145x) .nil)))))) .nil)))))))) (.reg (.cons (some 
  x147x) none (.mv (.t x16x)) (.cons (some x2x) none (.mv (.t x147x)) .nil)))))))))))))))))))))))) [])
theorem cc91 : compF Tryd.prog drops false false Tryd.f91 = some i91 := by kernel_rfl
noncomputable def i92 : FnI := (.mk false false (.seq (.reg (.cons (some x10x) none (.mv (.t x1x)) (.cons (some x11x) none (.bin .add (.t x10x) (.c (.n 1))) (.cons (some x8x) none (.mv (.t x11x)) .nil)))) 
  (.block 0 (.loop (.seq (.seq (.reg (.cons (some x12x) none (.mv (.t x8x)) (.cons (some x13x) none (.mv (.t x2x)) (.cons (some x14x) none (.bin .lss (.t x12x) (.t x13x)) .nil)))) 
  (.cond (.t x14x) .skip (.exit 0))) (.seq (.block 1 (.seq (.reg (.cons (some x17x) none (.mv (.t x8x)) (.cons (some x9x) none (.mv (.t x17x)) .nil))) (.block 2 (.loop (.seq (.seq 
  (.draw [(.mk (some x18x) none true [] false [] [] [x9x] (.mv (.t x9x)) false [] [] []), (.mk (some x19x) none true [] false [false] [] [x1x] (.mv (.t x1x)) false [] [] []), (.mk 
  (some x20x) none true [] false [true, true] [] [x18x, x19x] (.bin .gtr (.t x18x) (.t x19x)) false [] [] []), (.mk (some x21x) none true [] false [true, true, true] [] [x20x] (.mv 
  (.t x20x)) false [] [] []), (.mk (some x22x) (some (.mk x21x true)) true [] false [true, true, true, true] [] [x21x, x3x] (.mv (.t x3x)) false [] [] []), (.mk (some x23x) (some 
  (.mk x21x true)) true [] false [false, true, true, true, true] [] [x21x, x0x] (.mv (.t x0x)) false [] [] []), (.mk (some x24x) (some (.mk x21x true)) true [] false [false, false, 
  true, true, true, true] [] [x21x, x9x] (.mv (.t x9x)) false [] [] []), (.mk (some x25x) (some (.mk x21x true)) true [] false [true, true, false, true, true, true, true] [] [x21x, 
  x23x, x24x] (.ixs 1 (.t x23x) (.t x24x)) false [] [] []), (.mk (some x26x) (some (.mk x21x true)) false [] false [true, true, true, false, true, true, true, true] [] [x21x, x25x] 
  (.ld 1 false (.t x25x)) false [] [] []), (.mk (some x27x) (some (.mk x21x true)) true [] false [false, false, false, false, false, true, true, true, true] [] [x21x, x0x] (.mv (.t 
  x0x)) false [] [] []), (.mk (some x28x) (some (.mk x21x true)) true [] false [false, false, false, false, false, false, true, true, true, true] [] [x21x, x9x] (.mv (.t x9x)) 
  false [] [] []), (.mk (some x29x) (some (.mk x21x true)) true [] false [true, false, false, false, false, false, false, true, true, true, true] [] [x21x, x28x] (.bin .sub (.t 
  x28x) (.c (.n 1))) false [] [] []), (.mk (some x30x) (some (.mk x21x true)) true [] false [true, true, true, false, false, false, false, false, true, true, true, true] [] [x21x, 
  x27x, x29x] (.ixs 1 (.t x27x) (.t x29x)) false [] [] []), (.mk (some x31x) (some (.mk x21x true)) false [] false [true, true, true, true, false, false, false, false, false, true, 
  true, true, true] [] [x21x, x30x] (.ld 1 false (.t x30x)) false [] [] []), (.mk (some x32x) (some (.mk x21x true)) false [] true [true, true, true, true, true, true, true, true, 
  true, true, true, true, true, true] [] [x21x, x22x, x26x, x31x] (.callv (.t x22x) (.cons (.t x26x) (.cons (.t x31x) .nil))) false [] [] []), (.mk (some x33x) (some (.mk x21x 
  true)) true [] false [true, true, true, true, true, true, true, true, true, true, true, true, true, true, true] [] [x21x, x32x] (.bin .lss (.t x32x) (.c (.n 0))) false [] [] []), 
  (.mk (some x34x) none true [] false [true, true, true, true, true, true, true, true, true, true, true, true, true, true, true, true] [] [x21x, x33x] (.pick (.t x21x) (.t x33x) 
  (.c (.b false))) false [] [] [])]) (.cond (.t x34x) .skip (.exit 2))) (.seq (.block 3 (.draw [(.mk (some x37x) none true [] false [] [] [x0x] (.mv (.t x0x)) false [] [] []), (.mk 
  (some x38x) none true [] false [false] [] [x9x] (.mv (.t x9x)) false [] [] []), (.mk (some x39x) none true [] false [false, false] [x51x] [x0x] (.mv (.t x0x)) false [] [] []), 
  (.mk (some x40x) none true [] false [false, false, false] [x51x] [x9x] (.mv (.t x9x)) false [] [] []), (.mk (some x41x) none true [] false [true, false, false, false] [x51x] 
  [x40x] (.bin .sub (.t x40x) (.c (.n 1))) false [] [] []), (.mk (some x42x) none true [] false [false, false, false, false, false] [] [x0x] (.mv (.t x0x)) false [] [] []), (.mk 
  (some x43x) none true [] false [false, false, false, false, false, false] [] [x9x] (.mv (.t x9x)) false [] [] []), (.mk (some x44x) none true [] false [true, false, false, false, 
  false, false, false] [] [x43x] (.bin .sub (.t x43x) (.c (.n 1))) false [] [] []), (.mk (some x45x) none true [] false [true, true, true, false, false, false, false, false] [] 
  [x42x, x44x] (.ixs 1 (.t x42x) (.t x44x)) false [] [] []), (.mk (some x46x) none false [] false [true, true, true, true, false, false, false, false, false] [] [x45x] (.ld 1 false 
  (.t x45x)) false [] [] []), (.mk (some x47x) none true [] false [false, false, false, false, false, false, false, false, false, false] [] [x0x] (.mv (.t x0x)) false [] [] []), 
  (.mk (some x48x) none true [] false [false, false, false, false, false, false, false, false, false, false, false] [] [x9x] (.mv (.t x9x)) false [] [] []), (.mk (some x49x) none 
  true [] false [true, true, false, false, false, false, false, false, false, false, false, false] [] [x47x, x48x] (.ixs 1 (.t x47x) (.t x48x)) false [] [] []), (.mk (some x50x) 
  none false [] false [true, true, true, false, false, false, false, false, false, false, false, false, false] [] [x49x] (.ld 1 false (.t x49x)) false [] [] []), (.mk (some x51x) 
  none true [] false [true, true, true, true, true, true, true, true, true, false, false, false, true, true] [] [x37x, x38x] (.ixs 1 (.t x37x) (.t x38x)) false [] [] []), (.mk none 
  none false [x51x] false [true, true, true, true, true, true, true, true, true, true, false, false, false, true, true] [] [x51x, x46x] (.st 1 (.t x51x) (.t x46x)) false [] [] []), 
  (.mk (some x52x) none true [] false [true, true, true, true, true, true, true, true, true, true, true, true, true, true, true, true] [] [x39x, x41x] (.ixs 1 (.t x39x) (.t x41x)) 
  false [] [] []), (.mk none none false [x52x] false [true, true, true, true, true, true, true, true, true, true, true, true, true, true, true, true, true] [] [x52x, x50x] (.st 1 
  (.t x52x) (.t x50x)) false [] [] [])])) (.reg (.cons (some x35x) none (.mv (.t x9x)) (.cons (some x36x) none (.bin .sub (.t x35x) (.c (.n 1))) (.cons (some x9x) none (.mv (.t 
  x36x)) .nil)))))))))) (.reg (.cons (some x15x) none (.mv (.t x8x)) (.cons (some x16x) none (.bin .add (.t x15x) (.c (.n 1))) (.cons (some x8x) none (.mv (.t x16x)) .nil))))))))) 
  [])
theorem cc92 : compF Tryd.prog drops false false Tryd.f92 = some i92 := by kernel_rfl
noncomputable def i93 : FnI := (.mk false false (.seq (.reg (.cons (some x13x) none (.mv (.t x1x)) (.cons (some x8x) none (.mv (.t x13x)) .nil))) (.seq (.reg (.cons (some x9x) none (.mv (.c (.n 0))) .nil)) (.seq 
  (.reg (.cons (some x14x) none (.mv (.t x2x)) (.cons (some x15x) none (.mv (.t x1x)) (.cons (some x16x) none (.bin .sub (.t x14x) (.t x15x)) (.cons (some x10x) none (.mv (.t 
  x16x)) .nil))))) (.seq (.seq (.reg (.cons (some x17x) none (.mv (.t x10x)) (.cons (some x18x) none (.bin .sub (.t x17x) (.c (.n 1))) (.cons (some x19x) none (.bin .quo (.t x18x) 
  (.c (.n 2))) (.cons (some x11x) none (.mv (.t x19x)) .nil))))) (.block 0 (.loop (.seq (.seq (.reg (.cons (some x20x) none (.mv (.t x11x)) (.cons (some x21x) none (.bin .geq (.t 
  x20x) (.c (.n 0))) .nil))) (.cond (.t x21x) .skip (.exit 0))) (.seq (.block 1 (.reg (.cons (some x24x) none (.mv (.t x0x)) (.cons (some x25x) none (.mv (.t x11x)) (.cons (some 
  x26x) none (.mv (.t x10x)) (.cons (some x27x) none (.mv (.t x8x)) (.cons (some x28x) none (.mv (.t x3x)) (.cons (some x29x) none (.call 100 (.cons (.t x24x) (.cons (.t x25x) 
  (.cons (.t x26x) (.cons (.t x27x) (.cons (.t x28x) .nil)))))) .nil)))))))) (.reg (.cons (some x22x) none (.mv (.t x11x)) (.cons (some x23x) none (.bin .sub (.t x22x) (.c (.n 1))) 
  (.cons (some x11x) none (.mv (.t x23x)) .nil))))))))) (.seq (.reg (.cons (some x30x) none (.mv (.t x10x)) (.cons (some x31x) none (.bin .sub (.t x30x) (.c (.n 1))) (.cons (some 
  x12x) none (.mv (.t x31x)) .nil)))) (.block 2 (.loop (.seq (.seq (.reg (.cons (some x32x) none (.mv (.t x12x)) (.cons (some x33x) none (.bin .geq (.t x32x) (.c (.n 0))) .nil))) 
  (.cond (.t x33x) .skip (.exit 2))) (.seq (.block 3 (.seq (.draw [(.mk (some x36x) none true [] false [] [] [x0x] (.mv (.t x0x)) false [] [] []), (.mk (some x37x) none true [] 
  false [false] [] [x8x] (.mv (.t x8x)) false [] [] []), (.mk (some x38x) none true [] false [false, false] [x52x] [x0x] (.mv (.t x0x)) false [] [] []), (.mk (some x39x) none true 
  [] false [false, false, false] [x52x] [x8x] (.mv (.t x8x)) false [] [] []), (.mk (some x40x) none true [] false [false, false, false, false] [x52x] [x12x] (.mv (.t x12x)) false 
  [] [] []), (.mk (some x41x) none true [] false [true, true, false, false, false] [x52x] [x39x, x40x] (.bin .add (.t x39x) (.t x40x)) false [] [] []), (.mk (some x42x) none true 
  [] false [false, false, false, false, false, false] [] [x0x] (.mv (.t x0x)) false [] [] []), (.mk (some x43x) none true [] false [false, false, false, false, false, false, false] 
  [] [x8x] (.mv (.t x8x)) false [] [] []), (.mk (some x44x) none true [] false [false, false, false, false, false, false, false, false] [] [x12x] (.mv (.t x12x)) false [] [] []), 
  (.mk (some x45x) none true [] false [true, true, false, false, false, false, false, false, false] [] [x43x, x44x] (.bin .add (.t x43x) (.t x44x)) false [] [] []), (.mk (some 
  x46x) none true [] false [true, true, true, true, false, false, false, false, false, false] [] [x42x, x45x] (.ixs 1 (.t x42x) (.t x45x)) false [] [] []), (.mk (some x47x) none 
  false [] false [true, true, true, true, true, false, false, false, false, false, false] [] [x46x] (.ld 1 false (.t x46x)) false [] [] []), (.mk (some x48x) none true [] false 
  [false, false, false, false, false, false, false, false, false, false, false, false] [] [x0x] (.mv (.t x0x)) false [] [] []), (.mk (some x49x) none true [] false [false, false, 
  false, false, false, false, false, false, false, false, false, false, false] [] [x8x] (.mv (.t x8x)) false [] [] []), (.mk (some x50x) none true [] false [true, true, false, 
  false, false, false, false, false, false, false, false, false, false, false] [] [x48x, x49x] (.ixs 1 (.t x48x) (.t x49x)) false [] [] []), (.mk (some x51x) none false [] false 
  [true, true, true, false, false, false, false, false, false, false, false, false, false, false, false] [] [x50x] (.ld 1 false (.t x50x)) false [] [] []), (.mk (some x52x) none 
  true [] false [true, true, true, true, true, true, true, true, true, true, false, false, false, false, true, true] [] [x36x, x37x] (.ixs 1 (.t x36x) (.t x37x)) false [] [] []), 
  (.mk none none false [x52x] false [true, true, true, true, true, true, true, true, true, true, true, false, false, false, false, true, true] [] [x52x, x47x] (.st 1 (.t x52x) (.t 
  x47x)) false [] [] []), (.mk (some x53x) none true [] false [true, true, true, true, true, true, true, true, true, true, true, true, true, true, true, true, true, true] [] [x38x, 
  x41x] (.ixs 1 (.t x38x) (.t x41x)) false [] [] []), (.mk none none false [x53x] false [true, true, true, true, true, true, true, true, true, true, true, true, true, true, true, 
  true, true, true, true] [] [x53x, x51x] (.st 1 (.t x53x) (.t x51x)) false [] [] [])]) (.reg (.cons (some x54x) none (.mv (.t x0x)) (.cons (some x55x) none (.mv (.t x9x)) (.cons 
  (some x56x) none (.mv (.t x12x)) (.cons (some x57x) none (.mv (.t x8x)) (.cons (some x58x) none (.mv (.t x3x)) (.cons (some x59x) none (.call 100 (.cons (.t x54x) (.cons (.t 
  x55x) (.cons (.t x56x) (.cons (.t x57x) (.cons (.t x58x) .nil)))))) .nil))))))))) (.reg (.cons (some x34x) none (.mv (.t x12x)) (.cons (some x35x) none (.bin .sub (.t x34x) (.c 
  (.n 1))) (.cons (some x12x) none (.mv (.t x35x)) .nil))))))))))))) [])
theorem cc93 : compF Tryd.prog drops false false Tryd.f93 = some i93 := by kernel_rfl
noncomputable def i94 : FnI := (.mk false false (.seq (.reg (.cons (some x13x) none (.mv (.t x2x)) (.cons (some x14x) none (.mv (.t x1x)) (.cons (some x15x) none (.bin .sub (.t x13x) (.t x14x)) (.cons (some x8x) 
  none (.mv (.t x15x)) .nil))))) (.seq (.reg (.cons (some x16x) none (.mv (.t x8x)) (.cons (some x17x) none (.bin .geq (.t x16x) (.c (.n 8))) .nil))) (.cond (.t x17x) (.seq (.reg 
  (.cons (some x18x) none (.mv (.t x8x)) (.cons (some x19x) none (.conv .u64 (.t x18x)) (.cons (some x9x) none (.alloc 119 (.cons (.i .u64 (.ofNat 0)) .nil) 1) (.cons none none 
  (.st 1 (.t x9x) (.t x19x)) .nil))))) (.seq (.reg (.cons (some x20x) none (.mv (.t x8x)) (.cons (some x21x) none (.call 101 (.cons (.t x20x) .nil)) (.cons (some x10x) none (.mv 
  (.t x21x)) .nil)))) (.seq (.reg (.cons (some x22x) none (.mv (.t x1x)) (.cons (some x23x) none (.mv (.t x8x)) (.cons (some x24x) none (.bin .quo (.t x23x) (.c (.n 4))) (.cons 
  (some x25x) none (.bin .mul (.t x24x) (.c (.n 2))) (.cons (some x26x) none (.bin .add (.t x22x) (.t x25x)) (.cons (some x27x) none (.bin .sub (.t x26x) (.c (.n 1))) (.cons (some 
  x11x) none (.mv (.t x27x)) .nil)))))))) (.block 0 (.loop (.seq (.seq (.reg (.cons (some x28x) none (.mv (.t x11x)) (.cons (some x29x) none (.mv (.t x1x)) (.cons (some x30x) none 
  (.mv (.t x8x)) (.cons (some x31x) none (.bin .quo (.t x30x) (.c (.n 4))) (.cons (some x32x) none (.bin .mul (.t x31x) (.c (.n 2))) (.cons (some x33x) none (.bin .add (.t x29x) 
  (.t x32x)) (.cons (some x34x) none (.bin .add (.t x33x) (.c (.n 1))) (.cons (some x35x) none (.bin .leq (.t x28x) (.t x34x)) .nil))))))))) (.cond (.t x35x) .skip (.exit 0))) 
  (.seq (.block 1 (.seq (.reg (.cons (some x38x) none (.call 102 (.cons (.t x9x) .nil)) (.cons (some x39x) none (.mv (.t x10x)) (.cons (some x40x) none (.bin .sub (.t x39x) (.c (.i 
  .u64 (.ofNat 1)))) (.cons (some x41x) none (.bin .and (.t x38x) (.t x40x)) (.cons (some x42x) none (.conv .i64 (.t x41x)) (.cons (some x12x) none (.mv (.t x42x)) .nil))))))) 
  (.seq (.seq (.reg (.cons (some x43x) none (.mv (.t x12x)) (.cons (some x44x) none (.mv (.t x8x)) (.cons (some x45x) none (.bin .geq (.t x43x) (.t x44x)) .nil)))) (.cond (.t x45x) 
  (.reg (.cons (some x46x) none (.mv (.t x12x)) (.cons (some x47x) none (.mv (.t x8x)) (.cons (some x48x) none (.bin .sub (.t x46x) (.t x47x)) (.cons (some x12x) none (.mv (.t 
  x48x)) .nil))))) .skip)) (.draw [(.mk (some x49x) none true [] false [] [] [x0x] (.mv (.t x0x)) false [] [] []), (.mk (some x50x) none true [] false [false] [] [x11x] (.mv (.t 
  x11x)) false [] [] []), (.mk (some x51x) none true [] false [false, false] [x65x] [x0x] (.mv (.t x0x)) false [] [] []), (.mk (some x52x) none true [] false [false, false, false] 
  [x65x] [x1x] (.mv (.t x1x)) false [] [] []), (.mk (some x53x) none true [] false [false, false, false, false] [x65x] [x12x] (.mv (.t x12x)) false [] [] []), (.mk (some x54x) none 
  true [] false [true, true, false, false, false] [x65x] [x52x, x53x] (.bin .add (.t x52x) (.t x53x)) false [] [] []), (.mk (some x55x) none true [] false [false, false, false, 
  false, false, false] [] [x0x] (.mv (.t x0x)) false [] [] []), (.mk (some x56x) none true [] false [false, false, false, false, false, false, false] [] [x1x] (.mv (.t x1x)) false 
  [] [] []), (.mk (some x57x) none true [] false [false, false, false, false, false, false, false, false] [] [x12x] (.mv (.t x12x)) false [] [] []), (.mk (some x58x) none true [] 
  false [true, true, false, false, false, false, false, false, false] [] [x56x, x57x] (.bin .add (.t x56x) (.t x57x)) false [] [] []), (.mk (some x59x) none true [] false [true, 
  true, true, true, false, false, false, false, false, false] [] [x55x, x58x] (.ixs 1 (.t x55x) (.t x58x)) false [] [] []), (.mk (some x60x) none false [] false [true, true, true, 
  true, true, false, false, false, false, false, false] [] [x59x] (.ld 1 false (.t x59x)) false [] [] []), (.mk (some x61x) none true [] false [false, false, false, false, false, 
  false, false, false, false, false, false, false] [] [x0x] (.mv (.t x0x)) false [] [] []), (.mk (some x62x) none true [] false [false, false, false, false, false, false, false, 
  false, false, false, false, false, false] [] [x11x] (.mv (.t x11x)) false [] [] []), (.mk (some x63x) none true [] false [true, true, false, false, false, false, false, false, 
  false, false, false, false, false, false] [] [x61x, x62x] (.ixs 1 (.t x61x) (.t x62x)) false [] [] []), (.mk (some x64x) none false [] false [true, true, true, false, false, 
  false, false, false, false, false, false, false, false, false, false] [] [x63x] (.ld 1 false (.t x63x)) false [] [] []), (.mk (some x65x) none true [] false [true, true, true, 
  true, true, true, true, true, true, true, false, false, false, false, true, true] [] [x49x, x50x] (.ixs 1 (.t x49x) (.t x50x)) false [] [] []), (.mk none none false [x65x] false 
  [true, true, true, true, true, true, true, true, true, true, true, false, false, false, false, true, true] [] [x65x, x60x] (.st 1 (.t x65x) (.t x60x)) false [] [] []), (.mk (some 
  x66x) none true [] false [true, true, true, true, true, true, true, true, true, true, true, true, true, true, true, true, true, true] [] [x51x, x54x] (.ixs 1 (.t x51x) (.t x54x)) 
  false [] [] []), (.mk none none false [x66x] false [true, true, true, true, true, true, true, true, true, true, true, true, true, true, true, true, true, true, true] [] [x66x, 
  x64x] (.st 1 (.t x66x) (.t x64x)) false [] [] [])])))) (.reg (.cons (some x36x) none (.mv (.t x11x)) (.cons (some x37x) none (.bin .add (.t x36x) (.c (.n 1))) (.cons (some x11x) 
  none (.mv (.t x37x)) .nil))))))))))) .skip))) [])
theorem cc94 : compF Tryd.prog drops false false Tryd.f94 = some i94 := by kernel_rfl
noncomputable def i95 : FnI := (.mk false false (.seq (.reg (.cons (some x8x) none (.mv (.c (.n 0))) (.cons (some x9x) none (.mv (.c (.n 0))) .nil))) (.seq (.reg (.cons (some x15x) none (.mv (.t x2x)) (.cons 
  (some x16x) none (.mv (.t x1x)) (.cons (some x17x) none (.bin .sub (.t x15x) (.t x16x)) (.cons (some x10x) none (.mv (.t x17x)) .nil))))) (.seq (.reg (.cons (some x11x) none 
  (.alloc 3 (.cons (.n 0) .nil) 1) .nil)) (.seq (.reg (.cons (some x18x) none (.mv (.t x1x)) (.cons (some x19x) none (.mv (.t x10x)) (.cons (some x20x) none (.bin .quo (.t x19x) 
  (.c (.n 4))) (.cons (some x21x) none (.bin .mul (.t x20x) (.c (.n 1))) (.cons (some x22x) none (.bin .add (.t x18x) (.t x21x)) (.cons (some x12x) none (.mv (.t x22x)) .nil))))))) 
  (.seq (.reg (.cons (some x23x) none (.mv (.t x1x)) (.cons (some x24x) none (.mv (.t x10x)) (.cons (some x25x) none (.bin .quo (.t x24x) (.c (.n 4))) (.cons (some x26x) none (.bin 
  .mul (.t x25x) (.c (.n 2))) (.cons (some x27x) none (.bin .add (.t x23x) (.t x26x)) (.cons (some x13x) none (.mv (.t x27x)) .nil))))))) (.seq (.reg (.cons (some x28x) none (.mv 
  (.t x1x)) (.cons (some x29x) none (.mv (.t x10x)) (.cons (some x30x) none (.bin .quo (.t x29x) (.c (.n 4))) (.cons (some x31x) none (.bin .mul (.t x30x) (.c (.n 3))) (.cons (some 
  x32x) none (.bin .add (.t x28x) (.t x31x)) (.cons (some x14x) none (.mv (.t x32x)) .nil))))))) (.seq (.seq (.reg (.cons (some x33x) none (.mv (.t x10x)) (.cons (some x34x) none 
  (.bin .geq (.t x33x) (.c (.n 8))) .nil))) (.cond (.t x34x) (.seq (.seq (.reg (.cons (some x35x) none (.mv (.t x10x)) (.cons (some x36x) none (.bin .geq (.t x35x) (.c (.n 50))) 
  .nil))) (.cond (.t x36x) (.seq (.reg (.cons (some x37x) none (.mv (.t x0x)) (.cons (some x38x) none (.mv (.t x12x)) (.cons (some x39x) none (.mv (.t x3x)) (.cons (some x40x) none 
  (.call 103 (.cons (.t x37x) (.cons (.t x38x) (.cons (.t x11x) (.cons (.t x39x) .nil))))) (.cons (some x12x) none (.mv (.t x40x)) .nil)))))) (.seq (.reg (.cons (some x41x) none 
  (.mv (.t x0x)) (.cons (some x42x) none (.mv (.t x13x)) (.cons (some x43x) none (.mv (.t x3x)) (.cons (some x44x) none (.call 103 (.cons (.t x41x) (.cons (.t x42x) (.cons (.t 
  x11x) (.cons (.t x43x) .nil))))) (.cons (some x13x) none (.mv (.t x44x)) .nil)))))) (.reg (.cons (some x45x) none (.mv (.t x0x)) (.cons (some x46x) none (.mv (.t x14x)) (.cons 
  (some x47x) none (.mv (.t x3x)) (.cons (some x48x) none (.call 103 (.cons (.t x45x) (.cons (.t x46x) (.cons (.t x11x) (.cons (.t x47x) .nil))))) (.cons (some x14x) none (.mv (.t 
  x48x)) .nil)))))))) .skip)) (.reg (.cons (some x49x) none (.mv (.t x0x)) (.cons (some x50x) none (.mv (.t x12x)) (.cons (some x51x) none (.mv (.t x13x)) (.cons (some x52x) none 
  (.mv (.t x14x)) (.cons (some x53x) none (.mv (.t x3x)) (.cons (some x54x) none (.call 104 (.cons (.t x49x) (.cons (.t x50x) (.cons (.t x51x) (.cons (.t x52x) (.cons (.t x11x) 
  (.cons (.t x53x) .nil))))))) (.cons (some x13x) none (.mv (.t x54x)) .nil))))))))) .skip)) (.seq (.reg (.cons (some x55x) none (.ld 1 false (.t x11x)) .nil)) (.block 0 (.seq 
  (.reg (.cons (some x58x) none (.bin .eql (.t x55x) (.c (.n 0))) (.cons (some x57x) none (.mv (.t x58x)) .nil))) (.cond (.t x57x) (.seq (.reg (.cons (some x59x) none (.mv (.t 
  x13x)) (.cons (some x8x) none (.mv (.t x59x)) (.cons (some x9x) none (.mv (.c (.n 1))) .nil)))) .ret) (.seq (.reg (.cons (some x61x) none (.bin .eql (.t x55x) (.c (.n 12))) 
  (.cons (some x60x) none (.mv (.t x61x)) .nil))) (.cond (.t x60x) (.seq (.reg (.cons (some x62x) none (.mv (.t x13x)) (.cons (some x8x) none (.mv (.t x62x)) (.cons (some x9x) none 
  (.mv (.c (.n 2))) .nil)))) .ret) (.seq (.reg (.cons (some x56x) none (.mv (.t x13x)) (.cons (some x8x) none (.mv (.t x56x)) (.cons (some x9x) none (.mv (.c (.n 0))) .nil)))) 
  .ret)))))))))))))) [(.tmp x8x), (.tmp x9x)])
theorem cc95 : compF Tryd.prog drops false false Tryd.f95 = some i95 := by kernel_rfl
noncomputable def i96 : FnI := (.mk false false (.seq (.reg (.cons (some x10x) none (.mv (.t x1x)) (.cons (some x8x) none (.mv (.t x10x)) .nil))) (.seq (.reg (.cons (some x11x) none (.mv (.t x2x)) (.cons (some 
  x12x) none (.bin .sub (.t x11x) (.c (.n 1))) (.cons (some x9x) none (.mv (.t x12x)) .nil)))) (.block 0 (.loop (.seq (.seq (.reg (.cons (some x13x) none (.mv (.t x8x)) (.cons 
  (some x14x) none (.mv (.t x9x)) (.cons (some x15x) none (.bin .lss (.t x13x) (.t x14x)) .nil)))) (.cond (.t x15x) .skip (.exit 0))) (.block 1 (.seq (.draw [(.mk (some x16x) none 
  true [] false [] [] [x0x] (.mv (.t x0x)) false [] [] []), (.mk (some x17x) none true [] false [false] [] [x8x] (.mv (.t x8x)) false [] [] []), (.mk (some x18x) none true [] false 
  [false, false] [x28x] [x0x] (.mv (.t x0x)) false [] [] []), (.mk (some x19x) none true [] false [false, false, false] [x28x] [x9x] (.mv (.t x9x)) false [] [] []), (.mk (some 
  x20x) none true [] false [false, false, false, false] [] [x0x] (.mv (.t x0x)) false [] [] []), (.mk (some x21x) none true [] false [false, false, false, false, false] [] [x9x] 
  (.mv (.t x9x)) false [] [] []), (.mk (some x22x) none true [] false [true, true, false, false, false, false] [] [x20x, x21x] (.ixs 1 (.t x20x) (.t x21x)) false [] [] []), (.mk 
  (some x23x) none false [] false [true, true, true, false, false, false, false] [] [x22x] (.ld 1 false (.t x22x)) false [] [] []), (.mk (some x24x) none true [] false [false, 
  false, false, false, false, false, false, false] [] [x0x] (.mv (.t x0x)) false [] [] []), (.mk (some x25x) none true [] false [false, false, false, false, false, false, false, 
  false, false] [] [x8x] (.mv (.t x8x)) false [] [] []), (.mk (some x26x) none true [] false [true, true, false, false, false, false, false, false, false, false] [] [x24x, x25x] 
  (.ixs 1 (.t x24x) (.t x25x)) false [] [] []), (.mk (some x27x) none false [] false [true, true, true, false, false, false, false, false, false, false, false] [] [x26x] (.ld 1 
  false (.t x26x)) false [] [] []), (.mk (some x28x) none true [] false [true, true, true, true, true, true, true, true, false, false, true, true] [] [x16x, x17x] (.ixs 1 (.t x16x) 
  (.t x17x)) false [] [] []), (.mk none none false [x28x] false [true, true, true, true, true, true, true, true, true, false, false, true, true] [] [x28x, x23x] (.st 1 (.t x28x) 
  (.t x23x)) false [] [] []), (.mk (some x29x) none true [] false [true, true, true, true, true, true, true, true, true, true, true, true, true, true] [] [x18x, x19x] (.ixs 1 (.t 
  x18x) (.t x19x)) false [] [] []), (.mk none none false [x29x] false [true, true, true, true, true, true, true, true, true, true, true, true, true, true, true] [] [x29x, x27x] 
  (.st 1 (.t x29x) (.t x27x)) false [] [] [])]) (.seq (.reg (.cons (some x30x) none (.mv (.t x8x)) (.cons (some x31x) none (.bin .add (.t x30x) (.c (.n 1))) (.cons (some x8x) none 
  (.mv (.t x31x)) .nil)))) (.reg (.cons (some x32x) none (.mv (.t x9x)) (.cons (some x33x) none (.bin .sub (.t x32x) (.c (.n 1))) (.cons (some x9x) none (.mv (.t x33x)) 
  .nil)))))))))))) [])
theorem cc96 : compF Tryd.prog drops false false Tryd.f96 = some i96 := by kernel_rfl
noncomputable def i97 : FnI := (.mk false false (.seq (.reg (.cons (some x8x) none (.mv (.c (.b false))) .nil)) (.seq (.reg (.cons (some x13x) none (.mv (.t x1x)) (.cons (some x14x) none (.bin .add (.t x13x) (.c 
  (.n 1))) (.cons (some x9x) none (.mv (.t x14x)) .nil)))) (.seq (.seq (.reg (.cons (some x10x) none (.mv (.c (.n 0))) .nil)) (.block 0 (.loop (.seq (.seq (.reg (.cons (some x15x) 
  none (.mv (.t x10x)) (.cons (some x16x) none (.bin .lss (.t x15x) (.c (.n 5))) .nil))) (.cond (.t x16x) .skip (.exit 0))) (.seq (.block 1 (.seq (.block 2 (.loop (.seq (.seq 
  (.draw [(.mk (some x19x) none true [] false [] [] [x9x] (.mv (.t x9x)) false [] [] []), (.mk (some x20x) none true [] false [false] [] [x2x] (.mv (.t x2x)) false [] [] []), (.mk 
  (some x21x) none true [] false [true, true] [] [x19x, x20x] (.bin .lss (.t x19x) (.t x20x)) false [] [] []), (.mk (some x22x) none true [] false [true, true, true] [] [x21x] (.mv 
  (.t x21x)) false [] [] []), (.mk (some x23x) (some (.mk x22x true)) true [] false [true, true, true, true] [] [x22x, x3x] (.mv (.t x3x)) false [] [] []), (.mk (some x24x) (some 
  (.mk x22x true)) true [] false [false, true, true, true, true] [] [x22x, x0x] (.mv (.t x0x)) false [] [] []), (.mk (some x25x) (some (.mk x22x true)) true [] false [false, false, 
  true, true, true, true] [] [x22x, x9x] (.mv (.t x9x)) false [] [] []), (.mk (some x26x) (some (.mk x22x true)) true [] false [true, true, false, true, true, true, true] [] [x22x, 
  x24x, x25x] (.ixs 1 (.t x24x) (.t x25x)) false [] [] []), (.mk (some x27x) (some (.mk x22x true)) false [] false [true, true, true, false, true, true, true, true] [] [x22x, x26x] 
  (.ld 1 false (.t x26x)) false [] [] []), (.mk (some x28x) (some (.mk x22x true)) true [] false [false, false, false, false, false, true, true, true, true] [] [x22x, x0x] (.mv (.t 
  x0x)) false [] [] []), (.mk (some x29x) (some (.mk x22x true)) true [] false [false, false, false, false, false, false, true, true, true, true] [] [x22x, x9x] (.mv (.t x9x)) 
  false [] [] []), (.mk (some x30x) (some (.mk x22x true)) true [] false [true, false, false, false, false, false, false, true, true, true, true] [] [x22x, x29x] (.bin .sub (.t 
  x29x) (.c (.n 1))) false [] [] []), (.mk (some x31x) (some (.mk x22x true)) true [] false [true, true, true, false, false, false, false, false, true, true, true, true] [] [x22x, 
  x28x, x30x] (.ixs 1 (.t x28x) (.t x30x)) false [] [] []), (.mk (some x32x) (some (.mk x22x true)) false [] false [true, true, true, true, false, false, false, false, false, true, 
  true, true, true] [] [x22x, x31x] (.ld 1 false (.t x31x)) false [] [] []), (.mk (some x33x) (some (.mk x22x true)) false [] true [true, true, true, true, true, true, true, true, 
  true, true, true, true, true, true] [] [x22x, x23x, x27x, x32x] (.callv (.t x23x) (.cons (.t x27x) (.cons (.t x32x) .nil))) false [] [] []), (.mk (some x34x) (some (.mk x22x 
  true)) true [] false [true, true, true, true, true, true, true, true, true, true, true, true, true, true, true] [] [x22x, x33x] (.bin .lss (.t x33x) (.c (.n 0))) false [] [] []), 
  (.mk (some x35x) (some (.mk x22x true)) true [] false [true, true, true, true, true, true, true, true, true, true, true, true, true, true, true, true] [] [x22x, x34x] (.not (.t 
  x34x)) false [] [] []), (.mk (some x36x) none true [] false [true, true, true, true, true, true, true, true, true, true, true, true, true, true, true, true, true] [] [x22x, x35x] 
  (.pick (.t x22x) (.t x35x) (.c (.b false))) false [] [] [])]) (.cond (.t x36x) .skip (.exit 2))) (.block 3 (.reg (.cons (some x37x) none (.mv (.t x9x)) (.cons (some x38x) none 
  (.bin .add (.t x37x) (.c (.n 1))) (.cons (some x9x) none (.mv (.t x38x)) .nil)))))))) (.seq (.seq (.reg (.cons (some x39x) none (.mv (.t x9x)) (.cons (some x40x) none (.mv (.t 
  x2x)) (.cons (some x41x) none (.bin .eql (.t x39x) (.t x40x)) .nil)))) (.cond (.t x41x) (.seq (.reg (.cons (some x8x) none (.mv (.c (.b true))) .nil)) .ret) .skip)) (.seq (.seq 
  (.reg (.cons (some x42x) none (.mv (.t x2x)) (.cons (some x43x) none (.mv (.t x1x)) (.cons (some x44x) none (.bin .sub (.t x42x) (.t x43x)) (.cons (some x45x) none (.bin .lss (.t 
  x44x) (.c (.n 50))) .nil))))) (.cond (.t x45x) (.seq (.reg (.cons (some x8x) none (.mv (.c (.b false))) .nil)) .ret) .skip)) (.seq (.draw [(.mk (some x46x) none true [] false [] 
  [] [x0x] (.mv (.t x0x)) false [] [] []), (.mk (some x47x) none true [] false [false] [] [x9x] (.mv (.t x9x)) false [] [] []), (.mk (some x48x) none true [] false [false, false] 
  [x60x] [x0x] (.mv (.t x0x)) false [] [] []), (.mk (some x49x) none true [] false [false, false, false] [x60x] [x9x] (.mv (.t x9x)) false [] [] []), (.mk (some x50x) none true [] 
  false [true, false, false, false] [x60x] [x49x] (.bin .sub (.t x49x) (.c (.n 1))) false [] [] []), (.mk (some x51x) none true [] false [false, false, false, false, false] [] 
  [x0x] (.mv (.t x0x)) false [] [] []), (.mk (some x52x) none true [] false [false, false, false, false, false, false] [] [x9x] (.mv (.t x9x)) false [] [] []), (.mk (some x53x) 
  none true [] false [true, false, false, false, false, false, false] [] [x52x] (.bin .sub (.t x52x) (.c (.n 1))) false [] [] []), (.mk (some x54x) none true [] false [true, true, 
  true, false, false, false, false, false] [] [x51x, x53x] (.ixs 1 (.t x51x) (.t x53x)) false [] [] []), (.mk (some x55x) none false [] false [true, true, true, true, false, false, 
  false, false, false] [] [x54x] (.ld 1 false (.t x54x)) false [] [] []), (.mk (some x56x) none true [] false [false, false, false, false, false, false, false, false, false, false] 
  [] [x0x] (.mv (.t x0x)) false [] [] []), (.mk (some x57x) none true [] false [false, false, false, false, false, false, false, false, false, false, false] [] [x9x] (.mv (.t x9x)) 
  false [] [] []), (.mk (some x58x) none true [] false [true, true, false, false, false, false, false, false, false, false, false, false] [] [x56x, x57x] (.ixs 1 (.t x56x) (.t 
  x57x)) false [] [] []), (.mk (some x59x) none false [] false [true, true, true, false, false, false, false, false, false, false, false, false, false] [] [x58x] (.ld 1 false (.t 
  x58x)) false [] [] []), (.mk (some x60x) none true [] false [true, true, true, true, true, true, true, true, true, false, false, false, true, true] [] [x46x, x47x] (.ixs 1 (.t 
  x46x) (.t x47x)) false [] [] []), (.mk none none false [x60x] false [true, true, true, true, true, true, true, true, true, true, false, false, false, true, true] [] [x60x, x55x] 
  (.st 1 (.t x60x) (.t x55x)) false [] [] []), (.mk (some x61x) none true [] false [true, true, true, true, true, true, true, true, true, true, true, true, true, true, true, true] 
  [] [x48x, x50x] (.ixs 1 (.t x48x) (.t x50x)) false [] [] []), (.mk none none false [x61x] false [true, true, true, true, true, true, true, true, true, true, true, true, true, 
  true, true, true, true] [] [x61x, x59x] (.st 1 (.t x61x) (.t x59x)) false [] [] [])]) (.seq (.seq (.reg (.cons (some x62x) none (.mv (.t x9x)) (.cons (some x63x) none (.mv (.t 
  x1x)) (.cons (some x64x) none (.bin .sub (.t x62x) (.t x63x)) (.cons (some x65x) none (.bin .geq (.t x64x) (.c (.n 2))) .nil))))) (.cond (.t x65x) (.seq (.reg (.cons (some x66x) 
  none (.mv (.t x9x)) (.cons (some x67x) none (.bin .sub (.t x66x) (.c (.n 1))) (.cons (some x11x) none (.mv (.t x67x)) .nil)))) (.block 4 (.loop (.seq (.seq (.reg (.cons (some 
  x68x) none (.mv (.t x11x)) (.cons (some x69x) none (.bin .geq (.t x68x) (.c (.n 1))) .nil))) (.cond (.t x69x) .skip (.exit 4))) (.seq (.block 5 (.seq (.seq (.draw [(.mk (some 
  x72x) none true [] false [] [] [x3x] (.mv (.t x3x)) false [] [] []), (.mk (some x73x) none true [] false [false] [] [x0x] (.mv (.t x0x)) false [] [] []), (.mk (some x74x) none 
  true [] false [false, false] [] [x11x] (.mv (.t x11x)) false [] [] []), (.mk (some x75x) none true [] false [true, true, false] [] [x73x, x74x] (.ixs 1 (.t x73x) (.t x74x)) false 
  [] [] []), (.mk (some x76x) none false [] false [true, true, true, false] [] [x75x] (.ld 1 false (.t x75x)) false [] [] []), (.mk (some x77x) none true [] false [false, false, 
  false, false, false] [] [x0x] (.mv (.t x0x)) false [] [] []), (.mk (some x78x) none true [] false [false, false, false, false, false, false] [] [x11x] (.mv (.t x11x)) false [] [] 
  []), (.mk (some x79x) none true [] false [true, false, false, false, false, false, false] [] [x78x] (.bin .sub (.t x78x) (.c (.n 1))) false [] [] []), (.mk (some x80x) none true 
  [] false [true, true, true, false, false, false, false, false] [] [x77x, x79x] (.ixs 1 (.t x77x) (.t x79x)) false [] [] []), (.mk (some x81x) none false [] false [true, true, 
  true, true, false, false, false, false, false] [] [x80x] (.ld 1 false (.t x80x)) false [] [] []), (.mk (some x82x) none false [] true [true, true, true, true, true, true, true, 
  true, true, true] [] [x72x, x76x, x81x] (.callv (.t x72x) (.cons (.t x76x) (.cons (.t x81x) .nil))) false [] [] []), (.mk (some x83x) none true [] false [true, true, true, true, 
  true, true, true, true, true, true, true] [] [x82x] (.bin .lss (.t x82x) (.c (.n 0))) false [] [] []), (.mk (some x84x) none true [] false [true, true, true, true, true, true, 
  true, true, true, true, true, true] [] [x83x] (.not (.t x83x)) false [] [] [])]) (.cond (.t x84x) (.exit 4) .skip)) (.draw [(.mk (some x85x) none true [] false [] [] [x0x] (.mv 
  (.t x0x)) false [] [] []), (.mk (some x86x) none true [] false [false] [] [x11x] (.mv (.t x11x)) false [] [] []), (.mk (some x87x) none true [] false [false, false] [x99x] [x0x] 
  (.mv (.t x0x)) false [] [] []), (.mk (some x88x) none true [] false [false, false, false] [x99x] [x11x] (.mv (.t x11x)) false [] [] []), (.mk (some x89x) none true [] false 
  [true, false, false, false] [x99x] [x88x] (.bin .sub (.t x88x) (.c (.n 1))) false [] [] []), (.mk (some x90x) none true [] false [false, false, false, false, false] [] [x0x] (.mv 
  (.t x0x)) false [] [] []), (.mk (some x91x) none true [] false [false, false, false, false, false, false] [] [x11x] (.mv (.t x11x)) false [] [] []), (.mk (some x92x) none true [] 
  false [true, false, false, false, false, false, false] [] [x91x] (.bin .sub (.t x91x) (.c (.n 1))) false [] [] []), (.mk (some x93x) none true [] false [true, true, true, false, 
  false, false, false, false] [] [x90x, x92x] (.ixs 1 (.t x90x) (.t x92x)) false [] [] []), (.mk (some x94x) none false [] false [true, true, true, true, false, false, false, 
  false, false] [] [x93x] (.ld 1 false (.t x93x)) false [] [] []), (.mk (some x95x) none true [] false [false, false, false, false, false, false, false, false, false, false] [] 
  [x0x] (.mv (.t x0x)) false [] [] []), (.mk (some x96x) none true [] false [false, false, false, false, false, false, false, false, false, false, false] [] [x11x] (.mv (.t x11x)) 
  false [] [] []), (.mk (some x97x) none true [] false [true, true, false, false, false, false, false, false, false, false, false, false] [] [x95x, x96x] (.ixs 1 (.t x95x) (.t 
  x96x)) false [] [] []), (.mk (some x98x) none false [] false [true, true, true, false, false, false, false, false, false, false, false, false, false] [] [x97x] (.ld 1 false (.t 
  x97x)) false [] [] []), (.mk (some x99x) none true [] false [true, true, true, true, true, true, true, true, true, false, false, false, true, true] [] [x85x, x86x] (.ixs 1 (.t 
  x85x) (.t x86x)) false [] [] []), (.mk none none false [x99x] false [true, true, true, true, true, true, true, true, true, true, false, false, false, true, true] [] [x99x, x94x] 
  (.st 1 (.t x99x) (.t x94x)) false [] [] []), (.mk (some x100x) none true [] false [true, true, true, true, true, true, true, true, true, true, true, true, true, true, true, true] 
  [] [x87x, x89x] (.ixs 1 (.t x87x) (.t x89x)) false [] [] []), (.mk none none false [x100x] false [true, true, true, true, true, true, true, true, true, true, true, true, true, 
  true, true, true, true] [] [x100x, x98x] (.st 1 (.t x100x) (.t x98x)) false [] [] [])]))) (.reg (.cons (some x70x) none (.mv (.t x11x)) (.cons (some x71x) none (.bin .sub (.t 
  x70x) (.c (.n 1))) (.cons (some x11x) none (.mv (.t x71x)) .nil))))))))) .skip)) (.seq (.reg (.cons (some x101x) none (.mv (.t x2x)) (.cons (some x102x) none (.mv (.t x9x)) 
  (.cons (some x103x) none (.bin .sub (.t x101x) (.t x102x)) (.cons (some x104x) none (.bin .geq (.t x103x) (.c (.n 2))) .nil))))) (.cond (.t x104x) (.seq (.reg (.cons (some x105x) 
  none (.mv (.t x9x)) (.cons (some x106x) none (.bin .add (.t x105x) (.c (.n 1))) (.cons (some x12x) none (.mv (.t x106x)) .nil)))) (.block 6 (.loop (.seq (.seq (.reg (.cons (some 
  x107x) none (.mv (.t x12x)) (.cons (some x108x) none (.mv (.t x2x)) (.cons (some x109x) none (.bin .lss (.t x107x) (.t x108x)) .nil)))) (.cond (.t x109x) .skip (.exit 6))) (.seq 
  (.block 7 (.seq (.seq (.draw [(.mk (some x112x) none true [] false [] [] [x3x] (.mv (.t x3x)) false [] [] []), (.mk (some x113x) none true [] false [false] [] [x0x] (.mv (.t 
  x0x)) false [] [] []), (.mk (some x114x) none true [] false [false, false] [] [x12x] (.mv (.t x12x)) false [] [] []), (.mk (some x115x) none true [] false [true, true, false] [] 
  [x113x, x114x] (.ixs 1 (.t x113x) (.t x114x)) false [] [] []), (.mk (some x116x) none false [] false [true, true, true, false] [] [x115x] (.ld 1 false (.t x115x)) false [] [] 
  []), (.mk (some x117x) none true [] false [false, false, false, false, false] [] [x0x] (.mv (.t x0x)) false [] [] []), (.mk (some x118x) none true [] false [false, false, false, 
  false, false, false] [] [x12x] (.mv (.t x12x)) false [] [] []), (.mk (some x119x) none true [] false [true, false, false, false, false, false, false] [] [x118x] (.bin .sub (.t 
  x118x) (.c (.n 1))) false [] [] []), (.mk (some x120x) none true [] false [true, true, true, false, false, false, false, false] [] [x117x, x119x] (.ixs 1 (.t x117x) (.t x119x)) 
  false [] [] []), (.mk (some x121x) none false [] false [true, true, true, true, false, false, false, false, false] [] [x120x] (.ld 1 false (.t x120x)) false [] [] []), (.mk (some 
  x122x) none false [] true [true, true, true, true, true, true, true, true, true, true] [] [x112x, x116x, x121x] (.callv (.t x112x) (.cons (.t x116x) (.cons (.t x121x) .nil))) 
  false [] [] []), (.mk (some x123x) none true [] false [true, true, true, true, true, true, true, true, true, true, true] [] [x122x] (.bin .lss (.t x122x) (.c (.n 0))) false [] [] 
  []), (.mk (some x124x) none true [] false [true, true, true, true, true, true, true, true, true, true, true, true] [] [x123x] (.not (.t x123x)) false [] [] [])]) (.cond (.t 
  x124x) (.exit 6) .skip)) (.draw [(.mk (some x125x) none true [] false [] [] [x0x] (.mv (.t x0x)) false [] [] []), (.mk (some x126x) none true [] false [false] [] [x12x] (.mv (.t 
  x12x)) false [] [] []), (.mk (some x127x) none true [] false [false, false] [x139x] [x0x] (.mv (.t x0x)) false [] [] []), (.mk (some x128x) none true [] false [false, false, 
  false] [x139x] [x12x] (.mv (.t x12x)) false [] [] []), (.mk (some x129x) none true [] false [true, false, false, false] [x139x] [x128x] (.bin .sub (.t x128x) (.c (.n 1))) false 
  [] [] []), (.mk (some x130x) none true [] false [false, false, false, false, false] [] [x0x] (.mv (.t x0x)) false [] [] []), (.mk (some x131x) none true [] false [false, false, 
  false, false, false, false] [] [x12x] (.mv (.t x12x)) false [] [] []), (.mk (some x132x) none true [] false [true, false, false, false, false, false, false] [] [x131x] (.bin .sub 
  (.t x131x) (.c (.n 1))) false [] [] []), (.mk (some x133x) none true [] false [true, true, true, false, false, false, false, false] [] [x130x, x132x] (.ixs 1 (.t x130x) (.t 
  x132x)) false [] [] []), (.mk (some x134x) none false [] false [true, true, true, true, false, false, false, false, false] [] [x133x] (.ld 1 false (.t x133x)) false [] [] []), 
  (.mk (some x135x) none true [] false [false, false, false, false, false, false, false, false, false, false] [] [x0x] (.mv (.t x0x)) false [] [] []), (.mk (some x136x) none true 
  [] false [false, false, false, false, false, false, false, false, false, false, false] [] [x12x] (.mv (.t x12x)) false [] [] []), (.mk (some x137x) none true [] false [true, 
  true, false, false, false, false, false, false, false, false, false, false] [] [x135x, x136x] (.ixs 1 (.t x135x) (.t x136x)) false [] [] []), (.mk (some x138x) none false [] 
  false [true, true, true, false, false, false, false, false, false, false, false, false, false] [] [x137x] (.ld 1 false (.t x137x)) false [] [] []), (.mk (some x139x) none true [] 
  false [true, true, true, true, true, true, true, true, true, false, false, false, true, true] [] [x125x, x126x] (.ixs 1 (.t x125x) (.t x126x)) false [] [] []), (.mk none none 
  false [x139x] false [true, true, true, true, true, true, true, true, true, true, false, false, false, true, true] [] [x139x, x134x] (.st 1 (.t x139x) (.t x134x)) false [] [] []), 
  (.mk (some x140x) none true [] false [true, true, true, true, true, true, true, true, true, true, true, true, true, true, true, true] [] [x127x, x129x] (.ixs 1 (.t x127x) (.t 
  x129x)) false [] [] []), (.mk none none false [x140x] false [true, true, true, true, true, true, true, true, true, true, true, true, true, true, true, true, true] [] [x140x, 
  x138x] (.st 1 (.t x140x) (.t x138x)) false [] [] [])]))) (.reg (.cons (some x110x) none (.mv (.t x12x)) (.cons (some x111x) none (.bin .add (.t x110x) (.c (.n 1))) (.cons (some 
  x12x) none (.mv (.t x111x)) .nil))))))))) .skip)))))))) (.reg (.cons (some x17x) none (.mv (.t x10x)) (.cons (some x18x) none (.bin .add (.t x17x) (.c (.n 1))) (.cons (some x10x) 
  none (.mv (.t x18x)) .nil))))))))) (.seq (.reg (.cons (some x8x) none (.mv (.c (.b false))) .nil)) .ret)))) [(.tmp x8x)])
theorem cc97 : compF Tryd.prog drops false false Tryd.f97 = some i97 := by kernel_rfl
noncomputable def i98 : FnI := (.mk false false (.seq (.reg (.cons (some x10x) none (.mv (.c (.n 0))) .nil)) (.seq (.draw [(.mk (some x13x) none true [] false [] [] [x0x] (.mv (.t x0x)) false [] [] []), (.mk 
  (some x14x) none true [] false [false] [] [x1x] (.mv (.t x1x)) false [] [] []), (.mk (some x15x) none true [] false [false, false] [x25x] [x0x] (.mv (.t x0x)) false [] [] []), 
  (.mk (some x16x) none true [] false [false, false, false] [x25x] [x3x] (.mv (.t x3x)) false [] [] []), (.mk (some x17x) none true [] false [false, false, false, false] [] [x0x] 
  (.mv (.t x0x)) false [] [] []), (.mk (some x18x) none true [] false [false, false, false, false, false] [] [x3x] (.mv (.t x3x)) false [] [] []), (.mk (some x19x) none true [] 
  false [true, true, false, false, false, false] [] [x17x, x18x] (.ixs 1 (.t x17x) (.t x18x)) false [] [] []), (.mk (some x20x) none false [] false [true, true, true, false, false, 
  false, false] [] [x19x] (.ld 1 false (.t x19x)) false [] [] []), (.mk (some x21x) none true [] false [false, false, false, false, false, false, false, false] [] [x0x] (.mv (.t 
  x0x)) false [] [] []), (.mk (some x22x) none true [] false [false, false, false, false, false, false, false, false, false] [] [x1x] (.mv (.t x1x)) false [] [] []), (.mk (some 
  x23x) none true [] false [true, true, false, false, false, false, false, false, false, false] [] [x21x, x22x] (.ixs 1 (.t x21x) (.t x22x)) false [] [] []), (.mk (some x24x) none 
  false [] false [true, true, true, false, false, false, false, false, false, false, false] [] [x23x] (.ld 1 false (.t x23x)) false [] [] []), (.mk (some x25x) none true [] false 
  [true, true, true, true, true, true, true, true, false, false, true, true] [] [x13x, x14x] (.ixs 1 (.t x13x) (.t x14x)) false [] [] []), (.mk none none false [x25x] false [true, 
  true, true, true, true, true, true, true, true, false, false, true, true] [] [x25x, x20x] (.st 1 (.t x25x) (.t x20x)) false [] [] []), (.mk (some x26x) none true [] false [true, 
  true, true, true, true, true, true, true, true, true, true, true, true, true] [] [x15x, x16x] (.ixs 1 (.t x15x) (.t x16x)) false [] [] []), (.mk none none false [x26x] false 
  [true, true, true, true, true, true, true, true, true, true, true, true, true, true, true] [] [x26x, x24x] (.st 1 (.t x26x) (.t x24x)) false [] [] [])]) (.seq (.reg (.cons (some 
  x27x) none (.mv (.t x1x)) (.cons (some x28x) none (.bin .add (.t x27x) (.c (.n 1))) (.cons (some x29x) none (.mv (.t x2x)) (.cons (some x30x) none (.bin .sub (.t x29x) (.c (.n 
  1))) (.cons (some x11x) none (.mv (.t x28x)) (.cons (some x12x) none (.mv (.t x30x)) .nil))))))) (.seq (.block 0 (.loop (.block 1 (.seq (.block 2 (.loop (.seq (.seq (.draw [(.mk 
  (some x31x) none true [] false [] [] [x11x] (.mv (.t x11x)) false [] [] []), (.mk (some x32x) none true [] false [false] [] [x12x] (.mv (.t x12x)) false [] [] []), (.mk (some 
  x33x) none true [] false [true, true] [] [x31x, x32x] (.bin .leq (.t x31x) (.t x32x)) false [] [] []), (.mk (some x34x) none true [] false [true, true, true] [] [x33x] (.mv (.t 
  x33x)) false [] [] []), (.mk (some x35x) (some (.mk x34x true)) true [] false [true, true, true, true] [] [x34x, x4x] (.mv (.t x4x)) false [] [] []), (.mk (some x36x) (some (.mk 
  x34x true)) true [] false [false, true, true, true, true] [] [x34x, x0x] (.mv (.t x0x)) false [] [] []), (.mk (some x37x) (some (.mk x34x true)) true [] false [false, false, 
  true, true, true, true] [] [x34x, x1x] (.mv (.t x1x)) false [] [] []), (.mk (some x38x) (some (.mk x34x true)) true [] false [true, true, false, true, true, true, true] [] [x34x, 
  x36x, x37x] (.ixs 1 (.t x36x) (.t x37x)) false [] [] []), (.mk (some x39x) (some (.mk x34x true)) false [] false [true, true, true, false, true, true, true, true] [] [x34x, x38x] 
  (.ld 1 false (.t x38x)) false [] [] []), (.mk (some x40x) (some (.mk x34x true)) true [] false [false, false, false, false, false, true, true, true, true] [] [x34x, x0x] (.mv (.t 
  x0x)) false [] [] []), (.mk (some x41x) (some (.mk x34x true)) true [] false [false, false, false, false, false, false, true, true, true, true] [] [x34x, x11x] (.mv (.t x11x)) 
  false [] [] []), (.mk (some x42x) (some (.mk x34x true)) true [] false [true, true, false, false, false, false, false, true, true, true, true] [] [x34x, x40x, x41x] (.ixs 1 (.t 
  x40x) (.t x41x)) false [] [] []), (.mk (some x43x) (some (.mk x34x true)) false [] false [true, true, true, false, false, false, false, false, true, true, true, true] [] [x34x, 
  x42x] (.ld 1 false (.t x42x)) false [] [] []), (.mk (some x44x) (some (.mk x34x true)) false [] true [true, true, true, true, true, true, true, true, true, true, true, true, 
  true] [] [x34x, x35x, x39x, x43x] (.callv (.t x35x) (.cons (.t x39x) (.cons (.t x43x) .nil))) false [] [] []), (.mk (some x45x) (some (.mk x34x true)) true [] false [true, true, 
  true, true, true, true, true, true, true, true, true, true, true, true] [] [x34x, x44x] (.bin .lss (.t x44x) (.c (.n 0))) false [] [] []), (.mk (some x46x) (some (.mk x34x true)) 
  true [] false [true, true, true, true, true, true, true, true, true, true, true, true, true, true, true] [] [x34x, x45x] (.not (.t x45x)) false [] [] []), (.mk (some x47x) none 
  true [] false [true, true, true, true, true, true, true, true, true, true, true, true, true, true, true, true] [] [x34x, x46x] (.pick (.t x34x) (.t x46x) (.c (.b false))) false 
  [] [] [])]) (.cond (.t x47x) .skip (.exit 2))) (.block 3 (.reg (.cons (some x48x) none (.mv (.t x11x)) (.cons (some x49x) none (.bin .add (.t x48x) (.c (.n 1))) (.cons (some 
  x11x) none (.mv (.t x49x)) .nil)))))))) (.seq (.block 4 (.loop (.seq (.seq (.draw [(.mk (some x50x) none true [] false [] [] [x11x] (.mv (.t x11x)) false [] [] []), (.mk (some 
  x51x) none true [] false [false] [] [x12x] (.mv (.t x12x)) false [] [] []), (.mk (some x52x) none true [] false [true, true] [] [x50x, x51x] (.bin .leq (.t x50x) (.t x51x)) false 
  [] [] []), (.mk (some x53x) none true [] false [true, true, true] [] [x52x] (.mv (.t x52x)) false [] [] []), (.mk (some x54x) (some (.mk x53x true)) true [] false [true, true, 
  true, true] [] [x53x, x4x] (.mv (.t x4x)) false [] [] []), (.mk (some x55x) (some (.mk x53x true)) true [] false [false, true, true, true, true] [] [x53x, x0x] (.mv (.t x0x)) 
  false [] [] []), (.mk (some x56x) (some (.mk x53x true)) true [] false [false, false, true, true, true, true] [] [x53x, x1x] (.mv (.t x1x)) false [] [] []), (.mk (some x57x) 
  (some (.mk x53x true)) true [] false [true, true, false, true, true, true, true] [] [x53x, x55x, x56x] (.ixs 1 (.t x55x) (.t x56x)) false [] [] []), (.mk (some x58x) (some (.mk 
  x53x true)) false [] false [true, true, true, false, true, true, true, true] [] [x53x, x57x] (.ld 1 false (.t x57x)) false [] [] []), (.mk (some x59x) (some (.mk x53x true)) true 
  [] false [false, false, false, false, false, true, true, true, true] [] [x53x, x0x] (.mv (.t x0x)) false [] [] []), (.mk (some x60x) (some (.mk x53x true)) true [] false [false, 
  false, false, false, false, false, true, true, true, true] [] [x53x, x12x] (.mv (.t x12x)) false [] [] []), (.mk (some x61x) (some (.mk x53x true)) true [] false [true, true, 
  false, false, false, false, false, true, true, true, true] [] [x53x, x59x, x60x] (.ixs 1 (.t x59x) (.t x60x)) false [] [] []), (.mk (some x62x) (some (.mk x53x true)) false [] 
  false [true, true, true, false, false, false, false, false, true, true, true, true] [] [x53x, x61x] (.ld 1 false (.t x61x)) false [] [] []), (.mk (some x63x) (some (.mk x53x 
  true)) false [] true [true, true, true, true, true, true, true, true, true, true, true, true, true] [] [x53x, x54x, x58x, x62x] (.callv (.t x54x) (.cons (.t x58x) (.cons (.t 
  x62x) .nil))) false [] [] []), (.mk (some x64x) (some (.mk x53x true)) true [] false [true, true, true, true, true, true, true, true, true, true, true, true, true, true] [] 
  [x53x, x63x] (.bin .lss (.t x63x) (.c (.n 0))) false [] [] []), (.mk (some x65x) none true [] false [true, true, true, true, true, true, true, true, true, true, true, true, true, 
  true, true] [] [x53x, x64x] (.pick (.t x53x) (.t x64x) (.c (.b false))) false [] [] [])]) (.cond (.t x65x) .skip (.exit 4))) (.block 5 (.reg (.cons (some x66x) none (.mv (.t 
  x12x)) (.cons (some x67x) none (.bin .sub (.t x66x) (.c (.n 1))) (.cons (some x12x) none (.mv (.t x67x)) .nil)))))))) (.seq (.seq (.reg (.cons (some x68x) none (.mv (.t x11x)) 
  (.cons (some x69x) none (.mv (.t x12x)) (.cons (some x70x) none (.bin .gtr (.t x68x) (.t x69x)) .nil)))) (.cond (.t x70x) (.exit 0) .skip)) (.seq (.draw [(.mk (some x71x) none 
  true [] false [] [] [x0x] (.mv (.t x0x)) false [] [] []), (.mk (some x72x) none true [] false [false] [] [x11x] (.mv (.t x11x)) false [] [] []), (.mk (some x73x) none true [] 
  false [false, false] [x83x] [x0x] (.mv (.t x0x)) false [] [] []), (.mk (some x74x) none true [] false [false, false, false] [x83x] [x12x] (.mv (.t x12x)) false [] [] []), (.mk 
  (some x75x) none true [] false [false, false, false, false] [] [x0x] (.mv (.t x0x)) false [] [] []), (.mk (some x76x) none true [] false [false, false, false, false, false] [] 
  [x12x] (.mv (.t x12x)) false [] [] []), (.mk (some x77x) none true [] false [true, true, false, false, false, false] [] [x75x, x76x] (.ixs 1 (.t x75x) (.t x76x)) false [] [] []), 
  (.mk (some x78x) none false [] false [true, true, true, false, false, false, false] [] [x77x] (.ld 1 false (.t x77x)) false [] [] []), (.mk (some x79x) none true [] false [false, 
  false, false, false, false, false, false, false] [] [x0x] (.mv (.t x0x)) false [] [] []), (.mk (some x80x) none true [] false [false, false, false, false, false, false, false, 
  false, false] [] [x11x] (.mv (.t x11x)) false [] [] []), (.mk (some x81x) none true [] false [true, true, false, false, false, false, false, false, false, false] [] [x79x, x80x] 
  (.ixs 1 (.t x79x) (.t x80x)) false [] [] []), (.mk (some x82x) none false [] false [true, true, true, false, false, false, false, false, false, false, false] [] [x81x] (.ld 1 
  false (.t x81x)) false [] [] []), (.mk (some x83x) none true [] false [true, true, true, true, true, true, true, true, false, false, true, true] [] [x71x, x72x] (.ixs 1 (.t x71x) 
  (.t x72x)) false [] [] []), (.mk none none false [x83x] false [true, true, true, true, true, true, true, true, true, false, false, true, true] [] [x83x, x78x] (.st 1 (.t x83x) 
  (.t x78x)) false [] [] []), (.mk (some x84x) none true [] false [true, true, true, true, true, true, true, true, true, true, true, true, true, true] [] [x73x, x74x] (.ixs 1 (.t 
  x73x) (.t x74x)) false [] [] []), (.mk none none false [x84x] false [true, true, true, true, true, true, true, true, true, true, true, true, true, true, true] [] [x84x, x82x] 
  (.st 1 (.t x84x) (.t x82x)) false [] [] [])]) (.seq (.reg (.cons (some x85x) none (.mv (.t x11x)) (.cons (some x86x) none (.bin .add (.t x85x) (.c (.n 1))) (.cons (some x11x) 
  none (.mv (.t x86x)) .nil)))) (.reg (.cons (some x87x) none (.mv (.t x12x)) (.cons (some x88x) none (.bin .sub (.t x87x) (.c (.n 1))) (.cons (some x12x) none (.mv (.t x88x)) 
  .nil)))))))))))) (.seq (.reg (.cons (some x89x) none (.mv (.t x11x)) (.cons (some x10x) none (.mv (.t x89x)) .nil))) .ret))))) [(.tmp x10x)])
theorem cc98 : compF Tryd.prog drops false false Tryd.f98 = some i98 := by kernel_rfl
noncomputable def i99 : FnI := (.mk false false (.seq (.reg (.cons (some x10x) none (.mv (.c (.n 0))) (.cons (some x11x) none (.mv (.c (.b false))) .nil))) (.seq (.draw [(.mk (some x14x) none true [] false [] [] 
  [x0x] (.mv (.t x0x)) false [] [] []), (.mk (some x15x) none true [] false [false] [] [x1x] (.mv (.t x1x)) false [] [] []), (.mk (some x16x) none true [] false [false, false] 
  [x26x] [x0x] (.mv (.t x0x)) false [] [] []), (.mk (some x17x) none true [] false [false, false, false] [x26x] [x3x] (.mv (.t x3x)) false [] [] []), (.mk (some x18x) none true [] 
  false [false, false, false, false] [] [x0x] (.mv (.t x0x)) false [] [] []), (.mk (some x19x) none true [] false [false, false, false, false, false] [] [x3x] (.mv (.t x3x)) false 
  [] [] []), (.mk (some x20x) none true [] false [true, true, false, false, false, false] [] [x18x, x19x] (.ixs 1 (.t x18x) (.t x19x)) false [] [] []), (.mk (some x21x) none false 
  [] false [true, true, true, false, false, false, false] [] [x20x] (.ld 1 false (.t x20x)) false [] [] []), (.mk (some x22x) none true [] false [false, false, false, false, false, 
  false, false, false] [] [x0x] (.mv (.t x0x)) false [] [] []), (.mk (some x23x) none true [] false [false, false, false, false, false, false, false, false, false] [] [x1x] (.mv 
  (.t x1x)) false [] [] []), (.mk (some x24x) none true [] false [true, true, false, false, false, false, false, false, false, false] [] [x22x, x23x] (.ixs 1 (.t x22x) (.t x23x)) 
  false [] [] []), (.mk (some x25x) none false [] false [true, true, true, false, false, false, false, false, false, false, false] [] [x24x] (.ld 1 false (.t x24x)) false [] [] 
  []), (.mk (some x26x) none true [] false [true, true, true, true, true, true, true, true, false, false, true, true] [] [x14x, x15x] (.ixs 1 (.t x14x) (.t x15x)) false [] [] []), 
  (.mk none none false [x26x] false [true, true, true, true, true, true, true, true, true, false, false, true, true] [] [x26x, x21x] (.st 1 (.t x26x) (.t x21x)) false [] [] []), 
  (.mk (some x27x) none true [] false [true, true, true, true, true, true, true, true, true, true, true, true, true, true] [] [x16x, x17x] (.ixs 1 (.t x16x) (.t x17x)) false [] [] 
  []), (.mk none none false [x27x] false [true, true, true, true, true, true, true, true, true, true, true, true, true, true, true] [] [x27x, x25x] (.st 1 (.t x27x) (.t x25x)) 
  false [] [] [])]) (.seq (.reg (.cons (some x28x) none (.mv (.t x1x)) (.cons (some x29x) none (.bin .add (.t x28x) (.c (.n 1))) (.cons (some x30x) none (.mv (.t x2x)) (.cons (some 
  x31x) none (.bin .sub (.t x30x) (.c (.n 1))) (.cons (some x12x) none (.mv (.t x29x)) (.cons (some x13x) none (.mv (.t x31x)) .nil))))))) (.seq (.block 0 (.loop (.seq (.seq (.draw 
  [(.mk (some x32x) none true [] false [] [] [x12x] (.mv (.t x12x)) false [] [] []), (.mk (some x33x) none true [] false [false] [] [x13x] (.mv (.t x13x)) false [] [] []), (.mk 
  (some x34x) none true [] false [true, true] [] [x32x, x33x] (.bin .leq (.t x32x) (.t x33x)) false [] [] []), (.mk (some x35x) none true [] false [true, true, true] [] [x34x] (.mv 
  (.t x34x)) false [] [] []), (.mk (some x36x) (some (.mk x35x true)) true [] false [true, true, true, true] [] [x35x, x4x] (.mv (.t x4x)) false [] [] []), (.mk (some x37x) (some 
  (.mk x35x true)) true [] false [false, true, true, true, true] [] [x35x, x0x] (.mv (.t x0x)) false [] [] []), (.mk (some x38x) (some (.mk x35x true)) true [] false [false, false, 
  true, true, true, true] [] [x35x, x12x] (.mv (.t x12x)) false [] [] []), (.mk (some x39x) (some (.mk x35x true)) true [] false [true, true, false, true, true, true, true] [] 
  [x35x, x37x, x38x] (.ixs 1 (.t x37x) (.t x38x)) false [] [] []), (.mk (some x40x) (some (.mk x35x true)) false [] false [true, true, true, false, true, true, true, true] [] 
  [x35x, x39x] (.ld 1 false (.t x39x)) false [] [] []), (.mk (some x41x) (some (.mk x35x true)) true [] false [false, false, false, false, false, true, true, true, true] [] [x35x, 
  x0x] (.mv (.t x0x)) false [] [] []), (.mk (some x42x) (some (.mk x35x true)) true [] false [false, false, false, false, false, false, true, true, true, true] [] [x35x, x1x] (.mv 
  (.t x1x)) false [] [] []), (.mk (some x43x) (some (.mk x35x true)) true [] false [true, true, false, false, false, false, false, true, true, true, true] [] [x35x, x41x, x42x] 
  (.ixs 1 (.t x41x) (.t x42x)) false [] [] []), (.mk (some x44x) (some (.mk x35x true)) false [] false [true, true, true, false, false, false, false, false, true, true, true, true] 
  [] [x35x, x43x] (.ld 1 false (.t x43x)) false [] [] []), (.mk (some x45x) (some (.mk x35x true)) false [] true [true, true, true, true, true, true, true, true, true, true, true, 
  true, true] [] [x35x, x36x, x40x, x44x] (.callv (.t x36x) (.cons (.t x40x) (.cons (.t x44x) .nil))) false [] [] []), (.mk (some x46x) (some (.mk x35x true)) true [] false [true, 
  true, true, true, true, true, true, true, true, true, true, true, true, true] [] [x35x, x45x] (.bin .lss (.t x45x) (.c (.n 0))) false [] [] []), (.mk (some x47x) none true [] 
  false [true, true, true, true, true, true, true, true, true, true, true, true, true, true, true] [] [x35x, x46x] (.pick (.t x35x) (.t x46x) (.c (.b false))) false [] [] [])]) 
  (.cond (.t x47x) .skip (.exit 0))) (.block 1 (.reg (.cons (some x48x) none (.mv (.t x12x)) (.cons (some x49x) none (.bin .add (.t x48x) (.c (.n 1))) (.cons (some x12x) none (.mv 
  (.t x49x)) .nil)))))))) (.seq (.block 2 (.loop (.seq (.seq (.draw [(.mk (some x50x) none true [] false [] [] [x12x] (.mv (.t x12x)) false [] [] []), (.mk (some x51x) none true [] 
  false [false] [] [x13x] (.mv (.t x13x)) false [] [] []), (.mk (some x52x) none true [] false [true, true] [] [x50x, x51x] (.bin .leq (.t x50x) (.t x51x)) false [] [] []), (.mk 
  (some x53x) none true [] false [true, true, true] [] [x52x] (.mv (.t x52x)) false [] [] []), (.mk (some x54x) (some (.mk x53x true)) true [] false [true, true, true, true] [] 
  [x53x, x4x] (.mv (.t x4x)) false [] [] []), (.mk (some x55x) (some (.mk x53x true)) true [] false [false, true, true, true, true] [] [x53x, x0x] (.mv (.t x0x)) false [] [] []), 
  (.mk (some x56x) (some (.mk x53x true)) true [] false [false, false, true, true, true, true] [] [x53x, x13x] (.mv (.t x13x)) false [] [] []), (.mk (some x57x) (some (.mk x53x 
  true)) true [] false [true, true, false, true, true, true, true] [] [x53x, x55x, x56x] (.ixs 1 (.t x55x) (.t x56x)) false [] [] []), (.mk (some x58x) (some (.mk x53x true)) false 
  [] false [true, true, true, false, true, true, true, true] [] [x53x, x57x] (.ld 1 false (.t x57x)) false [] [] []), (.mk (some x59x) (some (.mk x53x true)) true [] false [false, 
  false, false, false, false, true, true, true, true] [] [x53x, x0x] (.mv (.t x0x)) false [] [] []), (.mk (some x60x) (some (.mk x53x true)) true [] false [false, false, false, 
  false, false, false, true, true, true, true] [] [x53x, x1x] (.mv (.t x1x)) false [] [] []), (.mk (some x61x) (some (.mk x53x true)) true [] false [true, true, false, false, 
  false, false, false, true, true, true, true] [] [x53x, x59x, x60x] (.ixs 1 (.t x59x) (.t x60x)) false [] [] []), (.mk (some x62x) (some (.mk x53x true)) false [] false [true, 
  true, true, false, false, false, false, false, true, true, true, true] [] [x53x, x61x] (.ld 1 false (.t x61x)) false [] [] []), (.mk (some x63x) (some (.mk x53x true)) false [] 
  true [true, true, true, true, true, true, true, true, true, true, true, true, true] [] [x53x, x54x, x58x, x62x] (.callv (.t x54x) (.cons (.t x58x) (.cons (.t x62x) .nil))) false 
  [] [] []), (.mk (some x64x) (some (.mk x53x true)) true [] false [true, true, true, true, true, true, true, true, true, true, true, true, true, true] [] [x53x, x63x] (.bin .lss 
  (.t x63x) (.c (.n 0))) false [] [] []), (.mk (some x65x) (some (.mk x53x true)) true [] false [true, true, true, true, true, true, true, true, true, true, true, true, true, true, 
  true] [] [x53x, x64x] (.not (.t x64x)) false [] [] []), (.mk (some x66x) none true [] false [true, true, true, true, true, true, true, true, true, true, true, true, true, true, 
  true, true] [] [x53x, x65x] (.pick (.t x53x) (.t x65x) (.c (.b false))) false [] [] [])]) (.cond (.t x66x) .skip (.exit 2))) (.block 3 (.reg (.cons (some x67x) none (.mv (.t 
  x13x)) (.cons (some x68x) none (.bin .sub (.t x67x) (.c (.n 1))) (.cons (some x13x) none (.mv (.t x68x)) .nil)))))))) (.seq (.seq (.reg (.cons (some x69x) none (.mv (.t x12x)) 
  (.cons (some x70x) none (.mv (.t x13x)) (.cons (some x71x) none (.bin .gtr (.t x69x) (.t x70x)) .nil)))) (.cond (.t x71x) (.seq (.draw [(.mk (some x72x) none true [] false [] [] 
  [x0x] (.mv (.t x0x)) false [] [] []), (.mk (some x73x) none true [] false [false] [] [x13x] (.mv (.t x13x)) false [] [] []), (.mk (some x74x) none true [] false [false, false] 
  [x84x] [x0x] (.mv (.t x0x)) false [] [] []), (.mk (some x75x) none true [] false [false, false, false] [x84x] [x1x] (.mv (.t x1x)) false [] [] []), (.mk (some x76x) none true [] 
  false [false, false, false, false] [] [x0x] (.mv (.t x0x)) false [] [] []), (.mk (some x77x) none true [] false [false, false, false, false, false] [] [x1x] (.mv (.t x1x)) false 
  [] [] []), (.mk (some x78x) none true [] false [true, true, false, false, false, false] [] [x76x, x77x] (.ixs 1 (.t x76x) (.t x77x)) false [] [] []), (.mk (some x79x) none false 
  [] false [true, true, true, false, false, false, false] [] [x78x] (.ld 1 false (.t x78x)) false [] [] []), (.mk (some x80x) none true [] false [false, false, false, false, false, 
  false, false, false] [] [x0x] (.mv (.t x0x)) false [] [] []), (.mk (some x81x) none true [] false [false, false, false, false, false, false, false, false, false] [] [x13x] (.mv 
  (.t x13x)) false [] [] []), (.mk (some x82x) none true [] false [true, true, false, false, false, false, false, false, false, false] [] [x80x, x81x] (.ixs 1 (.t x80x) (.t x81x)) 
  false [] [] []), (.mk (some x83x) none false [] false [true, true, true, false, false, false, false, false, false, false, false] [] [x82x] (.ld 1 false (.t x82x)) false [] [] 
  []), (.mk (some x84x) none true [] false [true, true, true, true, true, true, true, true, false, false, true, true] [] [x72x, x73x] (.ixs 1 (.t x72x) (.t x73x)) false [] [] []), 
  (.mk none none false [x84x] false [true, true, true, true, true, true, true, true, true, false, false, true, true] [] [x84x, x79x] (.st 1 (.t x84x) (.t x79x)) false [] [] []), 
  (.mk (some x85x) none true [] false [true, true, true, true, true, true, true, true, true, true, true, true, true, true] [] [x74x, x75x] (.ixs 1 (.t x74x) (.t x75x)) false [] [] 
  []), (.mk none none false [x85x] false [true, true, true, true, true, true, true, true, true, true, true, true, true, true, true] [] [x85x, x83x] (.st 1 (.t x85x) (.t x83x)) 
  false [] [] [])]) (.seq (.reg (.cons (some x86x) none (.mv (.t x13x)) (.cons (some x10x) none (.mv (.t x86x)) (.cons (some x11x) none (.mv (.c (.b true))) .nil)))) .ret)) .skip)) 
  (.seq (.draw [(.mk (some x87x) none true [] false [] [] [x0x] (.mv (.t x0x)) false [] [] []), (.mk (some x88x) none true [] false [false] [] [x12x] (.mv (.t x12x)) false [] [] 
  []), (.mk (some x89x) none true [] false [false, false] [x99x] [x0x] (.mv (.t x0x)) false [] [] []), (.mk (some x90x) none true [] false [false, false, false] [x99x] [x13x] (.mv 
  (.t x13x)) false [] [] []), (.mk (some x91x) none true [] false [false, false, false, false] [] [x0x] (.mv (.t x0x)) false [] [] []), (.mk (some x92x) none true [] false [false, 
  false, false, false, false] [] [x13x] (.mv (.t x13x)) false [] [] []), (.mk (some x93x) none true [] false [true, true, false, false, false, false] [] [x91x, x92x] (.ixs 1 (.t 
  x91x) (.t x92x)) false [] [] []), (.mk (some x94x) none false [] false [true, true, true, false, false, false, false] [] [x93x] (.ld 1 false (.t x93x)) false [] [] []), (.mk 
  (some x95x) none true [] false [false, false, false, false, false, false, false, false] [] [x0x] (.mv (.t x0x)) false [] [] []), (.mk (some x96x) none true [] false [false, 
  false, false, false, false, false, false, false, false] [] [x12x] (.mv (.t x12x)) false [] [] []), (.mk (some x97x) none true [] false [true, true, false, false, false, false, 
  false, false, false, false] [] [x95x, x96x] (.ixs 1 (.t x95x) (.t x96x)) false [] [] []), (.mk (some x98x) none false [] false [true, true, true, false, false, false, false, 
  false, false, false, false] [] [x97x] (.ld 1 false (.t x97x)) false [] [] []), (.mk (some x99x) none true [] false [true, true, true, true, true, true, true, true, false, false, 
  true, true] [] [x87x, x88x] (.ixs 1 (.t x87x) (.t x88x)) false [] [] []), (.mk none none false [x99x] false [true, true, true, true, true, true, true, true, true, false, false, 
  true, true] [] [x99x, x94x] (.st 1 (.t x99x) (.t x94x)) false [] [] []), (.mk (some x100x) none true [] false [true, true, true, true, true, true, true, true, true, true, true, 
  true, true, true] [] [x89x, x90x] (.ixs 1 (.t x89x) (.t x90x)) false [] [] []), (.mk none none false [x100x] false [true, true, true, true, true, true, true, true, true, true, 
  true, true, true, true, true] [] [x100x, x98x] (.st 1 (.t x100x) (.t x98x)) false [] [] [])]) (.seq (.reg (.cons (some x101x) none (.mv (.t x12x)) (.cons (some x102x) none (.bin 
  .add (.t x101x) (.c (.n 1))) (.cons (some x12x) none (.mv (.t x102x)) .nil)))) (.seq (.reg (.cons (some x103x) none (.mv (.t x13x)) (.cons (some x104x) none (.bin .sub (.t x103x) 
  (.c (.n 1))) (.cons (some x13x) none (.mv (.t x104x)) .nil)))) (.seq (.block 4 (.loop (.block 5 (.seq (.block 6 (.loop (.seq (.seq (.draw [(.mk (some x105x) none true [] false [] 
  [] [x12x] (.mv (.t x12x)) false [] [] []), (.mk (some x106x) none true [] false [false] [] [x13x] (.mv (.t x13x)) false [] [] []), (.mk (some x107x) none true [] false [true, 
  true] [] [x105x, x106x] (.bin .leq (.t x105x) (.t x106x)) false [] [] []), (.mk (some x108x) none true [] false [true, true, true] [] [x107x] (.mv (.t x107x)) false [] [] []), 
  (.mk (some x109x) (some (.mk x108x true)) true [] false [true, true, true, true] [] [x108x, x4x] (.mv (.t x4x)) false [] [] []), (.mk (some x110x) (some (.mk x108x true)) true [] 
  false [false, true, true, true, true] [] [x108x, x0x] (.mv (.t x0x)) false [] [] []), (.mk (some x111x) (some (.mk x108x true)) true [] false [false, false, true, true, true, 
  true] [] [x108x, x12x] (.mv (.t x12x)) false [] [] []), (.mk (some x112x) (some (.mk x108x true)) true [] false [true, true, false, true, true, true, true] [] [x108x, x110x, 
  x111x] (.ixs 1 (.t x110x) (.t x111x)) false [] [] []), (.mk (some x113x) (some (.mk x108x true)) false [] false [true, true, true, false, true, true, true, true] [] [x108x, 
  x112x] (.ld 1 false (.t x112x)) false [] [] []), (.mk (some x114x) (some (.mk x108x true)) true [] false [false, false, false, false, false, true, true, true, true] [] [x108x, 
  x0x] (.mv (.t x0x)) false [] [] []), (.mk (some x115x) (some (.mk x108x true)) true [] false [false, false, false, false, false, false, true, true, true, true] [] [x108x, x1x] 
  (.mv (.t x1x)) false [] [] []), (.mk (some x116x) (some (.mk x108x true)) true [] false [true, true, false, false, false, false, false, true, true, true, true] [] [x108x, x114x, 
  x115x] (.ixs 1 (.t x114x) (.t x115x)) false [] [] []), (.mk (some x117x) (some (.mk x108x true)) false [] false [true, true, true, false, false, false, false, false, true, true, 
  true, true] [] [x108x, x116x] (.ld 1 false (.t x116x)) false [] [] []), (.mk (some x118x) (some (.mk x108x true)) false [] true [true, true, true, true, true, true, true, true, 
  true, true, true, true, true] [] [x108x, x109x, x113x, x117x] (.callv (.t x109x) (.cons (.t x113x) (.cons (.t x117x) .nil))) false [] [] []), (.mk (some x119x) (some (.mk x108x 
  true)) true [] false [true, true, true, true, true, true, true, true, true, true, true, true, true, true] [] [x108x, x118x] (.bin .lss (.t x118x) (.c (.n 0))) false [] [] []), 
  (.mk (some x120x) none true [] false [true, true, true, true, true, true, true, true, true, true, true, true, true, true, true] [] [x108x, x119x] (.pick (.t x108x) (.t x119x) (.c 
  (.b false))) false [] [] [])]) (.cond (.t x120x) .skip (.exit 6))) (.block 7 (.reg (.cons (some x121x) none (.mv (.t x12x)) (.cons (some x122x) none (.bin .add (.t x121x) (.c (.n 
  1))) (.cons (some x12x) none (.mv (.t x122x)) .nil)))))))) (.seq (.block 8 (.loop (.seq (.seq (.draw [(.mk (some x123x) none true [] false [] [] [x12x] (.mv (.t x12x)) false [] 
  [] []), (.mk (some x124x) none true [] false [false] [] [x13x] (.mv (.t x13x)) false [] [] []), (.mk (some x125x) none true [] false [true, true] [] [x123x, x124x] (.bin .leq (.t 
  x123x) (.t x124x)) false [] [] []), (.mk (some x126x) none true [] false [true, true, true] [] [x125x] (.mv (.t x125x)) false [] [] []), (.mk (some x127x) (some (.mk x126x true)) 
  true [] false [true, true, true, true] [] [x126x, x4x] (.mv (.t x4x)) false [] [] []), (.mk (some x128x) (some (.mk x126x true)) true [] false [false, true, true, true, true] [] 
  [x126x, x0x] (.mv (.t x0x)) false [] [] []), (.mk (some x129x) (some (.mk x126x true)) true [] false [false, false, true, true, true, true] [] [x126x, x13x] (.mv (.t x13x)) false 
  [] [] []), (.mk (some x130x) (some (.mk x126x true)) true [] false [true, true, false, true, true, true, true] [] [x126x, x128x, x129x] (.ixs 1 (.t x128x) (.t x129x)) false [] [] 
  []), (.mk (some x131x) (some (.mk x126x true)) false [] false [true, true, true, false, true, true, true, true] [] [x126x, x130x] (.ld 1 false (.t x130x)) false [] [] []), (.mk 
  (some x132x) (some (.mk x126x true)) true [] false [false, false, false, false, false, true, true, true, true] [] [x126x, x0x] (.mv (.t x0x)) false [] [] []), (.mk (some x133x) 
  (some (.mk x126x true)) true [] false [false, false, false, false, false, false, true, true, true, true] [] [x126x, x1x] (.mv (.t x1x)) false [] [] []), (.mk (some x134x) (some 
  (.mk x126x true)) true [] false [true, true, false, false, false, false, false, true, true, true, true] [] [x126x, x132x, x133x] (.ixs 1 (.t x132x) (.t x133x)) false [] [] []), 
  (.mk (some x135x) (some (.mk x126x true)) false [] false [true, true, true, false, false, false, false, false, true, true, true, true] [] [x126x, x134x] (.ld 1 false (.t x134x)) 
  false [] [] []), (.mk (some x136x) (some (.mk x126x true)) false [] true [true, true, true, true, true, true, true, true, true, true, true, true, true] [] [x126x, x127x, x131x, 
  x135x] (.callv (.t x127x) (.cons (.t x131x) (.cons (.t x135x) .nil))) false [] [] []), (.mk (some x137x) (some (.mk x126x true)) true [] false [true, true, true, true, true, 
  true, true, true, true, true, true, true, true, true] [] [x126x, x136x] (.bin .lss (.t x136x) (.c (.n 0))) false [] [] []), (.mk (some x138x) (some (.mk x126x true)) true [] 
  false [true, true, true, true, true, true, true, true, true, true, true, true, true, true, true] [] [x126x, x137x] (.not (.t x137x)) false [] [] []), (.mk (some x139x) none true 
  [] false [true, true, true, true, true, true, true, true, true, true, true, true, true, true, true, true] [] [x126x, x138x] (.pick (.t x126x) (.t x138x) (.c (.b false))) false [] 
  [] [])]) (.cond (.t x139x) .skip (.exit 8))) (.block 9 (.reg (.cons (some x140x) none (.mv (.t x13x)) (.cons (some x141x) none (.bin .sub (.t x140x) (.c (.n 1))) (.cons (some 
  x13x) none (.mv (.t x141x)) .nil)))))))) (.seq (.seq (.reg (.cons (some x142x) none (.mv (.t x12x)) (.cons (some x143x) none (.mv (.t x13x)) (.cons (some x144x) none (.bin .gtr 
  (.t x142x) (.t x143x)) .nil)))) (.cond (.t x144x) (.exit 4) .skip)) (.seq (.draw [(.mk (some x145x) none true [] false [] [] [x0x] (.mv (.t x0x)) false [] [] []), (.mk (some 
  x146x) none true [] false [false] [] [x12x] (.mv (.t x12x)) false [] [] []), (.mk (some x147x) none true [] false [false, false] [x157x] [x0x] (.mv (.t x0x)) false [] [] []), 
  (.mk (some x148x) none true [] false [false, false, false] [x157x] [x13x] (.mv (.t x13x)) false [] [] []), (.mk (some x149x) none true [] false [false, false, false, false] [] 
  [x0x] (.mv (.t x0x)) false [] [] []), (.mk (some x150x) none true [] false [false, false, false, false, false] [] [x13x] (.mv (.t x13x)) false [] [] []), (.mk (some x151x) none 
  true [] false [true, true, false, false, false, false] [] [x149x, x150x] (.ixs 1 (.t x149x) (.t x150x)) false [] [] []), (.mk (some x152x) none false [] false [true, true, true, 
  false, false, false, false] [] [x151x] (.ld 1 false (.t x151x)) false [] [] []), (.mk (some x153x) none true [] false [false, false, false, false, false, false, false, false] [] 
  [x0x] (.mv (.t x0x)) false [] [] []), (.mk (some x154x) none true [] false [false, false, false, false, false, false, false, false, false] [] [x12x] (.mv (.t x12x)) false [] [] 
  []), (.mk (some x155x) none true [] false [true, true, false, false, false, false, false, false, false, false] [] [x153x, x154x] (.ixs 1 (.t x153x) (.t x154x)) false [] [] []), 
  (.mk (some x156x) none false [] false [true, true, true, false, false, false, false, false, false, false, false] [] [x155x] (.ld 1 false (.t x155x)) false [] [] []), (.mk (some 
  x157x) none true [] false [true, true, true, true, true, true, true, true, false, false, true, true] [] [x145x, x146x] (.ixs 1 (.t x145x) (.t x146x)) false [] [] []), (.mk none 
  none false [x157x] false [true, true, true, true, true, true, true, true, true, false, false, true, true] [] [x157x, x152x] (.st 1 (.t x157x) (.t x152x)) false [] [] []), (.mk 
  (some x158x) none true [] false [true, true, true, true, true, true, true, true, true, true, true, true, true, true] [] [x147x, x148x] (.ixs 1 (.t x147x) (.t x148x)) false [] [] 
  []), (.mk none none false [x158x] false [true, true, true, true, true, true, true, true, true, true, true, true, true, true, true] [] [x158x, x156x] (.st 1 (.t x158x) (.t x156x)) 
  false [] [] [])]) (.seq (.reg (.cons (some x159x) none (.mv (.t x12x)) (.cons (some x160x) none (.bin .add (.t x159x) (.c (.n 1))) (.cons (some x12x) none (.mv (.t x160x)) 
  .nil)))) (.reg (.cons (some x161x) none (.mv (.t x13x)) (.cons (some x162x) none (.bin .sub (.t x161x) (.c (.n 1))) (.cons (some x13x) none (.mv (.t x162x)) .nil)))))))))))) 
  (.seq (.draw [(.mk (some x163x) none true [] false [] [] [x0x] (.mv (.t x0x)) false [] [] []), (.mk (some x164x) none true [] false [false] [] [x13x] (.mv (.t x13x)) false [] [] 
  []), (.mk (some x165x) none true [] false [false, false] [x175x] [x0x] (.mv (.t x0x)) false [] [] []), (.mk (some x166x) none true [] false [false, false, false] [x175x] [x1x] 
  (.mv (.t x1x)) false [] [] []), (.mk (some x167x) none true [] false [false, false, false, false] [] [x0x] (.mv (.t x0x)) false [] [] []), (.mk (some x168x) none true [] false 
  [false, false, false, false, false] [] [x1x] (.mv (.t x1x)) false [] [] []), (.mk (some x169x) none true [] false [true, true, false, false, false, false] [] [x167x, x168x] (.ixs 
  1 (.t x167x) (.t x168x)) false [] [] []), (.mk (some x170x) none false [] false [true, true, true, false, false, false, false] [] [x169x] (.ld 1 false (.t x169x)) false [] [] 
  []), (.mk (some x171x) none true [] false [false, false, false, false, false, false, false, false] [] [x0x] (.mv (.t x0x)) false [] [] []), (.mk (some x172x) none true [] false 
  [false, false, false, false, false, false, false, false, false] [] [x13x] (.mv (.t x13x)) false [] [] []), (.mk (some x173x) none true [] false [true, true, false, false, false, 
  false, false, false, false, false] [] [x171x, x172x] (.ixs 1 (.t x171x) (.t x172x)) false [] [] []), (.mk (some x174x) none false [] false [true, true, true, false, false, false, 
  false, false, false, false, false] [] [x173x] (.ld 1 false (.t x173x)) false [] [] []), (.mk (some x175x) none true [] false [true, true, true, true, true, true, true, true, 
  false, false, true, true] [] [x163x, x164x] (.ixs 1 (.t x163x) (.t x164x)) false [] [] []), (.mk none none false [x175x] false [true, true, true, true, true, true, true, true, 
  true, false, false, true, true] [] [x175x, x170x] (.st 1 (.t x175x) (.t x170x)) false [] [] []), (.mk (some x176x) none true [] false [true, true, true, true, true, true, true, 
  true, true, true, true, true, true, true] [] [x165x, x166x] (.ixs 1 (.t x165x) (.t x166x)) false [] [] []), (.mk none none false [x176x] false [true, true, true, true, true, 
  true, true, true, true, true, true, true, true, true, true] [] [x176x, x174x] (.st 1 (.t x176x) (.t x174x)) false [] [] [])]) (.seq (.reg (.cons (some x177x) none (.mv (.t x13x)) 
  (.cons (some x10x) none (.mv (.t x177x)) (.cons (some x11x) none (.mv (.c (.b false))) .nil)))) .ret)))))))))))) [(.tmp x10x), (.tmp x11x)])
theorem cc99 : compF Tryd.prog drops false false Tryd.f99 = some i99 := by kernel_rfl
noncomputable def i100 : FnI := (.mk false false (.seq (.reg (.cons (some x12x) none (.mv (.t x1x)) (.cons (some x10x) none (.mv (.t x12x)) .nil))) (.block 0 (.loop (.block 1 (.seq (.reg (.cons (some x13x) none 
  (.mv (.t x10x)) (.cons (some x14x) none (.bin .mul (.c (.n 2)) (.t x13x)) (.cons (some x15x) none (.bin .add (.t x14x) (.c (.n 1))) (.cons (some x11x) none (.mv (.t x15x)) 
  .nil))))) (.seq (.seq (.reg (.cons (some x16x) none (.mv (.t x11x)) (.cons (some x17x) none (.mv (.t x2x)) (.cons (some x18x) none (.bin .geq (.t x16x) (.t x17x)) .nil)))) (.cond 
  (.t x18x) (.exit 0) .skip)) (.seq (.seq (.draw [(.mk (some x19x) none true [] false [] [] [x11x] (.mv (.t x11x)) false [] [] []), (.mk (some x20x) none true [] false [true] [] 
  [x19x] (.bin .add (.t x19x) (.c (.n 1))) false [] [] []), (.mk (some x21x) none true [] false [false, false] [] [x2x] (.mv (.t x2x)) false [] [] []), (.mk (some x22x) none true 
  [] false [true, true, true] [] [x20x, x21x] (.bin .lss (.t x20x) (.t x21x)) false [] [] []), (.mk (some x23x) none true [] false [true, true, true, true] [] [x22x] (.mv (.t 
  x22x)) false [] [] []), (.mk (some x24x) (some (.mk x23x true)) true [] false [true, true, true, true, true] [] [x23x, x4x] (.mv (.t x4x)) false [] [] []), (.mk (some x25x) (some 
  (.mk x23x true)) true [] false [false, true, true, true, true, true] [] [x23x, x0x] (.mv (.t x0x)) false [] [] []), (.mk (some x26x) (some (.mk x23x true)) true [] false [false, 
  false, true, true, true, true, true] [] [x23x, x3x] (.mv (.t x3x)) false [] [] []), (.mk (some x27x) (some (.mk x23x true)) true [] false [false, false, false, true, true, true, 
  true, true] [] [x23x, x11x] (.mv (.t x11x)) false [] [] []), (.mk (some x28x) (some (.mk x23x true)) true [] false [true, true, false, false, true, true, true, true, true] [] 
  [x23x, x26x, x27x] (.bin .add (.t x26x) (.t x27x)) false [] [] []), (.mk (some x29x) (some (.mk x23x true)) true [] false [true, true, true, true, false, true, true, true, true, 
  true] [] [x23x, x25x, x28x] (.ixs 1 (.t x25x) (.t x28x)) false [] [] []), (.mk (some x30x) (some (.mk x23x true)) false [] false [true, true, true, true, true, false, true, true, 
  true, true, true] [] [x23x, x29x] (.ld 1 false (.t x29x)) false [] [] []), (.mk (some x31x) (some (.mk x23x true)) true [] false [false, false, false, false, false, false, false, 
  true, true, true, true, true] [] [x23x, x0x] (.mv (.t x0x)) false [] [] []), (.mk (some x32x) (some (.mk x23x true)) true [] false [false, false, false, false, false, false, 
  false, false, true, true, true, true, true] [] [x23x, x3x] (.mv (.t x3x)) false [] [] []), (.mk (some x33x) (some (.mk x23x true)) true [] false [false, false, false, false, 
  false, false, false, false, false, true, true, true, true, true] [] [x23x, x11x] (.mv (.t x11x)) false [] [] []), (.mk (some x34x) (some (.mk x23x true)) true [] false [true, 
  true, false, false, false, false, false, false, false, false, true, true, true, true, true] [] [x23x, x32x, x33x] (.bin .add (.t x32x) (.t x33x)) false [] [] []), (.mk (some 
  x35x) (some (.mk x23x true)) true [] false [true, true, true, false, false, false, false, false, false, false, false, true, true, true, true, true] [] [x23x, x34x] (.bin .add (.t 
  x34x) (.c (.n 1))) false [] [] []), (.mk (some x36x) (some (.mk x23x true)) true [] false [true, true, true, true, true, false, false, false, false, false, false, false, true, 
  true, true, true, true] [] [x23x, x31x, x35x] (.ixs 1 (.t x31x) (.t x35x)) false [] [] []), (.mk (some x37x) (some (.mk x23x true)) false [] false [true, true, true, true, true, 
  true, false, false, false, false, false, false, false, true, true, true, true, true] [] [x23x, x36x] (.ld 1 false (.t x36x)) false [] [] []), (.mk (some x38x) (some (.mk x23x 
  true)) false [] true [true, true, true, true, true, true, true, true, true, true, true, true, true, true, true, true, true, true, true] [] [x23x, x24x, x30x, x37x] (.callv (.t 
  x24x) (.cons (.t x30x) (.cons (.t x37x) .nil))) false [] [] []), (.mk (some x39x) (some (.mk x23x true)) true [] false [true, true, true, true, true, true, true, true, true, 
  true, true, true, true, true, true, true, true, true, true, true] [] [x23x, x38x] (.bin .lss (.t x38x) (.c (.n 0))) false [] [] []), (.mk (some x40x) none true [] false [true, 
  true, true, true, true, true, true, true, true, true, true, true, true, true, true, true, true, true, true, true, true] [] [x23x, x39x] (.pick (.t x23x) (.t x39x) (.c (.b 
  false))) false [] [] [])]) (.cond (.t x40x) (.reg (.cons (some x41x) none (.mv (.t x11x)) (.cons (some x42x) none (.bin .add (.t x41x) (.c (.n 1))) (.cons (some x11x) none (.mv 
  (.t x42x)) .nil)))) .skip)) (.seq (.seq (.draw [(.mk (some x43x) none true [] false [] [] [x4x] (.mv (.t x4x)) false [] [] []), (.mk (some x44x) none true [] false [false] [] 
  [x0x] (.mv (.t x0x)) false [] [] []), (.mk (some x45x) none true [] false [false, false] [] [x3x] (.mv (.t x3x)) false [] [] []), (.mk (some x46x) none true [] false [false, 
  false, false] [] [x10x] (.mv (.t x10x)) false [] [] []), (.mk (some x47x) none true [] false [true, true, false, false] [] [x45x, x46x] (.bin .add (.t x45x) (.t x46x)) false [] 
  [] []), (.mk (some x48x) none true [] false [true, true, true, true, false] [] [x44x, x47x] (.ixs 1 (.t x44x) (.t x47x)) false [] [] []), (.mk (some x49x) none false [] false 
  [true, true, true, true, true, false] [] [x48x] (.ld 1 false (.t x48x)) false [] [] []), (.mk (some x50x) none true [] false [false, false, false, false, false, false, false] [] 
  [x0x] (.mv (.t x0x)) false [] [] []), (.mk (some x51x) none true [] false [false, false, false, false, false, false, false, false] [] [x3x] (.mv (.t x3x)) false [] [] []), (.mk 
  (some x52x) none true [] false [false, false, false, false, false, false, false, false, false] [] [x11x] (.mv (.t x11x)) false [] [] []), (.mk (some x53x) none true [] false 
  [true, true, false, false, false, false, false, false, false, false] [] [x51x, x52x] (.bin .add (.t x51x) (.t x52x)) false [] [] []), (.mk (some x54x) none true [] false [true, 
  true, true, true, false, false, false, false, false, false, false] [] [x50x, x53x] (.ixs 1 (.t x50x) (.t x53x)) false [] [] []), (.mk (some x55x) none false [] false [true, true, 
  true, true, true, false, false, false, false, false, false, false] [] [x54x] (.ld 1 false (.t x54x)) false [] [] []), (.mk (some x56x) none false [] true [true, true, true, true, 
  true, true, true, true, true, true, true, true, true] [] [x43x, x49x, x55x] (.callv (.t x43x) (.cons (.t x49x) (.cons (.t x55x) .nil))) false [] [] []), (.mk (some x57x) none 
  true [] false [true, true, true, true, true, true, true, true, true, true, true, true, true, true] [] [x56x] (.bin .lss (.t x56x) (.c (.n 0))) false [] [] []), (.mk (some x58x) 
  none true [] false [true, true, true, true, true, true, true, true, true, true, true, true, true, true, true] [] [x57x] (.not (.t x57x)) false [] [] [])]) (.cond (.t x58x) .ret 
  .skip)) (.seq (.draw [(.mk (some x59x) none true [] false [] [] [x0x] (.mv (.t x0x)) false [] [] []), (.mk (some x60x) none true [] false [false] [] [x3x] (.mv (.t x3x)) false [] 
  [] []), (.mk (some x61x) none true [] false [false, false] [] [x10x] (.mv (.t x10x)) false [] [] []), (.mk (some x62x) none true [] false [true, true, false] [] [x60x, x61x] 
  (.bin .add (.t x60x) (.t x61x)) false [] [] []), (.mk (some x63x) none true [] false [false, false, false, false] [x79x] [x0x] (.mv (.t x0x)) false [] [] []), (.mk (some x64x) 
  none true [] false [false, false, false, false, false] [x79x] [x3x] (.mv (.t x3x)) false [] [] []), (.mk (some x65x) none true [] false [false, false, false, false, false, false] 
  [x79x] [x11x] (.mv (.t x11x)) false [] [] []), (.mk (some x66x) none true [] false [true, true, false, false, false, false, false] [x79x] [x64x, x65x] (.bin .add (.t x64x) (.t 
  x65x)) false [] [] []), (.mk (some x67x) none true [] false [false, false, false, false, false, false, false, false] [] [x0x] (.mv (.t x0x)) false [] [] []), (.mk (some x68x) 
  none true [] false [false, false, false, false, false, false, false, false, false] [] [x3x] (.mv (.t x3x)) false [] [] []), (.mk (some x69x) none true [] false [false, false, 
  false, false, false, false, false, false, false, false] [] [x11x] (.mv (.t x11x)) false [] [] []), (.mk (some x70x) none true [] false [true, true, false, false, false, false, 
  false, false, false, false, false] [] [x68x, x69x] (.bin .add (.t x68x) (.t x69x)) false [] [] []), (.mk (some x71x) none true [] false [true, true, true, true, false, false, 
  false, false, false, false, false, false] [] [x67x, x70x] (.ixs 1 (.t x67x) (.t x70x)) false [] [] []), (.mk (some x72x) none false [] false [true, true, true, true, true, false, 
  false, false, false, false, false, false, false] [] [x71x] (.ld 1 false (.t x71x)) false [] [] []), (.mk (some x73x) none true [] false [false, false, false, false, false, false, 
  false, false, false, false, false, false, false, false] [] [x0x] (.mv (.t x0x)) false [] [] []), (.mk (some x74x) none true [] false [false, false, false, false, false, false, 
  false, false, false, false, false, false, false, false, false] [] [x3x] (.mv (.t x3x)) false [] [] []), (.mk (some x75x) none true [] false [false, false, false, false, false, 
  false, false, false, false, false, false, false, false, false, false, false] [] [x10x] (.mv (.t x10x)) false [] [] []), (.mk (some x76x) none true [] false [true, true, false, 
  false, false, false, false, false, false, false, false, false, false, false, false, false, false] [] [x74x, x75x] (.bin .add (.t x74x) (.t x75x)) false [] [] []), (.mk (some 
  x77x) none true [] false [true, true, true, true, false, false, false, false, false, false, false, false, false, false, false, false, false, false] [] [x73x, x76x] (.ixs 1 (.t 
  x73x) (.t x76x)) false [] [] []), (.mk (some x78x) none false [] false [true, true, true, true, true, false, false, false, false, false, false, false, false, false, false, false, 
  false, false, false] [] [x77x] (.ld 1 false (.t x77x)) false [] [] []), (.mk (some x79x) none true [] false [true, true, true, true, true, true, true, true, true, true, true, 
  true, false, false, false, false, true, true, true, true] [] [x59x, x62x] (.ixs 1 (.t x59x) (.t x62x)) false [] [] []), (.mk none none false [x79x] false [true, true, true, true, 
  true, true, true, true, true, true, true, true, true, false, false, false, false, true, true, true, true] [] [x79x, x72x] (.st 1 (.t x79x) (.t x72x)) false [] [] []), (.mk (some 
  x80x) none true [] false [true, true, true, true, true, true, true, true, true, true, true, true, true, true, true, true, true, true, true, true, true, true] [] [x63x, x66x] 
  (.ixs 1 (.t x63x) (.t x66x)) false [] [] []), (.mk none none false [x80x] false [true, true, true, true, true, true, true, true, true, true, true, true, true, true, true, true, 
  true, true, true, true, true, true, true] [] [x80x, x78x] (.st 1 (.t x80x) (.t x78x)) false [] [] [])]) (.reg (.cons (some x81x) none (.mv (.t x11x)) (.cons (some x10x) none (.mv 
  (.t x81x)) .nil)))))))))))) [])
theorem cc100 : compF Tryd.prog drops false false Tryd.f100 = some i100 := by kernel_rfl
noncomputable def i101 : FnI := (.mk true true (.seq (.reg (.cons (some x2x) none (.mv (.c (.i .u64 (.ofNat 0)))) .nil)) (.seq (.reg (.cons (some x3x) none (.mv (.t x0x)) (.cons (some x4x) none (.conv .u64 (.t 
  x3x)) (.cons (some x5x) none (.call 78 (.cons (.t x4x) .nil)) (.cons (some x6x) none (.bin .shl (.c (.i .u64 (.ofNat 1))) (.t x5x)) (.cons (some x2x) none (.mv (.t x6x)) 
  .nil)))))) .ret)) [(.tmp x2x)])
theorem cc101 : compF Tryd.prog drops true true Tryd.f101 = some i101 := by kernel_rfl
noncomputable def i102 : FnI := (.mk false false (.seq (.reg (.cons (some x2x) none (.mv (.c (.i .u64 (.ofNat 0)))) .nil)) (.seq (.draw [(.mk (some x3x) none true [] false [] [] [x0x] (.mv (.t x0x)) false [] [] 
  []), (.mk (some x4x) none true [] false [true] [] [x3x] (.nilck (.t x3x)) false [] [] []), (.mk (some x5x) none false [] false [true, true] [] [x4x] (.ld 1 false (.t x4x)) false 
  [] [] []), (.mk (some x6x) none true [] false [false, false, false] [] [x0x] (.mv (.t x0x)) false [] [] []), (.mk (some x7x) none true [] false [true, false, false, false] [] 
  [x6x] (.nilck (.t x6x)) false [] [] []), (.mk (some x8x) none false [] false [true, true, false, false, false] [] [x7x] (.ld 1 false (.t x7x)) false [] [] []), (.mk (some x9x) 
  none true [] false [true, true, true, false, false, false] [] [x8x] (.bin .shl (.t x8x) (.c (.i .u64 (.ofNat 13)))) false [] [] []), (.mk (some x10x) none true [] false [true, 
  true, true, true, true, true, true] [] [x5x, x9x] (.bin .xor (.t x5x) (.t x9x)) false [] [] []), (.mk (some x11x) none true [] false [true, true, true, true, true, true, true, 
  true] [] [x3x] (.nilck (.t x3x)) false [] [] []), (.mk none none false [x11x] false [true, true, true, true, true, true, true, true, true] [] [x11x, x10x] (.st 1 (.t x11x) (.t 
  x10x)) false [] [] [])]) (.seq (.draw [(.mk (some x12x) none true [] false [] [] [x0x] (.mv (.t x0x)) false [] [] []), (.mk (some x13x) none true [] false [true] [] [x12x] 
  (.nilck (.t x12x)) false [] [] []), (.mk (some x14x) none false [] false [true, true] [] [x13x] (.ld 1 false (.t x13x)) false [] [] []), (.mk (some x15x) none true [] false 
  [false, false, false] [] [x0x] (.mv (.t x0x)) false [] [] []), (.mk (some x16x) none true [] false [true, false, false, false] [] [x15x] (.nilck (.t x15x)) false [] [] []), (.mk 
  (some x17x) none false [] false [true, true, false, false, false] [] [x16x] (.ld 1 false (.t x16x)) false [] [] []), (.mk (some x18x) none true [] false [true, true, true, false, 
  false, false] [] [x17x] (.bin .shr (.t x17x) (.c (.i .u64 (.ofNat 7)))) false [] [] []), (.mk (some x19x) none true [] false [true, true, true, true, true, true, true] [] [x14x, 
  x18x] (.bin .xor (.t x14x) (.t x18x)) false [] [] []), (.mk (some x20x) none true [] false [true, true, true, true, true, true, true, true] [] [x12x] (.nilck (.t x12x)) false [] 
  [] []), (.mk none none false [x20x] false [true, true, true, true, true, true, true, true, true] [] [x20x, x19x] (.st 1 (.t x20x) (.t x19x)) false [] [] [])]) (.seq (.draw [(.mk 
  (some x21x) none true [] false [] [] [x0x] (.mv (.t x0x)) false [] [] []), (.mk (some x22x) none true [] false [true] [] [x21x] (.nilck (.t x21x)) false [] [] []), (.mk (some 
  x23x) none false [] false [true, true] [] [x22x] (.ld 1 false (.t x22x)) false [] [] []), (.mk (some x24x) none true [] false [false, false, false] [] [x0x] (.mv (.t x0x)) false 
  [] [] []), (.mk (some x25x) none true [] false [true, false, false, false] [] [x24x] (.nilck (.t x24x)) false [] [] []), (.mk (some x26x) none false [] false [true, true, false, 
  false, false] [] [x25x] (.ld 1 false (.t x25x)) false [] [] []), (.mk (some x27x) none true [] false [true, true, true, false, false, false] [] [x26x] (.bin .shl (.t x26x) (.c 
  (.i .u64 (.ofNat 17)))) false [] [] []), (.mk (some x28x) none true [] false [true, true, true, true, true, true, true] [] [x23x, x27x] (.bin .xor (.t x23x) (.t x27x)) false [] 
  [] []), (.mk (some x29x) none true [] false [true, true, true, true, true, true, true, true] [] [x21x] (.nilck (.t x21x)) false [] [] []), (.mk none none false [x29x] false 
  [true, true, true, true, true, true, true, true, true] [] [x29x, x28x] (.st 1 (.t x29x) (.t x28x)) false [] [] [])]) (.seq (.reg (.cons (some x30x) none (.mv (.t x0x)) (.cons 
  (some x31x) none (.nilck (.t x30x)) (.cons (some x32x) none (.ld 1 false (.t x31x)) (.cons (some x2x) none (.mv (.t x32x)) .nil))))) .ret))))) [(.tmp x2x)])
theorem cc102 : compF Tryd.prog drops false false Tryd.f102 = some i102 := by kernel_rfl
noncomputable def i103 : FnI := (.mk false false (.seq (.reg (.cons (some x8x) none (.mv (.c (.n 0))) .nil)) (.seq (.reg (.cons (some x9x) none (.mv (.t x0x)) (.cons (some x10x) none (.mv (.t x1x)) (.cons (some 
  x11x) none (.bin .sub (.t x10x) (.c (.n 1))) (.cons (some x12x) none (.mv (.t x1x)) (.cons (some x13x) none (.mv (.t x1x)) (.cons (some x14x) none (.bin .add (.t x13x) (.c (.n 
  1))) (.cons (some x15x) none (.mv (.t x2x)) (.cons (some x16x) none (.mv (.t x3x)) (.cons (some x17x) none (.call 104 (.cons (.t x9x) (.cons (.t x11x) (.cons (.t x12x) (.cons (.t 
  x14x) (.cons (.t x15x) (.cons (.t x16x) .nil))))))) (.cons (some x8x) none (.mv (.t x17x)) .nil))))))))))) .ret)) [(.tmp x8x)])
theorem cc103 : compF Tryd.prog drops false false Tryd.f103 = some i103 := by kernel_rfl
noncomputable def i104 : FnI := (.mk false false (.seq (.reg (.cons (some x12x) none (.mv (.c (.n 0))) .nil)) (.seq (.reg (.cons (some x14x) none (.mv (.t x0x)) (.cons (some x15x) none (.mv (.t x1x)) (.cons (some 
  x16x) none (.mv (.t x2x)) (.cons (some x17x) none (.mv (.t x4x)) (.cons (some x18x) none (.mv (.t x5x)) (.cons (some x19x) none (.call 105 (.cons (.t x14x) (.cons (.t x15x) 
  (.cons (.t x16x) (.cons (.t x17x) (.cons (.t x18x) .nil)))))) (.cons (some x13x) none (.mv (.t x19x)) (.cons (some x20x) none (.ext 0 (.t x13x)) (.cons (some x21x) none (.ext 1 
  (.t x13x)) (.cons (some x1x) none (.mv (.t x20x)) (.cons (some x2x) none (.mv (.t x21x)) .nil)))))))))))) (.seq (.reg (.cons (some x23x) none (.mv (.t x0x)) (.cons (some x24x) 
  none (.mv (.t x2x)) (.cons (some x25x) none (.mv (.t x3x)) (.cons (some x26x) none (.mv (.t x4x)) (.cons (some x27x) none (.mv (.t x5x)) (.cons (some x28x) none (.call 105 (.cons 
  (.t x23x) (.cons (.t x24x) (.cons (.t x25x) (.cons (.t x26x) (.cons (.t x27x) .nil)))))) (.cons (some x22x) none (.mv (.t x28x)) (.cons (some x29x) none (.ext 0 (.t x22x)) (.cons 
  (some x30x) none (.ext 1 (.t x22x)) (.cons (some x2x) none (.mv (.t x29x)) (.cons (some x3x) none (.mv (.t x30x)) .nil)))))))))))) (.seq (.reg (.cons (some x32x) none (.mv (.t 
  x0x)) (.cons (some x33x) none (.mv (.t x1x)) (.cons (some x34x) none (.mv (.t x2x)) (.cons (some x35x) none (.mv (.t x4x)) (.cons (some x36x) none (.mv (.t x5x)) (.cons (some 
  x37x) none (.call 105 (.cons (.t x32x) (.cons (.t x33x) (.cons (.t x34x) (.cons (.t x35x) (.cons (.t x36x) .nil)))))) (.cons (some x31x) none (.mv (.t x37x)) (.cons (some x38x) 
  none (.ext 0 (.t x31x)) (.cons (some x39x) none (.ext 1 (.t x31x)) (.cons (some x1x) none (.mv (.t x38x)) (.cons (some x2x) none (.mv (.t x39x)) .nil)))))))))))) (.seq (.reg 
  (.cons (some x40x) none (.mv (.t x2x)) (.cons (some x12x) none (.mv (.t x40x)) .nil))) .ret))))) [(.tmp x12x)])
theorem cc104 : compF Tryd.prog drops false false Tryd.f104 = some i104 := by kernel_rfl
noncomputable def i105 : FnI := (.mk false false (.seq (.reg (.cons (some x10x) none (.mv (.c (.n 0))) (.cons (some x11x) none (.mv (.c (.n 0))) .nil))) (.seq (.seq (.draw [(.mk (some x12x) none true [] false [] 
  [] [x4x] (.mv (.t x4x)) false [] [] []), (.mk (some x13x) none true [] false [false] [] [x0x] (.mv (.t x0x)) false [] [] []), (.mk (some x14x) none true [] false [false, false] 
  [] [x2x] (.mv (.t x2x)) false [] [] []), (.mk (some x15x) none true [] false [true, true, false] [] [x13x, x14x] (.ixs 1 (.t x13x) (.t x14x)) false [] [] []), (.mk (some x16x) 
  none false [] false [true, true, true, false] [] [x15x] (.ld 1 false (.t x15x)) false [] [] []), (.mk (some x17x) none true [] false [false, false, false, false, false] [] [x0x] 
  (.mv (.t x0x)) false [] [] []), (.mk (some x18x) none true [] false [false, false, false, false, false, false] [] [x1x] (.mv (.t x1x)) false [] [] []), (.mk (some x19x) none true 
  [] false [true, true, false, false, false, false, false] [] [x17x, x18x] (.ixs 1 (.t x17x) (.t x18x)) false [] [] []), (.mk (some x20x) none false [] false [true, true, true, 
  false, false, false, false, false] [] [x19x] (.ld 1 false (.t x19x)) false [] [] []), (.mk (some x21x) none false [] true [true, true, true, true, true, true, true, true, true] 
  [] [x12x, x16x, x20x] (.callv (.t x12x) (.cons (.t x16x) (.cons (.t x20x) .nil))) false [] [] []), (.mk (some x22x) none true [] false [true, true, true, true, true, true, true, 
  true, true, true] [] [x21x] (.bin .lss (.t x21x) (.c (.n 0))) false [] [] [])]) (.cond (.t x22x) (.seq (.reg (.cons (some x23x) none (.mv (.t x3x)) (.cons (some x24x) none 
  (.nilck (.t x23x)) (.cons (some x25x) none (.ld 1 false (.t x24x)) (.cons (some x26x) none (.bin .add (.t x25x) (.c (.n 1))) (.cons (some x27x) none (.nilck (.t x23x)) (.cons 
  none none (.st 1 (.t x27x) (.t x26x)) .nil))))))) (.seq (.reg (.cons (some x28x) none (.mv (.t x2x)) (.cons (some x29x) none (.mv (.t x1x)) (.cons (some x10x) none (.mv (.t 
  x28x)) (.cons (some x11x) none (.mv (.t x29x)) .nil))))) .ret)) .skip)) (.seq (.reg (.cons (some x30x) none (.mv (.t x1x)) (.cons (some x31x) none (.mv (.t x2x)) (.cons (some 
  x10x) none (.mv (.t x30x)) (.cons (some x11x) none (.mv (.t x31x)) .nil))))) .ret))) [(.tmp x10x), (.tmp x11x)])
theorem cc105 : compF Tryd.prog drops false false Tryd.f105 = some i105 := by kernel_rfl
noncomputable def fs105 : List (Nat × FnI) := (105, i105) :: []
theorem l105 : Listed Tryd.prog fs105 := listed_cons Tryd.func105 cc105 listed_nil (by decide)
noncomputable def fs104 : List (Nat × FnI) := (104, i104) :: fs105
theorem l104 : Listed Tryd.prog fs104 := listed_cons Tryd.func104 cc104 l105 (by decide)
noncomputable def fs103 : List (Nat × FnI) := (103, i103) :: fs104
theorem l103 : Listed Tryd.prog fs103 := listed_cons Tryd.func103 cc103 l104 (by decide)
noncomputable def fs102 : List (Nat × FnI) := (102, i102) :: fs103
theorem l102 : Listed Tryd.prog fs102 := listed_cons Tryd.func102 cc102 l103 (by decide)
noncomputable def fs101 : List (Nat × FnI) := (101, i101) :: fs102
theorem l101 : Listed Tryd.prog fs101 := listed_cons Tryd.func101 cc101 l102 (by decide)
noncomputable def fs100 : List (Nat × FnI) := (100, i100) :: fs101
theorem l100 : Listed Tryd.prog fs100 := listed_cons Tryd.func100 cc100 l101 (by decide)
noncomputable def fs99 : List (Nat × FnI) := (99, i99) :: fs100
theorem l99 : Listed Tryd.prog fs99 := listed_cons Tryd.func99 cc99 l100 (by decide)
noncomputable def fs98 : List (Nat × FnI) := (98, i98) :: fs99
theorem l98 : Listed Tryd.prog fs98 := listed_cons Tryd.func98 cc98 l99 (by decide)
noncomputable def fs97 : List (Nat × FnI) := (97, i97) :: fs98
theorem l97 : Listed Tryd.prog fs97 := listed_cons Tryd.func97 cc97 l98 (by decide)
noncomputable def fs96 : List (Nat × FnI) := (96, i96) :: fs97
theorem l96 : Listed Tryd.prog fs96 := listed_cons Tryd.func96 cc96 l97 (by decide)
noncomputable def fs95 : List (Nat × FnI) := (95, i95) :: fs96
theorem l95 : Listed Tryd.prog fs95 := listed_cons Tryd.func95 cc95 l96 (by decide)
noncomputable def fs94 : List (Nat × FnI) := (94, i94) :: fs95
theorem l94 : Listed Tryd.prog fs94 := listed_cons Tryd.func94 cc94 l95 (by decide)
noncomputable def fs93 : List (Nat × FnI) := (93, i93) :: fs94
theorem l93 : Listed Tryd.prog fs93 := listed_cons Tryd.func93 cc93 l94 (by decide)
noncomputable def fs92 : List (Nat × FnI) := (92, i92) :: fs93
theorem l92 : Listed Tryd.prog fs92 := listed_cons Tryd.func92 cc92 l93 (by decide)
noncomputable def fs91 : List (Nat × FnI) := (91, i91) :: fs92
theorem l91 : Listed Tryd.prog fs91 := listed_cons Tryd.func91 cc91 l92 (by decide)
noncomputable def fs90 : List (Nat × FnI) := (90, i90) :: fs91
theorem l90 : Listed Tryd.prog fs90 := listed_cons Tryd.func90 cc90 l91 (by decide)
noncomputable def fs89 : List (Nat × FnI) := (89, i89) :: fs90
theorem l89 : Listed Tryd.prog fs89 := listed_cons Tryd.func89 cc89 l90 (by decide)
noncomputable def fs87 : List (Nat × FnI) := (87, i87) :: fs89
theorem l87 : Listed Tryd.prog fs87 := listed_cons Tryd.func87 cc87 l89 (by decide)
noncomputable def fs85 : List (Nat × FnI) := (85, i85) :: fs87
theorem l85 : Listed Tryd.prog fs85 := listed_cons Tryd.func85 cc85 l87 (by decide)
noncomputable def fs84 : List (Nat × FnI) := (84, i84) :: fs85
theorem l84 : Listed Tryd.prog fs84 := listed_cons Tryd.func84 cc84 l85 (by decide)
noncomputable def fs83 : List (Nat × FnI) := (83, i83) :: fs84
theorem l83 : Listed Tryd.prog fs83 := listed_cons Tryd.func83 cc83 l84 (by decide)
noncomputable def fs82 : List (Nat × FnI) := (82, i82) :: fs83
theorem l82 : Listed Tryd.prog fs82 := listed_cons Tryd.func82 cc82 l83 (by decide)
noncomputable def fs81 : List (Nat × FnI) := (81, i81) :: fs82
theorem l81 : Listed Tryd.prog fs81 := listed_cons Tryd.func81 cc81 l82 (by decide)
noncomputable def fs80 : List (Nat × FnI) := (80, i80) :: fs81
theorem l80 : Listed Tryd.prog fs80 := listed_cons Tryd.func80 cc80 l81 (by decide)
noncomputable def fs79 : List (Nat × FnI) := (79, i79) :: fs80
theorem l79 : Listed Tryd.prog fs79 := listed_cons Tryd.func79 cc79 l80 (by decide)
noncomputable def fs78 : List (Nat × FnI) := (78, i78) :: fs79
theorem l78 : Listed Tryd.prog fs78 := listed_cons Tryd.func78 cc78 l79 (by decide)
noncomputable def fs77 : List (Nat × FnI) := (77, i77) :: fs78
theorem l77 : Listed Tryd.prog fs77 := listed_cons Tryd.func77 cc77 l78 (by decide)
noncomputable def fs76 : List (Nat × FnI) := (76, i76) :: fs77
theorem l76 : Listed Tryd.prog fs76 := listed_cons Tryd.func76 cc76 l77 (by decide)
noncomputable def fs75 : List (Nat × FnI) := (75, i75) :: fs76
theorem l75 : Listed Tryd.prog fs75 := listed_cons Tryd.func75 cc75 l76 (by decide)
noncomputable def fs74 : List (Nat × FnI) := (74, i74) :: fs75
theorem l74 : Listed Tryd.prog fs74 := listed_cons Tryd.func74 cc74 l75 (by decide)
noncomputable def fs73 : List (Nat × FnI) := (73, i73) :: fs74
theorem l73 : Listed Tryd.prog fs73 := listed_cons Tryd.func73 cc73 l74 (by decide)
noncomputable def fs72 : List (Nat × FnI) := (72, i72) :: fs73
theorem l72 : Listed Tryd.prog fs72 := listed_cons Tryd.func72 cc72 l73 (by decide)
noncomputable def fs71 : List (Nat × FnI) := (71, i71) :: fs72
theorem l71 : Listed Tryd.prog fs71 := listed_cons Tryd.func71 cc71 l72 (by decide)
noncomputable def fs70 : List (Nat × FnI) := (70, i70) :: fs71
theorem l70 : Listed Tryd.prog fs70 := listed_cons Tryd.func70 cc70 l71 (by decide)
noncomputable def fs69 : List (Nat × FnI) := (69, i69) :: fs70
theorem l69 : Listed Tryd.prog fs69 := listed_cons Tryd.func69 cc69 l70 (by decide)
noncomputable def fs68 : List (Nat × FnI) := (68, i68) :: fs69
theorem l68 : Listed Tryd.prog fs68 := listed_cons Tryd.func68 cc68 l69 (by decide)
noncomputable def fs67 : List (Nat × FnI) := (67, i67) :: fs68
theorem l67 : Listed Tryd.prog fs67 := listed_cons Tryd.func67 cc67 l68 (by decide)
noncomputable def fs66 : List (Nat × FnI) := (66, i66) :: fs67
theorem l66 : Listed Tryd.prog fs66 := listed_cons Tryd.func66 cc66 l67 (by decide)
noncomputable def fs65 : List (Nat × FnI) := (65, i65) :: fs66
theorem l65 : Listed Tryd.prog fs65 := listed_cons Tryd.func65 cc65 l66 (by decide)
noncomputable def fs64 : List (Nat × FnI) := (64, i64) :: fs65
theorem l64 : Listed Tryd.prog fs64 := listed_cons Tryd.func64 cc64 l65 (by decide)
noncomputable def fs63 : List (Nat × FnI) := (63, i63) :: fs64
theorem l63 : Listed Tryd.prog fs63 := listed_cons Tryd.func63 cc63 l64 (by decide)
noncomputable def fs62 : List (Nat × FnI) := (62, i62) :: fs63
theorem l62 : Listed Tryd.prog fs62 := listed_cons Tryd.func62 cc62 l63 (by decide)
noncomputable def fs61 : List (Nat × FnI) := (61, i61) :: fs62
theorem l61 : Listed Tryd.prog fs61 := listed_cons Tryd.func61 cc61 l62 (by decide)
noncomputable def fs60 : List (Nat × FnI) := (60, i60) :: fs61
theorem l60 : Listed Tryd.prog fs60 := listed_cons Tryd.func60 cc60 l61 (by decide)
noncomputable def fs59 : List (Nat × FnI) := (59, i59) :: fs60
theorem l59 : Listed Tryd.prog fs59 := listed_cons Tryd.func59 cc59 l60 (by decide)
noncomputable def fs58 : List (Nat × FnI) := (58, i58) :: fs59
theorem l58 : Listed Tryd.prog fs58 := listed_cons Tryd.func58 cc58 l59 (by decide)
noncomputable def fs57 : List (Nat × FnI) := (57, i57) :: fs58
theorem l57 : Listed Tryd.prog fs57 := listed_cons Tryd.func57 cc57 l58 (by decide)
noncomputable def fs56 : List (Nat × FnI) := (56, i56) :: fs57
theorem l56 : Listed Tryd.prog fs56 := listed_cons Tryd.func56 cc56 l57 (by decide)
noncomputable def fs55 : List (Nat × FnI) := (55, i55) :: fs56
theorem l55 : Listed Tryd.prog fs55 := listed_cons Tryd.func55 cc55 l56 (by decide)
noncomputable def fs54 : List (Nat × FnI) := (54, i54) :: fs55
theorem l54 : Listed Tryd.prog fs54 := listed_cons Tryd.func54 cc54 l55 (by decide)
noncomputable def fs53 : List (Nat × FnI) := (53, i53) :: fs54
theorem l53 : Listed Tryd.prog fs53 := listed_cons Tryd.func53 cc53 l54 (by decide)
noncomputable def fs52 : List (Nat × FnI) := (52, i52) :: fs53
theorem l52 : Listed Tryd.prog fs52 := listed_cons Tryd.func52 cc52 l53 (by decide)
noncomputable def fs51 : List (Nat × FnI) := (51, i51) :: fs52
theorem l51 : Listed Tryd.prog fs51 := listed_cons Tryd.func51 cc51 l52 (by decide)
noncomputable def fs50 : List (Nat × FnI) := (50, i50) :: fs51
theorem l50 : Listed Tryd.prog fs50 := listed_cons Tryd.func50 cc50 l51 (by decide)
noncomputable def fs49 : List (Nat × FnI) := (49, i49) :: fs50
theorem l49 : Listed Tryd.prog fs49 := listed_cons Tryd.func49 cc49 l50 (by decide)
noncomputable def fs48 : List (Nat × FnI) := (48, i48) :: fs49
theorem l48 : Listed Tryd.prog fs48 := listed_cons Tryd.func48 cc48 l49 (by decide)
noncomputable def fs47 : List (Nat × FnI) := (47, i47) :: fs48
theorem l47 : Listed Tryd.prog fs47 := listed_cons Tryd.func47 cc47 l48 (by decide)
noncomputable def fs46 : List (Nat × FnI) := (46, i46) :: fs47
theorem l46 : Listed Tryd.prog fs46 := listed_cons Tryd.func46 cc46 l47 (by decide)
noncomputable def fs45 : List (Nat × FnI) := (45, i45) :: fs46
theorem l45 : Listed Tryd.prog fs45 := listed_cons Tryd.func45 cc45 l46 (by decide)
noncomputable def fs44 : List (Nat × FnI) := (44, i44) :: fs45
theorem l44 : Listed Tryd.prog fs44 := listed_cons Tryd.func44 cc44 l45 (by decide)
noncomputable def fs43 : List (Nat × FnI) := (43, i43) :: fs44
theorem l43 : Listed Tryd.prog fs43 := listed_cons Tryd.func43 cc43 l44 (by decide)
noncomputable def fs42 : List (Nat × FnI) := (42, i42) :: fs43
theorem l42 : Listed Tryd.prog fs42 := listed_cons Tryd.func42 cc42 l43 (by decide)
noncomputable def fs41 : List (Nat × FnI) := (41, i41) :: fs42
theorem l41 : Listed Tryd.prog fs41 := listed_cons Tryd.func41 cc41 l42 (by decide)
noncomputable def fs40 : List (Nat × FnI) := (40, i40) :: fs41
theorem l40 : Listed Tryd.prog fs40 := listed_cons Tryd.func40 cc40 l41 (by decide)
noncomputable def fs39 : List (Nat × FnI) := (39, i39) :: fs40
theorem l39 : Listed Tryd.prog fs39 := listed_cons Tryd.func39 cc39 l40 (by decide)
noncomputable def fs38 : List (Nat × FnI) := (38, i38) :: fs39
theorem l38 : Listed Tryd.prog fs38 := listed_cons Tryd.func38 cc38 l39 (by decide)
noncomputable def fs37 : List (Nat × FnI) := (37, i37) :: fs38
theorem l37 : Listed Tryd.prog fs37 := listed_cons Tryd.func37 cc37 l38 (by decide)
noncomputable def fs36 : List (Nat × FnI) := (36, i36) :: fs37
theorem l36 : Listed Tryd.prog fs36 := listed_cons Tryd.func36 cc36 l37 (by decide)
noncomputable def fs35 : List (Nat × FnI) := (35, i35) :: fs36
theorem l35 : Listed Tryd.prog fs35 := listed_cons Tryd.func35 cc35 l36 (by decide)
noncomputable def fs34 : List (Nat × FnI) := (34, i34) :: fs35
theorem l34 : Listed Tryd.prog fs34 := listed_cons Tryd.func34 cc34 l35 (by decide)
noncomputable def fs33 : List (Nat × FnI) := (33, i33) :: fs34
theorem l33 : Listed Tryd.prog fs33 := listed_cons Tryd.func33 cc33 l34 (by decide)
noncomputable def fs32 : List (Nat × FnI) := (32, i32) :: fs33
theorem l32 : Listed Tryd.prog fs32 := listed_cons Tryd.func32 cc32 l33 (by decide)
noncomputable def fs31 : List (Nat × FnI) := (31, i31) :: fs32
theorem l31 : Listed Tryd.prog fs31 := listed_cons Tryd.func31 cc31 l32 (by decide)
noncomputable def fs30 : List (Nat × FnI) := (30, i30) :: fs31
theorem l30 : Listed Tryd.prog fs30 := listed_cons Tryd.func30 cc30 l31 (by decide)
noncomputable def fs29 : List (Nat × FnI) := (29, i29) :: fs30
theorem l29 : Listed Tryd.prog fs29 := listed_cons Tryd.func29 cc29 l30 (by decide)
noncomputable def fs28 : List (Nat × FnI) := (28, i28) :: fs29
theorem l28 : Listed Tryd.prog fs28 := listed_cons Tryd.func28 cc28 l29 (by decide)
noncomputable def fs27 : List (Nat × FnI) := (27, i27) :: fs28
theorem l27 : Listed Tryd.prog fs27 := listed_cons Tryd.func27 cc27 l28 (by decide)
noncomputable def fs26 : List (Nat × FnI) := (26, i26) :: fs27
theorem l26 : Listed Tryd.prog fs26 := listed_cons Tryd.func26 cc26 l27 (by decide)
noncomputable def fs25 : List (Nat × FnI) := (25, i25) :: fs26
theorem l25 : Listed Tryd.prog fs25 := listed_cons Tryd.func25 cc25 l26 (by decide)
noncomputable def fs24 : List (Nat × FnI) := (24, i24) :: fs25
theorem l24 : Listed Tryd.prog fs24 := listed_cons Tryd.func24 cc24 l25 (by decide)
noncomputable def fs23 : List (Nat × FnI) := (23, i23) :: fs24
theorem l23 : Listed Tryd.prog fs23 := listed_cons Tryd.func23 cc23 l24 (by decide)
noncomputable def fs22 : List (Nat × FnI) := (22, i22) :: fs23
theorem l22 : Listed Tryd.prog fs22 := listed_cons Tryd.func22 cc22 l23 (by decide)
noncomputable def fs21 : List (Nat × FnI) := (21, i21) :: fs22
theorem l21 : Listed Tryd.prog fs21 := listed_cons Tryd.func21 cc21 l22 (by decide)
noncomputable def fs20 : List (Nat × FnI) := (20, i20) :: fs21
theorem l20 : Listed Tryd.prog fs20 := listed_cons Tryd.func20 cc20 l21 (by decide)
noncomputable def fs19 : List (Nat × FnI) := (19, i19) :: fs20
theorem l19 : Listed Tryd.prog fs19 := listed_cons Tryd.func19 cc19 l20 (by decide)
noncomputable def fs18 : List (Nat × FnI) := (18, i18) :: fs19
theorem l18 : Listed Tryd.prog fs18 := listed_cons Tryd.func18 cc18 l19 (by decide)
noncomputable def fs17 : List (Nat × FnI) := (17, i17) :: fs18
theorem l17 : Listed Tryd.prog fs17 := listed_cons Tryd.func17 cc17 l18 (by decide)
noncomputable def fs16 : List (Nat × FnI) := (16, i16) :: fs17
theorem l16 : Listed Tryd.prog fs16 := listed_cons Tryd.func16 cc16 l17 (by decide)
noncomputable def fs15 : List (Nat × FnI) := (15, i15) :: fs16
theorem l15 : Listed Tryd.prog fs15 := listed_cons Tryd.func15 cc15 l16 (by decide)
noncomputable def fs14 : List (Nat × FnI) := (14, i14) :: fs15
theorem l14 : Listed Tryd.prog fs14 := listed_cons Tryd.func14 cc14 l15 (by decide)
noncomputable def fs13 : List (Nat × FnI) := (13, i13) :: fs14
theorem l13 : Listed Tryd.prog fs13 := listed_cons Tryd.func13 cc13 l14 (by decide)
noncomputable def fs12 : List (Nat × FnI) := (12, i12) :: fs13
theorem l12 : Listed Tryd.prog fs12 := listed_cons Tryd.func12 cc12 l13 (by decide)
noncomputable def fs11 : List (Nat × FnI) := (11, i11) :: fs12
theorem l11 : Listed Tryd.prog fs11 := listed_cons Tryd.func11 cc11 l12 (by decide)
noncomputable def fs10 : List (Nat × FnI) := (10, i10) :: fs11
theorem l10 : Listed Tryd.prog fs10 := listed_cons Tryd.func10 cc10 l11 (by decide)
noncomputable def fs9 : List (Nat × FnI) := (9, i9) :: fs10
theorem l9 : Listed Tryd.prog fs9 := listed_cons Tryd.func9 cc9 l10 (by decide)
noncomputable def fs8 : List (Nat × FnI) := (8, i8) :: fs9
theorem l8 : Listed Tryd.prog fs8 := listed_cons Tryd.func8 cc8 l9 (by decide)
noncomputable def fs7 : List (Nat × FnI) := (7, i7) :: fs8
theorem l7 : Listed Tryd.prog fs7 := listed_cons Tryd.func7 cc7 l8 (by decide)
noncomputable def FS : List (Nat × FnI) := fs7
theorem listed : Listed Tryd.prog FS := l7
noncomputable def cmp : Nat → Code → Option IC := fun N c => compC Tryd.prog drops N c
noncomputable def PRT : FT := FT.of FS
noncomputable def EQ (W : FF → FF) (d : Nat) : FF := evQ cmp PRT W d
noncomputable def EF (d : Nat) : FF := EQ (fun G => G) d
theorem follows : Tryd.prog.follows .mixedOrders = true := by kernel_rfl
theorem EQ_ok {W : FF → FF} (hM : ∀ G, FF.mono G → (W G).mono) (hW : ∀ G, FOK Tryd.prog G → FOK Tryd.prog (W G)) (d : Nat) : FOK Tryd.prog (EQ W d) := evQ_sound follows listed hM hW d
theorem EQ_mono {W : FF → FF} (hM : ∀ G, FF.mono G → (W G).mono) (d : Nat) : (EQ W d).mono := evQ_mono _ _ hM d
theorem EF_ok (d : Nat) : FOK Tryd.prog (EF d) := EQ_ok (fun _ h => h) (fun _ h => h) d
theorem EF_mono (d : Nat) : (EF d).mono := EQ_mono (fun _ h => h) d
def zs64 : List Int := [0, 1, 56, 2, 57, 49, 28, 3, 61, 58, 42, 50, 38, 29, 17, 4, 62, 47, 59, 36, 45, 43, 51, 22, 53, 39, 33, 30, 24, 18, 12, 5, 63, 55, 48, 27, 60, 41, 37, 16, 46, 35, 44, 21, 52, 32, 23, 11, 54, 26, 40, 15, 34, 20, 31, 10, 25, 14, 19, 9, 13, 8, 7, 6]
noncomputable def tbH (el : TypeId) : Hp := tabH [(1, el, kL .u8 zs64)]
end Go.Proofs.YtnpimbpbhbfchaaDoor.Ev
