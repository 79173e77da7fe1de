/- The texts TzL. -/
import Derived.Test.YtnmbhgchffebmaaQ6
import Derived.Test.YtnmbhgchffebmaaQ7
import Derived.Test.YtnmbhgchffebmaaProg
import Derived.KernelRfl
/- The compiled code of the functions of layers 7 and 11, in full. -/
namespace Go.Proofs.Ytnmbhgchffebmaa.Ev
set_option linter.unusedVariables false
set_option maxRecDepth 100000
open Go Go.Proofs Go.RowKit
def drops : List Nat := [3, 4, 5, 6, 8, 10, 11, 12, 13, 15, 17, 18, 19, 20, 21, 27, 29, 30, 36, 37, 38, 39, 40, 41, 42, 44, 45, 46, 47, 48, 50, 51, 52, 53, 54, 55, 56, 58, 59, 61, 63, 64, 65, 67, 69, 70, 71, 77, 78, 79, 80, 81, 86, 89, 91, 95, 96, 97, 99, 100, 102, 103, 104, 106, 107, 109, 112, 115, 118, 126, 128, 131, 132, 139, 142, 143, 150, 1000076, 1000084, 1000085, 1000098, 1000105, 1000117, 1000127, 1000133, 1000134, 1000135, 1000137, 1000138, 1000140, 1000141, 1000145, 1000147, 1000148, 1000149, 2000000]
def x0x : Pos := .h
def x1x : Pos := (.o .h)
def x2x : Pos := (.i .h)
def x3x : Pos := (.o (.o .h))
def x4x : Pos := (.i (.o .h))
def x5x : Pos := (.o (.i .h))
def x6x : Pos := (.i (.i .h))
def x7x : Pos := (.o (.o (.o .h)))
def x8x : Pos := (.i (.o (.o .h)))
def x9x : Pos := (.o (.i (.o .h)))
def x10x : Pos := (.i (.i (.o .h)))
def x11x : Pos := (.o (.o (.i .h)))
def x12x : Pos := (.i (.o (.i .h)))
def x13x : Pos := (.o (.i (.i .h)))
def x14x : Pos := (.i (.i (.i .h)))
def x15x : Pos := (.o (.o (.o (.o .h))))
def x16x : Pos := (.i (.o (.o (.o .h))))
def x17x : Pos := (.o (.i (.o (.o .h))))
def x18x : Pos := (.i (.i (.o (.o .h))))
def x19x : Pos := (.o (.o (.i (.o .h))))
def x20x : Pos := (.i (.o (.i (.o .h))))
def x21x : Pos := (.o (.i (.i (.o .h))))
def x22x : Pos := (.i (.i (.i (.o .h))))
def x23x : Pos := (.o (.o (.o (.i .h))))
def x24x : Pos := (.i (.o (.o (.i .h))))
def x25x : Pos := (.o (.i (.o (.i .h))))
def x26x : Pos := (.i (.i (.o (.i .h))))
def x27x : Pos := (.o (.o (.i (.i .h))))
def x28x : Pos := (.i (.o (.i (.i .h))))
def x29x : Pos := (.o (.i (.i (.i .h))))
def x30x : Pos := (.i (.i (.i (.i .h))))
def x31x : Pos := (.o (.o (.o (.o (.o .h)))))
def x32x : Pos := (.i (.o (.o (.o (.o .h)))))
def x33x : Pos := (.o (.i (.o (.o (.o .h)))))
def x34x : Pos := (.i (.i (.o (.o (.o .h)))))
def x35x : Pos := (.o (.o (.i (.o (.o .h)))))
def x36x : Pos := (.i (.o (.i (.o (.o .h)))))
def x37x : Pos := (.o (.i (.i (.o (.o .h)))))
def x38x : Pos := (.i (.i (.i (.o (.o .h)))))
def x39x : Pos := (.o (.o (.o (.i (.o .h)))))
def x40x : Pos := (.i (.o (.o (.i (.o .h)))))
def x41x : Pos := (.o (.i (.o (.i (.o .h)))))
def x42x : Pos := (.i (.i (.o (.i (.o .h)))))
def x43x : Pos := (.o (.o (.i (.i (.o .h)))))
def x44x : Pos := (.i (.o (.i (.i (.o .h)))))
def x45x : Pos := (.o (.i (.i (.i (.o .h)))))
def x46x : Pos := (.i (.i (.i (.i (.o .h)))))
def x47x : Pos := (.o (.o (.o (.o (.i .h)))))
def x48x : Pos := (.i (.o (.o (.o (.i .h)))))
def x49x : Pos := (.o (.i (.o (.o (.i .h)))))
def x50x : Pos := (.i (.i (.o (.o (.i .h)))))
def x51x : Pos := (.o (.o (.i (.o (.i .h)))))
def x52x : Pos := (.i (.o (.i (.o (.i .h)))))
def x53x : Pos := (.o (.i (.i (.o (.i .h)))))
def x54x : Pos := (.i (.i (.i (.o (.i .h)))))
def x55x : Pos := (.o (.o (.o (.i (.i .h)))))
def x56x : Pos := (.i (.o (.o (.i (.i .h)))))
def x57x : Pos := (.o (.i (.o (.i (.i .h)))))
def x58x : Pos := (.i (.i (.o (.i (.i .h)))))
def x59x : Pos := (.o (.o (.i (.i (.i .h)))))
def x60x : Pos := (.i (.o (.i (.i (.i .h)))))
def x61x : Pos := (.o (.i (.i (.i (.i .h)))))
def x62x : Pos := (.i (.i (.i (.i (.i .h)))))
def x63x : Pos := (.o (.o (.o (.o (.o (.o .h))))))
def x64x : Pos := (.i (.o (.o (.o (.o (.o .h))))))
def x65x : Pos := (.o (.i (.o (.o (.o (.o .h))))))
def x66x : Pos := (.i (.i (.o (.o (.o (.o .h))))))
def x67x : Pos := (.o (.o (.i (.o (.o (.o .h))))))
def x68x : Pos := (.i (.o (.i (.o (.o (.o .h))))))
def x69x : Pos := (.o (.i (.i (.o (.o (.o .h))))))
def x70x : Pos := (.i (.i (.i (.o (.o (.o .h))))))
def x71x : Pos := (.o (.o (.o (.i (.o (.o .h))))))
def x72x : Pos := (.i (.o (.o (.i (.o (.o .h))))))
def x73x : Pos := (.o (.i (.o (.i (.o (.o .h))))))
def x74x : Pos := (.i (.i (.o (.i (.o (.o .h))))))
def x75x : Pos := (.o (.o (.i (.i (.o (.o .h))))))
def x76x : Pos := (.i (.o (.i (.i (.o (.o .h))))))
def x77x : Pos := (.o (.i (.i (.i (.o (.o .h))))))
def x78x : Pos := (.i (.i (.i (.i (.o (.o .h))))))
def x79x : Pos := (.o (.o (.o (.o (.i (.o .h))))))
def x80x : Pos := (.i (.o (.o (.o (.i (.o .h))))))
def x81x : Pos := (.o (.i (.o (.o (.i (.o .h))))))
def x82x : Pos := (.i (.i (.o (.o (.i (.o .h))))))
def x83x : Pos := (.o (.o (.i (.o (.i (.o .h))))))
def x84x : Pos := (.i (.o (.i (.o (.i (.o .h))))))
def x85x : Pos := (.o (.i (.i (.o (.i (.o .h))))))
def x86x : Pos := (.i (.i (.i (.o (.i (.o .h))))))
def x87x : Pos := (.o (.o (.o (.i (.i (.o .h))))))
def x88x : Pos := (.i (.o (.o (.i (.i (.o .h))))))
def x89x : Pos := (.o (.i (.o (.i (.i (.o .h))))))
def x90x : Pos := (.i (.i (.o (.i (.i (.o .h))))))
def x91x : Pos := (.o (.o (.i (.i (.i (.o .h))))))
def x92x : Pos := (.i (.o (.i (.i (.i (.o .h))))))
def x93x : Pos := (.o (.i (.i (.i (.i (.o .h))))))
def x94x : Pos := (.i (.i (.i (.i (.i (.o .h))))))
def x95x : Pos := (.o (.o (.o (.o (.o (.i .h))))))
def x96x : Pos := (.i (.o (.o (.o (.o (.i .h))))))
def x97x : Pos := (.o (.i (.o (.o (.o (.i .h))))))
def x98x : Pos := (.i (.i (.o (.o (.o (.i .h))))))
def x99x : Pos := (.o (.o (.i (.o (.o (.i .h))))))
def x100x : Pos := (.i (.o (.i (.o (.o (.i .h))))))
def x101x : Pos := (.o (.i (.i (.o (.o (.i .h))))))
def x102x : Pos := (.i (.i (.i (.o (.o (.i .h))))))
def x103x : Pos := (.o (.o (.o (.i (.o (.i .h))))))
def x104x : Pos := (.i (.o (.o (.i (.o (.i .h))))))
def x105x : Pos := (.o (.i (.o (.i (.o (.i .h))))))
def x106x : Pos := (.i (.i (.o (.i (.o (.i .h))))))
def x107x : Pos := (.o (.o (.i (.i (.o (.i .h))))))
def x108x : Pos := (.i (.o (.i (.i (.o (.i .h))))))
def x109x : Pos := (.o (.i (.i (.i (.o (.i .h))))))
def x110x : Pos := (.i (.i (.i (.i (.o (.i .h))))))
def x111x : Pos := (.o (.o (.o (.o (.i (.i .h))))))
def x112x : Pos := (.i (.o (.o (.o (.i (.i .h))))))
def x113x : Pos := (.o (.i (.o (.o (.i (.i .h))))))
def x114x : Pos := (.i (.i (.o (.o (.i (.i .h))))))
def x115x : Pos := (.o (.o (.i (.o (.i (.i .h))))))
def x116x : Pos := (.i (.o (.i (.o (.i (.i .h))))))
def x117x : Pos := (.o (.i (.i (.o (.i (.i .h))))))
def x118x : Pos := (.i (.i (.i (.o (.i (.i .h))))))
def x119x : Pos := (.o (.o (.o (.i (.i (.i .h))))))
def x120x : Pos := (.i (.o (.o (.i (.i (.i .h))))))
def x121x : Pos := (.o (.i (.o (.i (.i (.i .h))))))
def x122x : Pos := (.i (.i (.o (.i (.i (.i .h))))))
def x123x : Pos := (.o (.o (.i (.i (.i (.i .h))))))
def x124x : Pos := (.i (.o (.i (.i (.i (.i .h))))))
def x125x : Pos := (.o (.i (.i (.i (.i (.i .h))))))
def x126x : Pos := (.i (.i (.i (.i (.i (.i .h))))))
def x127x : Pos := (.o (.o (.o (.o (.o (.o (.o .h)))))))
def x128x : Pos := (.i (.o (.o (.o (.o (.o (.o .h)))))))
def x129x : Pos := (.o (.i (.o (.o (.o (.o (.o .h)))))))
def x130x : Pos := (.i (.i (.o (.o (.o (.o (.o .h)))))))
def x131x : Pos := (.o (.o (.i (.o (.o (.o (.o .h)))))))
def x132x : Pos := (.i (.o (.i (.o (.o (.o (.o .h)))))))
def x133x : Pos := (.o (.i (.i (.o (.o (.o (.o .h)))))))
noncomputable def i4 : FnI := (compF Try.prog drops true true Try.f4).getD (.mk false false .skip [])
theorem cc4 : compF Try.prog drops true true Try.f4 = some i4 := by kernel_rfl
noncomputable def i5 : FnI := (compF Try.prog drops true true Try.f5).getD (.mk false false .skip [])
theorem cc5 : compF Try.prog drops true true Try.f5 = some i5 := by kernel_rfl
noncomputable def i6 : FnI := (compF Try.prog drops true true Try.f6).getD (.mk false false .skip [])
theorem cc6 : compF Try.prog drops true true Try.f6 = some i6 := by kernel_rfl
noncomputable def i7 : FnI := (.mk true false (.seq (.reg (.cons (some x4x) none (.mv (.c .ns)) .nil)) (.seq (.reg (.cons (some x11x) none (.bsl 9 1 1 (.cons (.s []) .nil) (.cons 0 1 (.c (.s [])) .nil)) (.cons 
  (some x5x) none (.mv (.t x11x)) .nil))) (.seq (.seq (.reg (.cons (some x12x) none (.mv (.t x1x)) (.cons (some x13x) none (.mv (.c (.n 0))) .nil))) (.block 0 (.loop (.seq (.reg 
  (.cons (some x14x) none (.bin .lss (.t x13x) (.t x12x)) .nil)) (.seq (.cond (.t x14x) .skip (.exit 0)) (.seq (.block 1 (.seq (.reg (.cons (some x6x) none (.mv (.c .ns)) .nil)) 
  (.seq (.seq (.reg (.cons (some x15x) none (.mv (.t x5x)) (.cons (some x16x) none (.len (.t x15x)) (.cons (some x17x) none (.mv (.c (.n 0))) .nil)))) (.block 2 (.loop (.seq (.reg 
  (.cons (some x18x) none (.bin .lss (.t x17x) (.t x16x)) .nil)) (.seq (.cond (.t x18x) .skip (.exit 2)) (.seq (.block 3 (.seq (.reg (.cons (some x19x) none (.ixs 1 (.t x15x) (.t 
  x17x)) (.cons (some x20x) none (.ld 1 false (.t x19x)) (.cons (some x8x) none (.mv (.t x20x)) .nil)))) (.seq (.reg (.cons (some x21x) none (.mv (.t x0x)) (.cons (some x22x) none 
  (.mv (.c (.n 0))) .nil))) (.block 4 (.loop (.seq (.reg (.cons (some x23x) none (.bin .lss (.t x22x) (.t x21x)) .nil)) (.seq (.cond (.t x23x) .skip (.exit 4)) (.seq (.block 5 
  (.seq (.reg (.cons (some x24x) none (.mv (.t x22x)) (.cons (some x9x) none (.mv (.t x24x)) .nil))) (.seq (.reg (.cons (some x25x) none (.mv (.t x8x)) (.cons (some x26x) none (.mv 
  (.t x9x)) (.cons (some x27x) none (.call 45 (.cons (.t x26x) .nil)) (.cons (some x28x) none (.sbi .add (.t x25x) (.t x27x)) (.cons (some x10x) none (.mv (.t x28x)) .nil)))))) 
  (.seq (.reg (.cons (some x29x) none (.mv (.t x10x)) (.cons (some x30x) none (.call 9 (.cons (.t x29x) .nil)) (.cons (some x31x) none (.len (.t x30x)) (.cons (some x32x) none 
  (.bin .eql (.t x31x) (.c (.n 0))) .nil))))) (.cond (.t x32x) (.reg (.cons (some x33x) none (.mv (.t x6x)) (.cons (some x34x) none (.mv (.t x10x)) (.cons (some x35x) none (.bsl 9 
  1 1 (.cons (.s []) .nil) (.cons 0 1 (.t x34x) .nil)) (.cons (some x36x) none (.app 9 1 16 (.t x33x) (.t x35x)) (.cons (some x6x) none (.mv (.t x36x)) .nil)))))) .skip))))) (.reg 
  (.cons (some x37x) none (.bin .add (.t x22x) (.c (.n 1))) (.cons (some x22x) none (.mv (.t x37x)) .nil))))))))))) (.reg (.cons (some x38x) none (.bin .add (.t x17x) (.c (.n 1))) 
  (.cons (some x17x) none (.mv (.t x38x)) .nil))))))))) (.reg (.cons (some x39x) none (.mv (.t x6x)) (.cons (some x5x) none (.mv (.t x39x)) .nil)))))) (.reg (.cons (some x40x) none 
  (.bin .add (.t x13x) (.c (.n 1))) (.cons (some x13x) none (.mv (.t x40x)) .nil))))))))) (.seq (.reg (.cons (some x41x) none (.mv (.t x5x)) (.cons (some x4x) none (.mv (.t x41x)) 
  .nil))) .ret)))) [(.tmp x4x)])
theorem cc7 : compF Try.prog drops true false Try.f7 = some i7 := by kernel_rfl
noncomputable def i8 : FnI := (compF Try.prog drops true true Try.f8).getD (.mk false false .skip [])
theorem cc8 : compF Try.prog drops true true Try.f8 = some i8 := by kernel_rfl
noncomputable def i9 : FnI := (.mk true false (.seq (.reg (.cons (some x2x) none (.mv (.c .ns)) .nil)) (.seq (.reg (.cons (some x3x) none (.mv (.c .ns)) .nil)) (.seq (.seq (.reg (.cons (some x4x) none (.mv (.c 
  (.n 1))) .nil)) (.block 0 (.loop (.seq (.seq (.reg (.cons (some x6x) none (.mv (.t x4x)) (.cons (some x7x) none (.bin .mul (.c (.n 2)) (.t x6x)) (.cons (some x8x) none (.mv (.t 
  x0x)) (.cons (some x9x) none (.slen (.t x8x)) (.cons (some x10x) none (.bin .leq (.t x7x) (.t x9x)) .nil)))))) (.cond (.t x10x) .skip (.exit 0))) (.seq (.block 1 (.seq (.reg 
  (.cons (some x5x) none (.mv (.c (.n 0))) .nil)) (.block 2 (.loop (.seq (.seq (.reg (.cons (some x13x) none (.mv (.t x5x)) (.cons (some x14x) none (.mv (.t x4x)) (.cons (some 
  x15x) none (.bin .mul (.c (.n 2)) (.t x14x)) (.cons (some x16x) none (.bin .add (.t x13x) (.t x15x)) (.cons (some x17x) none (.mv (.t x0x)) (.cons (some x18x) none (.slen (.t 
  x17x)) (.cons (some x19x) none (.bin .leq (.t x16x) (.t x18x)) .nil)))))))) (.cond (.t x19x) .skip (.exit 2))) (.seq (.block 3 (.seq (.draw [(.mk (some x22x) none true [] false 
  [] [] [x0x] (.mv (.t x0x)) false [] [] []), (.mk (some x23x) none true [] false [false] [] [x5x] (.mv (.t x5x)) false [] [] []), (.mk (some x24x) none true [] false [false, 
  false] [] [x5x] (.mv (.t x5x)) false [] [] []), (.mk (some x25x) none true [] false [false, false, false] [] [x4x] (.mv (.t x4x)) false [] [] []), (.mk (some x26x) none true [] 
  false [true, true, false, false] [] [x24x, x25x] (.bin .add (.t x24x) (.t x25x)) false [] [] []), (.mk (some x27x) none false [] false [true, true, true, true, true] [] [x22x, 
  x23x, x26x] (.ssl (.t x22x) (some (.t x23x)) (some (.t x26x))) false [] [] []), (.mk (some x28x) none true [] false [false, false, false, false, false, false] [] [x0x] (.mv (.t 
  x0x)) false [] [] []), (.mk (some x29x) none true [] false [false, false, false, false, false, false, false] [] [x5x] (.mv (.t x5x)) false [] [] []), (.mk (some x30x) none true 
  [] false [false, false, false, false, false, false, false, false] [] [x4x] (.mv (.t x4x)) false [] [] []), (.mk (some x31x) none true [] false [true, true, false, false, false, 
  false, false, false, false] [] [x29x, x30x] (.bin .add (.t x29x) (.t x30x)) false [] [] []), (.mk (some x32x) none true [] false [false, false, false, false, false, false, false, 
  false, false, false] [] [x5x] (.mv (.t x5x)) false [] [] []), (.mk (some x33x) none true [] false [false, false, false, false, false, false, false, false, false, false, false] [] 
  [x4x] (.mv (.t x4x)) false [] [] []), (.mk (some x34x) none true [] false [true, false, false, false, false, false, false, false, false, false, false, false] [] [x33x] (.bin .mul 
  (.c (.n 2)) (.t x33x)) false [] [] []), (.mk (some x35x) none true [] false [true, true, true, false, false, false, false, false, false, false, false, false, false] [] [x32x, 
  x34x] (.bin .add (.t x32x) (.t x34x)) false [] [] []), (.mk (some x36x) none false [] false [true, true, true, true, true, true, true, true, false, false, false, false, false, 
  false] [] [x28x, x31x, x35x] (.ssl (.t x28x) (some (.t x31x)) (some (.t x35x))) false [] [] []), (.mk (some x37x) none true [] false [true, true, true, true, true, true, true, 
  true, true, true, true, true, true, true, true] [] [x27x, x36x] (.sbi .eql (.t x27x) (.t x36x)) false [] [] [])]) (.cond (.t x37x) (.reg (.cons (some x38x) none (.mv (.t x3x)) 
  (.cons (some x39x) none (.mv (.t x5x)) (.cons (some x40x) none (.mv (.t x4x)) (.cons (some x41x) none (.build (.cons (.n 0) (.cons (.n 0) .nil)) (.cons 0 1 (.t x39x) (.cons 1 1 
  (.t x40x) .nil))) (.cons (some x42x) none (.bsl 65 2 1 (.cons (.n 0) (.cons (.n 0) .nil)) (.cons 0 2 (.t x41x) .nil)) (.cons (some x43x) none (.app 65 2 16 (.t x38x) (.t x42x)) 
  (.cons (some x3x) none (.mv (.t x43x)) .nil)))))))) .skip))) (.reg (.cons (some x20x) none (.mv (.t x5x)) (.cons (some x21x) none (.bin .add (.t x20x) (.c (.n 1))) (.cons (some 
  x5x) none (.mv (.t x21x)) .nil)))))))))) (.reg (.cons (some x11x) none (.mv (.t x4x)) (.cons (some x12x) none (.bin .add (.t x11x) (.c (.n 1))) (.cons (some x4x) none (.mv (.t 
  x12x)) .nil))))))))) (.seq (.reg (.cons (some x44x) none (.mv (.t x3x)) (.cons (some x2x) none (.mv (.t x44x)) .nil))) .ret)))) [(.tmp x2x)])
theorem cc9 : compF Try.prog drops true false Try.f9 = some i9 := by kernel_rfl
noncomputable def i10 : FnI := (compF Try.prog drops true true Try.f10).getD (.mk false false .skip [])
theorem cc10 : compF Try.prog drops true true Try.f10 = some i10 := by kernel_rfl
noncomputable def i11 : FnI := (.mk true true (.seq (.reg (.cons (some x2x) none (.mv (.c (.n 0))) (.cons (some x3x) none (.mv (.c (.n 0))) (.cons (some x4x) none (.mv (.c (.n 0))) .nil)))) (.seq (.seq (.reg 
  (.cons (some x6x) none (.mv (.t x0x)) (.cons (some x7x) none (.call 21 (.cons (.t x6x) .nil)) (.cons (some x5x) none (.mv (.t x7x)) .nil)))) (.seq (.reg (.cons (some x8x) none 
  (.mv (.t x5x)) (.cons (some x9x) none (.bin .neq (.t x8x) (.c (.n 0))) .nil))) (.cond (.t x9x) (.seq (.reg (.cons (some x10x) none (.mv (.t x5x)) (.cons (some x2x) none (.mv (.c 
  (.n 0))) (.cons (some x3x) none (.mv (.c (.n 0))) (.cons (some x4x) none (.mv (.t x10x)) .nil))))) .ret) .skip))) (.seq (.reg (.cons (some x12x) none (.mv (.t x0x)) (.cons (some 
  x13x) none (.call 48 (.cons (.t x12x) .nil)) (.cons (some x11x) none (.mv (.t x13x)) (.cons (some x14x) none (.ext 0 (.t x11x)) (.cons (some x15x) none (.ext 1 (.t x11x)) (.cons 
  (some x2x) none (.mv (.t x14x)) (.cons (some x3x) none (.mv (.t x15x)) .nil)))))))) (.seq (.seq (.reg (.cons (some x16x) none (.mv (.t x3x)) (.cons (some x17x) none (.bin .eql 
  (.t x16x) (.c (.n 0))) .nil))) (.cond (.t x17x) (.seq (.reg (.cons (some x2x) none (.mv (.c (.n 0))) (.cons (some x3x) none (.mv (.c (.n 0))) (.cons (some x4x) none (.mv (.c (.n 
  12))) .nil)))) .ret) .skip)) (.seq (.reg (.cons (some x18x) none (.mv (.t x2x)) (.cons (some x19x) none (.mv (.t x3x)) (.cons (some x2x) none (.mv (.t x18x)) (.cons (some x3x) 
  none (.mv (.t x19x)) (.cons (some x4x) none (.mv (.c (.n 0))) .nil)))))) .ret))))) [(.tmp x2x), (.tmp x3x), (.tmp x4x)])
theorem cc11 : compF Try.prog drops true true Try.f11 = some i11 := by kernel_rfl
noncomputable def i12 : FnI := (.mk true true (.seq (.reg (.cons (some x4x) none (.mv (.c (.s []))) (.cons (some x5x) none (.mv (.c (.n 0))) .nil))) (.seq (.seq (.reg (.cons (some x7x) none (.mv (.t x0x)) (.cons 
  (some x8x) none (.mv (.t x1x)) (.cons (some x9x) none (.call 46 (.cons (.t x7x) (.cons (.t x8x) .nil))) (.cons (some x6x) none (.mv (.t x9x)) .nil))))) (.seq (.reg (.cons (some 
  x10x) none (.mv (.t x6x)) (.cons (some x11x) none (.bin .neq (.t x10x) (.c (.n 0))) .nil))) (.cond (.t x11x) (.seq (.reg (.cons (some x12x) none (.mv (.t x6x)) (.cons (some x4x) 
  none (.mv (.c (.s []))) (.cons (some x5x) none (.mv (.t x12x)) .nil)))) .ret) .skip))) (.seq (.reg (.cons (some x13x) none (.mv (.t x0x)) (.cons (some x14x) none (.mv (.t x1x)) 
  (.cons (some x15x) none (.call 44 (.cons (.t x14x) .nil)) (.cons (some x16x) none (.call 49 (.cons (.t x13x) (.cons (.t x15x) .nil))) (.cons (some x4x) none (.mv (.t x16x)) 
  (.cons (some x5x) none (.mv (.c (.n 0))) .nil))))))) .ret))) [(.tmp x4x), (.tmp x5x)])
theorem cc12 : compF Try.prog drops true true Try.f12 = some i12 := by kernel_rfl
noncomputable def i13 : FnI := (.mk true true (.seq (.reg (.cons (some x1x) none (.box 39 (.t x0x)) (.cons (some x2x) none (.mv (.c (.b false))) (.cons (some x3x) none (.mv (.c (.n 0))) .nil)))) (.seq (.seq 
  (.reg (.cons (some x7x) none (.ld 1 true (.t x1x)) (.cons (some x8x) none (.call 50 (.cons (.t x7x) .nil)) (.cons (some x4x) none (.mv (.t x8x)) .nil)))) (.seq (.reg (.cons (some 
  x9x) none (.mv (.t x4x)) (.cons (some x10x) none (.bin .neq (.t x9x) (.c (.n 0))) .nil))) (.cond (.t x10x) (.seq (.reg (.cons (some x11x) none (.mv (.t x4x)) (.cons (some x2x) 
  none (.mv (.c (.b false))) (.cons (some x3x) none (.mv (.t x11x)) .nil)))) .ret) .skip))) (.seq (.reg (.cons (some x13x) none (.ld 1 true (.t x1x)) (.cons (some x14x) none (.call 
  51 (.cons (.t x13x) .nil)) (.cons (some x12x) none (.mv (.t x14x)) (.cons (some x15x) none (.ext 0 (.t x12x)) (.cons (some x16x) none (.ext 1 (.t x12x)) (.cons (some x5x) none 
  (.mv (.t x15x)) (.cons (some x6x) none (.mv (.t x16x)) .nil)))))))) (.seq (.reg (.cons (some x17x) none (.mv (.t x6x)) (.cons (some x18x) none (.not (.t x17x)) (.cons (some x2x) 
  none (.mv (.t x18x)) (.cons (some x3x) none (.mv (.c (.n 0))) .nil))))) .ret)))) [(.tmp x2x), (.tmp x3x)])
theorem cc13 : compF Try.prog drops true true Try.f13 = some i13 := by kernel_rfl
noncomputable def i14 : FnI := (.mk true false (.seq (.reg (.cons (some x0x) none (.alloc 39 (.cons .ns .nil) 1) .nil)) (.seq (.reg (.cons (some x1x) none (.bsl 9 1 3 (.cons (.s []) (.cons (.s []) (.cons (.s []) 
  .nil))) (.cons 0 1 (.c (.s [97, 98, 99, 98, 97, 99, 98, 99, 97, 98, 99, 98, 97])) (.cons 1 1 (.c (.s [98, 99, 97, 99, 98, 97, 99, 97, 98, 99, 97, 99, 98])) (.cons 2 1 (.c (.s 
  [99, 97, 98, 97, 99, 98, 97, 98, 99, 97, 98, 97, 99])) .nil)))) (.cons (some x2x) none (.call 16 (.cons (.t x1x) .nil)) (.cons none none (.st 1 (.t x0x) (.t x2x)) .nil)))) .ret)) 
  [(.cell x0x 1 true)])
theorem cc14 : compF Try.prog drops true false Try.f14 = some i14 := by kernel_rfl
noncomputable def i15 : FnI := (.mk true true (.seq (.reg (.cons (some x1x) none (.box 39 (.t x0x)) (.cons (some x2x) none (.mv (.c (.s []))) (.cons (some x3x) none (.mv (.c (.n 0))) .nil)))) (.seq (.seq (.reg 
  (.cons (some x7x) none (.ld 1 true (.t x1x)) (.cons (some x8x) none (.call 50 (.cons (.t x7x) .nil)) (.cons (some x4x) none (.mv (.t x8x)) .nil)))) (.seq (.reg (.cons (some x9x) 
  none (.mv (.t x4x)) (.cons (some x10x) none (.bin .neq (.t x9x) (.c (.n 0))) .nil))) (.cond (.t x10x) (.seq (.reg (.cons (some x11x) none (.mv (.t x4x)) (.cons (some x2x) none 
  (.mv (.c (.s []))) (.cons (some x3x) none (.mv (.t x11x)) .nil)))) .ret) .skip))) (.seq (.reg (.cons (some x13x) none (.ld 1 true (.t x1x)) (.cons (some x14x) none (.call 51 
  (.cons (.t x13x) .nil)) (.cons (some x12x) none (.mv (.t x14x)) (.cons (some x15x) none (.ext 0 (.t x12x)) (.cons (some x16x) none (.ext 1 (.t x12x)) (.cons (some x5x) none (.mv 
  (.t x15x)) (.cons (some x6x) none (.mv (.t x16x)) .nil)))))))) (.seq (.seq (.reg (.cons (some x17x) none (.mv (.t x6x)) (.cons (some x18x) none (.not (.t x17x)) .nil))) (.cond 
  (.t x18x) (.seq (.reg (.cons (some x2x) none (.mv (.c (.s []))) (.cons (some x3x) none (.mv (.c (.n 13))) .nil))) .ret) .skip)) (.seq (.reg (.cons (some x19x) none (.mv (.t x5x)) 
  (.cons (some x2x) none (.mv (.t x19x)) (.cons (some x3x) none (.mv (.c (.n 0))) .nil)))) .ret))))) [(.tmp x2x), (.tmp x3x)])
theorem cc15 : compF Try.prog drops true true Try.f15 = some i15 := by kernel_rfl
noncomputable def i16 : FnI := (.mk true false (.seq (.reg (.cons (some x2x) none (.alloc 39 (.cons .ns .nil) 1) .nil)) (.seq (.reg (.cons (some x3x) none (.mv (.t x0x)) (.cons (some x4x) none (.build (.cons .ns 
  .nil) (.cons 0 1 (.t x3x) .nil)) (.cons none none (.st 1 (.t x2x) (.t x4x)) .nil)))) .ret)) [(.cell x2x 1 true)])
theorem cc16 : compF Try.prog drops true false Try.f16 = some i16 := by kernel_rfl
noncomputable def i17 : FnI := (.mk true true (.seq (.reg (.cons (some x2x) none (.box 39 (.t x0x)) (.cons (some x4x) none (.mv (.c (.s []))) (.cons (some x5x) none (.mv (.c (.n 0))) .nil)))) (.seq (.seq (.reg 
  (.cons (some x7x) none (.ld 1 true (.t x2x)) (.cons (some x8x) none (.call 50 (.cons (.t x7x) .nil)) (.cons (some x6x) none (.mv (.t x8x)) .nil)))) (.seq (.reg (.cons (some x9x) 
  none (.mv (.t x6x)) (.cons (some x10x) none (.bin .neq (.t x9x) (.c (.n 0))) .nil))) (.cond (.t x10x) (.seq (.reg (.cons (some x11x) none (.mv (.t x6x)) (.cons (some x4x) none 
  (.mv (.c (.s []))) (.cons (some x5x) none (.mv (.t x11x)) .nil)))) .ret) .skip))) (.seq (.seq (.reg (.cons (some x12x) none (.mv (.t x1x)) (.cons (some x13x) none (.bin .lss (.t 
  x12x) (.c (.n 0))) (.cons (some x14x) none (.mv (.t x13x)) (.cons (some x15x) (some (.mk x14x false)) (.mv (.t x1x)) (.cons (some x16x) (some (.mk x14x false)) (.bin .gtr (.t 
  x15x) (.c (.n 600))) (.cons (some x17x) none (.pick (.t x14x) (.c (.b true)) (.t x16x)) .nil))))))) (.cond (.t x17x) (.seq (.reg (.cons (some x4x) none (.mv (.c (.s []))) (.cons 
  (some x5x) none (.mv (.c (.n 1))) .nil))) .ret) .skip)) (.seq (.seq (.reg (.cons (some x18x) none (.ld 1 true (.t x2x)) (.cons (some x19x) none (.call 52 (.cons (.t x18x) .nil)) 
  (.cons (some x20x) none (.not (.t x19x)) .nil)))) (.cond (.t x20x) (.seq (.reg (.cons (some x4x) none (.mv (.c (.s []))) (.cons (some x5x) none (.mv (.c (.n 12))) .nil))) .ret) 
  .skip)) (.seq (.seq (.reg (.cons (some x21x) none (.ld 1 true (.t x2x)) (.cons (some x22x) none (.call 53 (.cons (.t x21x) .nil)) (.cons (some x23x) none (.not (.t x22x)) 
  .nil)))) (.cond (.t x23x) (.seq (.reg (.cons (some x4x) none (.mv (.c (.s []))) (.cons (some x5x) none (.mv (.c (.n 2))) .nil))) .ret) .skip)) (.seq (.reg (.cons (some x24x) none 
  (.ld 1 true (.t x2x)) (.cons (some x25x) none (.mv (.t x1x)) (.cons (some x26x) none (.call 54 (.cons (.t x24x) (.cons (.t x25x) .nil))) (.cons (some x4x) none (.mv (.t x26x)) 
  (.cons (some x5x) none (.mv (.c (.n 0))) .nil)))))) .ret)))))) [(.tmp x4x), (.tmp x5x)])
theorem cc17 : compF Try.prog drops true true Try.f17 = some i17 := by kernel_rfl
noncomputable def i18 : FnI := (.mk true true (.seq (.reg (.cons (some x2x) none (.box 39 (.t x0x)) (.cons (some x4x) none (.mv (.c (.s []))) (.cons (some x5x) none (.mv (.c (.n 0))) .nil)))) (.seq (.seq (.reg 
  (.cons (some x9x) none (.ld 1 true (.t x2x)) (.cons (some x10x) none (.mv (.t x1x)) (.cons (some x11x) none (.call 55 (.cons (.t x9x) (.cons (.t x10x) .nil))) (.cons (some x6x) 
  none (.mv (.t x11x)) .nil))))) (.seq (.reg (.cons (some x12x) none (.mv (.t x6x)) (.cons (some x13x) none (.bin .neq (.t x12x) (.c (.n 0))) .nil))) (.cond (.t x13x) (.seq (.reg 
  (.cons (some x14x) none (.mv (.t x6x)) (.cons (some x4x) none (.mv (.c (.s []))) (.cons (some x5x) none (.mv (.t x14x)) .nil)))) .ret) .skip))) (.seq (.seq (.reg (.cons (some 
  x15x) none (.mv (.t x1x)) (.cons (some x16x) none (.slen (.t x15x)) (.cons (some x17x) none (.ld 1 true (.t x2x)) (.cons (some x18x) none (.call 56 (.cons (.t x17x) .nil)) (.cons 
  (some x19x) none (.bin .rem (.t x16x) (.t x18x)) (.cons (some x20x) none (.bin .neq (.t x19x) (.c (.n 0))) .nil))))))) (.cond (.t x20x) (.seq (.reg (.cons (some x4x) none (.mv 
  (.c (.s []))) (.cons (some x5x) none (.mv (.c (.n 5))) .nil))) .ret) .skip)) (.seq (.reg (.cons (some x22x) none (.ld 1 true (.t x2x)) (.cons (some x23x) none (.mv (.t x1x)) 
  (.cons (some x24x) none (.call 57 (.cons (.t x22x) (.cons (.t x23x) .nil))) (.cons (some x21x) none (.mv (.t x24x)) (.cons (some x25x) none (.ext 0 (.t x21x)) (.cons (some x26x) 
  none (.ext 1 (.t x21x)) (.cons (some x7x) none (.mv (.t x25x)) (.cons (some x8x) none (.mv (.t x26x)) .nil))))))))) (.seq (.seq (.reg (.cons (some x27x) none (.mv (.t x8x)) 
  (.cons (some x28x) none (.not (.t x27x)) .nil))) (.cond (.t x28x) (.seq (.reg (.cons (some x4x) none (.mv (.c (.s []))) (.cons (some x5x) none (.mv (.c (.n 12))) .nil))) .ret) 
  .skip)) (.seq (.reg (.cons (some x29x) none (.mv (.t x7x)) (.cons (some x4x) none (.mv (.t x29x)) (.cons (some x5x) none (.mv (.c (.n 0))) .nil)))) .ret)))))) [(.tmp x4x), (.tmp 
  x5x)])
theorem cc18 : compF Try.prog drops true true Try.f18 = some i18 := by kernel_rfl
noncomputable def i19 : FnI := (.mk true true (.seq (.reg (.cons (some x2x) none (.box 39 (.t x0x)) (.cons (some x4x) none (.mv (.c (.s []))) (.cons (some x5x) none (.mv (.c (.n 0))) .nil)))) (.seq (.seq (.reg 
  (.cons (some x7x) none (.ld 1 true (.t x2x)) (.cons (some x8x) none (.mv (.t x1x)) (.cons (some x9x) none (.call 55 (.cons (.t x7x) (.cons (.t x8x) .nil))) (.cons (some x6x) none 
  (.mv (.t x9x)) .nil))))) (.seq (.reg (.cons (some x10x) none (.mv (.t x6x)) (.cons (some x11x) none (.bin .neq (.t x10x) (.c (.n 0))) .nil))) (.cond (.t x11x) (.seq (.reg (.cons 
  (some x12x) none (.mv (.t x6x)) (.cons (some x4x) none (.mv (.c (.s []))) (.cons (some x5x) none (.mv (.t x12x)) .nil)))) .ret) .skip))) (.seq (.seq (.reg (.cons (some x13x) none 
  (.mv (.t x1x)) (.cons (some x14x) none (.ld 1 true (.t x2x)) (.cons (some x15x) none (.call 59 (.cons (.t x14x) .nil)) (.cons (some x16x) none (.call 58 (.cons (.t x13x) (.cons 
  (.t x15x) .nil))) (.cons (some x17x) none (.not (.t x16x)) .nil)))))) (.cond (.t x17x) (.seq (.reg (.cons (some x4x) none (.mv (.c (.s []))) (.cons (some x5x) none (.mv (.c (.n 
  2))) .nil))) .ret) .skip)) (.seq (.seq (.reg (.cons (some x18x) none (.mv (.t x1x)) (.cons (some x19x) none (.slen (.t x18x)) (.cons (some x20x) none (.ld 1 true (.t x2x)) (.cons 
  (some x21x) none (.call 56 (.cons (.t x20x) .nil)) (.cons (some x22x) none (.bin .mul (.t x19x) (.t x21x)) (.cons (some x23x) none (.bin .gtr (.t x22x) (.c (.n 600))) .nil))))))) 
  (.cond (.t x23x) (.seq (.reg (.cons (some x4x) none (.mv (.c (.s []))) (.cons (some x5x) none (.mv (.c (.n 15))) .nil))) .ret) .skip)) (.seq (.reg (.cons (some x24x) none (.ld 1 
  true (.t x2x)) (.cons (some x25x) none (.mv (.t x1x)) (.cons (some x26x) none (.call 60 (.cons (.t x24x) (.cons (.t x25x) .nil))) (.cons (some x4x) none (.mv (.t x26x)) (.cons 
  (some x5x) none (.mv (.c (.n 0))) .nil)))))) .ret))))) [(.tmp x4x), (.tmp x5x)])
theorem cc19 : compF Try.prog drops true true Try.f19 = some i19 := by kernel_rfl
noncomputable def i20 : FnI := (.mk true true (.seq (.reg (.cons (some x2x) none (.box 39 (.t x0x)) (.cons (some x4x) none (.mv (.c (.n 0))) .nil))) (.seq (.reg (.cons (some x8x) none (.ld 1 true (.t x2x)) 
  (.cons (some x9x) none (.mv (.t x1x)) (.cons (some x10x) none (.call 19 (.cons (.t x8x) (.cons (.t x9x) .nil))) (.cons (some x7x) none (.mv (.t x10x)) (.cons (some x11x) none 
  (.ext 0 (.t x7x)) (.cons (some x12x) none (.ext 1 (.t x7x)) (.cons (some x5x) none (.mv (.t x11x)) (.cons (some x6x) none (.mv (.t x12x)) .nil))))))))) (.seq (.seq (.reg (.cons 
  (some x13x) none (.mv (.t x6x)) (.cons (some x14x) none (.bin .neq (.t x13x) (.c (.n 0))) .nil))) (.cond (.t x14x) (.seq (.reg (.cons (some x15x) none (.mv (.t x6x)) (.cons (some 
  x4x) none (.mv (.t x15x)) .nil))) .ret) .skip)) (.seq (.seq (.reg (.cons (some x16x) none (.mv (.t x1x)) (.cons (some x17x) none (.call 61 (.cons (.t x16x) .nil)) (.cons (some 
  x18x) none (.not (.t x17x)) (.cons (some x19x) none (.mv (.t x18x)) (.cons (some x20x) (some (.mk x19x false)) (.mv (.t x5x)) (.cons (some x21x) (some (.mk x19x false)) (.call 61 
  (.cons (.t x20x) .nil)) (.cons (some x22x) none (.pick (.t x19x) (.c (.b true)) (.t x21x)) .nil)))))))) (.cond (.t x22x) (.seq (.reg (.cons (some x4x) none (.mv (.c (.n 14))) 
  .nil)) .ret) .skip)) (.seq (.reg (.cons (some x4x) none (.mv (.c (.n 0))) .nil)) .ret))))) [(.tmp x4x)])
theorem cc20 : compF Try.prog drops true true Try.f20 = some i20 := by kernel_rfl
noncomputable def i21 : FnI := (.mk true true (.seq (.reg (.cons (some x2x) none (.mv (.c (.n 0))) .nil)) (.seq (.seq (.reg (.cons (some x3x) none (.mv (.t x0x)) (.cons (some x4x) none (.slen (.t x3x)) (.cons 
  (some x5x) none (.bin .gtr (.t x4x) (.c (.n 600))) .nil)))) (.cond (.t x5x) (.seq (.reg (.cons (some x2x) none (.mv (.c (.n 3))) .nil)) .ret) .skip)) (.seq (.seq (.reg (.cons 
  (some x6x) none (.mv (.t x0x)) (.cons (some x7x) none (.call 58 (.cons (.t x6x) (.cons (.c (.s [97, 98, 99, 100])) .nil))) (.cons (some x8x) none (.not (.t x7x)) .nil)))) (.cond 
  (.t x8x) (.seq (.reg (.cons (some x2x) none (.mv (.c (.n 10))) .nil)) .ret) .skip)) (.seq (.reg (.cons (some x2x) none (.mv (.c (.n 0))) .nil)) .ret)))) [(.tmp x2x)])
theorem cc21 : compF Try.prog drops true true Try.f21 = some i21 := by kernel_rfl
noncomputable def i22 : FnI := (.mk true false (.seq (.reg (.cons (some x1x) none (.box 51 (.t x0x)) (.cons (some x2x) none (.mv (.c .ns)) (.cons (some x3x) none (.mv (.c (.n 0))) .nil)))) (.seq (.seq (.reg 
  (.cons (some x5x) none (.ld 2 true (.t x1x)) (.cons (some x6x) none (.call 40 (.cons (.t x5x) .nil)) (.cons (some x4x) none (.mv (.t x6x)) .nil)))) (.seq (.reg (.cons (some x7x) 
  none (.mv (.t x4x)) (.cons (some x8x) none (.bin .neq (.t x7x) (.c (.n 0))) .nil))) (.cond (.t x8x) (.seq (.reg (.cons (some x9x) none (.mv (.t x4x)) (.cons (some x2x) none (.mv 
  (.c .ns)) (.cons (some x3x) none (.mv (.t x9x)) .nil)))) .ret) .skip))) (.seq (.reg (.cons (some x10x) none (.ld 2 true (.t x1x)) (.cons (some x11x) none (.call 62 (.cons (.t 
  x10x) .nil)) (.cons (some x2x) none (.mv (.t x11x)) (.cons (some x3x) none (.mv (.c (.n 0))) .nil))))) .ret))) [(.tmp x2x), (.tmp x3x)])
theorem cc22 : compF Try.prog drops true false Try.f22 = some i22 := by kernel_rfl
noncomputable def i23 : FnI := (.mk true false (.seq (.reg (.cons (some x0x) none (.alloc 51 (.cons (.n 0) (.cons .ns .nil)) 2) .nil)) (.seq (.reg (.cons (some x1x) none (.build (.cons (.n 0) (.cons (.n 0) 
  .nil)) (.cons 0 1 (.c (.n 2)) (.cons 1 1 (.c (.n 0)) .nil))) (.cons (some x2x) none (.build (.cons (.n 0) (.cons (.n 0) .nil)) (.cons 0 1 (.c (.n 3)) (.cons 1 1 (.c (.n 0)) 
  .nil))) (.cons (some x3x) none (.build (.cons (.n 0) (.cons (.n 0) .nil)) (.cons 0 1 (.c (.n 1)) (.cons 1 1 (.c (.n 3)) .nil))) (.cons (some x4x) none (.bsl 65 2 3 (.cons (.n 0) 
  (.cons (.n 0) (.cons (.n 0) (.cons (.n 0) (.cons (.n 0) (.cons (.n 0) .nil)))))) (.cons 0 2 (.t x1x) (.cons 2 2 (.t x2x) (.cons 4 2 (.t x3x) .nil)))) (.cons (some x5x) none 
  (.build (.cons (.n 0) (.cons .ns .nil)) (.cons 0 1 (.c (.n 4)) (.cons 1 1 (.t x4x) .nil))) (.cons none none (.st 2 (.t x0x) (.t x5x)) .nil))))))) .ret)) [(.cell x0x 2 true)])
theorem cc23 : compF Try.prog drops true false Try.f23 = some i23 := by kernel_rfl
noncomputable def i24 : FnI := (.mk true false (.seq (.reg (.cons (some x4x) none (.alloc 51 (.cons (.n 0) (.cons .ns .nil)) 2) (.cons (some x5x) none (.mv (.c (.n 0))) .nil))) (.seq (.seq (.reg (.cons (some 
  x8x) none (.mv (.t x0x)) (.cons (some x9x) none (.call 63 (.cons (.t x8x) .nil)) (.cons (some x10x) none (.not (.t x9x)) .nil)))) (.cond (.t x10x) (.seq (.reg (.cons (some x11x) 
  none (.build (.cons (.n 0) (.cons .ns .nil)) .nil) (.cons none none (.st 2 (.t x4x) (.t x11x)) (.cons (some x5x) none (.mv (.c (.n 1))) .nil)))) .ret) .skip)) (.seq (.seq (.reg 
  (.cons (some x12x) none (.mv (.t x1x)) (.cons (some x13x) none (.len (.t x12x)) (.cons (some x14x) none (.mv (.t x0x)) (.cons (some x15x) none (.call 64 (.cons (.t x14x) .nil)) 
  (.cons (some x16x) none (.bin .neq (.t x13x) (.t x15x)) .nil)))))) (.cond (.t x16x) (.seq (.reg (.cons (some x17x) none (.build (.cons (.n 0) (.cons .ns .nil)) .nil) (.cons none 
  none (.st 2 (.t x4x) (.t x17x)) (.cons (some x5x) none (.mv (.c (.n 5))) .nil)))) .ret) .skip)) (.seq (.seq (.reg (.cons (some x18x) none (.mv (.t x1x)) (.cons (some x19x) none 
  (.len (.t x18x)) (.cons (some x20x) none (.mv (.c (.n 0))) .nil)))) (.block 0 (.loop (.seq (.reg (.cons (some x21x) none (.bin .lss (.t x20x) (.t x19x)) .nil)) (.seq (.cond (.t 
  x21x) .skip (.exit 0)) (.seq (.block 1 (.seq (.reg (.cons (some x22x) none (.ixs 1 (.t x18x) (.t x20x)) (.cons (some x23x) none (.ld 1 false (.t x22x)) (.cons (some x7x) none 
  (.mv (.t x23x)) .nil)))) (.seq (.reg (.cons (some x24x) none (.mv (.t x0x)) (.cons (some x25x) none (.mv (.t x7x)) (.cons (some x26x) none (.call 65 (.cons (.t x24x) (.cons (.t 
  x25x) .nil))) (.cons (some x27x) none (.not (.t x26x)) .nil))))) (.cond (.t x27x) (.seq (.reg (.cons (some x28x) none (.build (.cons (.n 0) (.cons .ns .nil)) .nil) (.cons none 
  none (.st 2 (.t x4x) (.t x28x)) (.cons (some x5x) none (.mv (.c (.n 2))) .nil)))) .ret) .skip)))) (.reg (.cons (some x29x) none (.bin .add (.t x20x) (.c (.n 1))) (.cons (some 
  x20x) none (.mv (.t x29x)) .nil))))))))) (.seq (.reg (.cons (some x30x) none (.mv (.t x0x)) (.cons (some x31x) none (.mv (.t x1x)) (.cons (some x32x) none (.call 66 (.cons (.t 
  x30x) (.cons (.t x31x) .nil))) (.cons none none (.st 2 (.t x4x) (.t x32x)) (.cons (some x5x) none (.mv (.c (.n 0))) .nil)))))) .ret))))) [(.cell x4x 2 true), (.tmp x5x)])
theorem cc24 : compF Try.prog drops true false Try.f24 = some i24 := by kernel_rfl
noncomputable def i25 : FnI := (.mk true false (.seq (.reg (.cons (some x2x) none (.mv (.c .ns)) .nil)) (.seq (.reg (.cons (some x3x) none (.mv (.t x0x)) (.cons (some x2x) none (.mv (.t x3x)) .nil))) .ret)) 
  [(.tmp x2x)])
theorem cc25 : compF Try.prog drops true false Try.f25 = some i25 := by kernel_rfl
noncomputable def i26 : FnI := (.mk true false (.seq (.reg (.cons (some x1x) none (.box 51 (.t x0x)) (.cons (some x2x) none (.alloc 51 (.cons (.n 0) (.cons .ns .nil)) 2) (.cons (some x3x) none (.mv (.c (.n 0))) 
  .nil)))) (.seq (.seq (.reg (.cons (some x5x) none (.ld 2 true (.t x1x)) (.cons (some x6x) none (.call 40 (.cons (.t x5x) .nil)) (.cons (some x4x) none (.mv (.t x6x)) .nil)))) 
  (.seq (.reg (.cons (some x7x) none (.mv (.t x4x)) (.cons (some x8x) none (.bin .neq (.t x7x) (.c (.n 0))) .nil))) (.cond (.t x8x) (.seq (.reg (.cons (some x9x) none (.build 
  (.cons (.n 0) (.cons .ns .nil)) .nil) (.cons (some x10x) none (.mv (.t x4x)) (.cons none none (.st 2 (.t x2x) (.t x9x)) (.cons (some x3x) none (.mv (.t x10x)) .nil))))) .ret) 
  .skip))) (.seq (.reg (.cons (some x11x) none (.ld 2 true (.t x1x)) (.cons (some x12x) none (.call 67 (.cons (.t x11x) .nil)) (.cons (some x13x) none (.call 68 (.cons (.t x12x) 
  .nil)) (.cons none none (.st 2 (.t x2x) (.t x13x)) (.cons (some x3x) none (.mv (.c (.n 0))) .nil)))))) .ret))) [(.cell x2x 2 true), (.tmp x3x)])
theorem cc26 : compF Try.prog drops true false Try.f26 = some i26 := by kernel_rfl
noncomputable def i27 : FnI := (.mk true true (.seq (.reg (.cons (some x1x) none (.box 51 (.t x0x)) (.cons (some x2x) none (.mv (.c (.n 0))) (.cons (some x3x) none (.mv (.c (.n 0))) .nil)))) (.seq (.seq (.reg 
  (.cons (some x5x) none (.ld 2 true (.t x1x)) (.cons (some x6x) none (.call 40 (.cons (.t x5x) .nil)) (.cons (some x4x) none (.mv (.t x6x)) .nil)))) (.seq (.reg (.cons (some x7x) 
  none (.mv (.t x4x)) (.cons (some x8x) none (.bin .neq (.t x7x) (.c (.n 0))) .nil))) (.cond (.t x8x) (.seq (.reg (.cons (some x9x) none (.mv (.t x4x)) (.cons (some x2x) none (.mv 
  (.c (.n 0))) (.cons (some x3x) none (.mv (.t x9x)) .nil)))) .ret) .skip))) (.seq (.draw [(.mk (some x10x) none true [] false [] [] [x1x] (.fad 0 (.t x1x)) false [] [] []), (.mk 
  (some x11x) none false [] false [true] [] [x10x] (.ld 1 false (.t x10x)) false [] [] []), (.mk (some x12x) none false [] false [false, false] [] [x1x] (.ld 2 true (.t x1x)) false 
  [] [] []), (.mk (some x13x) none false [] true [true, false, false] [] [x12x] (.call 62 (.cons (.t x12x) .nil)) false [] [] []), (.mk (some x14x) none false [] false [true, true, 
  true, true] [] [x11x, x13x] (.call 69 (.cons (.t x11x) (.cons (.t x13x) .nil))) false [] [] []), (.mk (some x2x) none true [] false [true, true, true, true, true] [] [x14x] (.mv 
  (.t x14x)) false [] [] []), (.mk (some x3x) none true [] false [true, true, true, true, true, true] [] [] (.mv (.c (.n 0))) false [] [] [])]) .ret))) [(.tmp x2x), (.tmp x3x)])
theorem cc27 : compF Try.prog drops true true Try.f27 = some i27 := by kernel_rfl
noncomputable def i28 : FnI := (.mk true false (.seq (.reg (.cons (some x0x) none (.alloc 51 (.cons (.n 0) (.cons .ns .nil)) 2) .nil)) (.seq (.reg (.cons (some x1x) none (.build (.cons (.n 0) (.cons (.n 0) 
  .nil)) (.cons 0 1 (.c (.n 0)) (.cons 1 1 (.c (.n 1)) .nil))) (.cons (some x2x) none (.build (.cons (.n 0) (.cons (.n 0) .nil)) (.cons 0 1 (.c (.n 1)) (.cons 1 1 (.c (.n 2)) 
  .nil))) (.cons (some x3x) none (.build (.cons (.n 0) (.cons (.n 0) .nil)) (.cons 0 1 (.c (.n 1)) (.cons 1 1 (.c (.n 3)) .nil))) (.cons (some x4x) none (.bsl 65 2 3 (.cons (.n 0) 
  (.cons (.n 0) (.cons (.n 0) (.cons (.n 0) (.cons (.n 0) (.cons (.n 0) .nil)))))) (.cons 0 2 (.t x1x) (.cons 2 2 (.t x2x) (.cons 4 2 (.t x3x) .nil)))) (.cons (some x5x) none 
  (.build (.cons (.n 0) (.cons .ns .nil)) (.cons 0 1 (.c (.n 4)) (.cons 1 1 (.t x4x) .nil))) (.cons none none (.st 2 (.t x0x) (.t x5x)) .nil))))))) .ret)) [(.cell x0x 2 true)])
theorem cc28 : compF Try.prog drops true false Try.f28 = some i28 := by kernel_rfl
noncomputable def i29 : FnI := (.mk true true (.seq (.reg (.cons (some x2x) none (.mv (.c (.n 0))) (.cons (some x3x) none (.mv (.c (.n 0))) .nil))) (.seq (.seq (.reg (.cons (some x4x) none (.mv (.t x0x)) (.cons 
  (some x5x) none (.call 63 (.cons (.t x4x) .nil)) (.cons (some x6x) none (.not (.t x5x)) .nil)))) (.cond (.t x6x) (.seq (.reg (.cons (some x2x) none (.mv (.c (.n 0))) (.cons (some 
  x3x) none (.mv (.c (.n 1))) .nil))) .ret) .skip)) (.seq (.reg (.cons (some x7x) none (.mv (.t x0x)) (.cons (some x8x) none (.call 70 (.cons (.t x7x) .nil)) (.cons (some x2x) none 
  (.mv (.t x8x)) (.cons (some x3x) none (.mv (.c (.n 0))) .nil))))) .ret))) [(.tmp x2x), (.tmp x3x)])
theorem cc29 : compF Try.prog drops true true Try.f29 = some i29 := by kernel_rfl
noncomputable def i30 : FnI := (.mk true true (.seq (.reg (.cons (some x2x) none (.mv (.c (.n 0))) (.cons (some x3x) none (.mv (.c (.n 0))) .nil))) (.seq (.seq (.reg (.cons (some x7x) none (.mv (.t x0x)) (.cons 
  (some x8x) none (.len (.t x7x)) (.cons (some x9x) none (.call 63 (.cons (.t x8x) .nil)) (.cons (some x10x) none (.not (.t x9x)) .nil))))) (.cond (.t x10x) (.seq (.reg (.cons 
  (some x2x) none (.mv (.c (.n 0))) (.cons (some x3x) none (.mv (.c (.n 1))) .nil))) .ret) .skip)) (.seq (.reg (.cons (some x4x) none (.mv (.c (.n 0))) .nil)) (.seq (.seq (.reg 
  (.cons (some x11x) none (.mv (.t x0x)) (.cons (some x12x) none (.len (.t x11x)) (.cons (some x13x) none (.mv (.c (.n 0))) .nil)))) (.block 0 (.loop (.seq (.reg (.cons (some x14x) 
  none (.bin .lss (.t x13x) (.t x12x)) .nil)) (.seq (.cond (.t x14x) .skip (.exit 0)) (.seq (.block 1 (.seq (.reg (.cons (some x15x) none (.ixs 1 (.t x11x) (.t x13x)) (.cons (some 
  x16x) none (.ld 1 false (.t x15x)) (.cons (some x6x) none (.mv (.t x16x)) .nil)))) (.seq (.seq (.reg (.cons (some x17x) none (.mv (.t x6x)) (.cons (some x18x) none (.bin .lss (.t 
  x17x) (.c (.n 0))) (.cons (some x19x) none (.mv (.t x18x)) (.cons (some x20x) (some (.mk x19x false)) (.mv (.t x6x)) (.cons (some x21x) (some (.mk x19x false)) (.mv (.t x0x)) 
  (.cons (some x22x) (some (.mk x19x false)) (.len (.t x21x)) (.cons (some x23x) (some (.mk x19x false)) (.bin .geq (.t x20x) (.t x22x)) (.cons (some x24x) none (.pick (.t x19x) 
  (.c (.b true)) (.t x23x)) .nil))))))))) (.cond (.t x24x) (.seq (.reg (.cons (some x2x) none (.mv (.c (.n 0))) (.cons (some x3x) none (.mv (.c (.n 2))) .nil))) .ret) .skip)) (.reg 
  (.cons (some x25x) none (.mv (.t x4x)) (.cons (some x26x) none (.mv (.t x6x)) (.cons (some x27x) none (.bin .add (.t x25x) (.t x26x)) (.cons (some x4x) none (.mv (.t x27x)) 
  .nil)))))))) (.reg (.cons (some x28x) none (.bin .add (.t x13x) (.c (.n 1))) (.cons (some x13x) none (.mv (.t x28x)) .nil))))))))) (.seq (.seq (.reg (.cons (some x29x) none (.mv 
  (.t x4x)) (.cons (some x30x) none (.mv (.t x0x)) (.cons (some x31x) none (.len (.t x30x)) (.cons (some x32x) none (.bin .mul (.c (.n 2)) (.t x31x)) (.cons (some x33x) none (.bin 
  .sub (.t x32x) (.c (.n 2))) (.cons (some x34x) none (.bin .neq (.t x29x) (.t x33x)) .nil))))))) (.cond (.t x34x) (.seq (.reg (.cons (some x2x) none (.mv (.c (.n 0))) (.cons (some 
  x3x) none (.mv (.c (.n 17))) .nil))) .ret) .skip)) (.seq (.reg (.cons (some x35x) none (.mv (.t x0x)) (.cons (some x36x) none (.call 71 (.cons (.t x35x) .nil)) (.cons (some x2x) 
  none (.mv (.t x36x)) (.cons (some x3x) none (.mv (.c (.n 0))) .nil))))) .ret)))))) [(.tmp x2x), (.tmp x3x)])
theorem cc30 : compF Try.prog drops true true Try.f30 = some i30 := by kernel_rfl
noncomputable def i31 : FnI := (.mk true false (.seq (.reg (.cons (some x1x) none (.box 51 (.t x0x)) (.cons (some x2x) none (.mv (.c .ns)) (.cons (some x3x) none (.mv (.c (.n 0))) .nil)))) (.seq (.seq (.reg 
  (.cons (some x5x) none (.ld 2 true (.t x1x)) (.cons (some x6x) none (.call 40 (.cons (.t x5x) .nil)) (.cons (some x4x) none (.mv (.t x6x)) .nil)))) (.seq (.reg (.cons (some x7x) 
  none (.mv (.t x4x)) (.cons (some x8x) none (.bin .neq (.t x7x) (.c (.n 0))) .nil))) (.cond (.t x8x) (.seq (.reg (.cons (some x9x) none (.mv (.t x4x)) (.cons (some x2x) none (.mv 
  (.c .ns)) (.cons (some x3x) none (.mv (.t x9x)) .nil)))) .ret) .skip))) (.seq (.reg (.cons (some x10x) none (.ld 2 true (.t x1x)) (.cons (some x11x) none (.call 67 (.cons (.t 
  x10x) .nil)) (.cons (some x12x) none (.call 72 (.cons (.t x11x) .nil)) (.cons (some x2x) none (.mv (.t x12x)) (.cons (some x3x) none (.mv (.c (.n 0))) .nil)))))) .ret))) [(.tmp 
  x2x), (.tmp x3x)])
theorem cc31 : compF Try.prog drops true false Try.f31 = some i31 := by kernel_rfl
noncomputable def i32 : FnI := (.mk true false (.seq (.reg (.cons (some x1x) none (.box 51 (.t x0x)) (.cons (some x2x) none (.mv (.c .ns)) (.cons (some x3x) none (.mv (.c (.n 0))) .nil)))) (.seq (.seq (.reg 
  (.cons (some x5x) none (.ld 2 true (.t x1x)) (.cons (some x6x) none (.call 40 (.cons (.t x5x) .nil)) (.cons (some x4x) none (.mv (.t x6x)) .nil)))) (.seq (.reg (.cons (some x7x) 
  none (.mv (.t x4x)) (.cons (some x8x) none (.bin .neq (.t x7x) (.c (.n 0))) .nil))) (.cond (.t x8x) (.seq (.reg (.cons (some x9x) none (.mv (.t x4x)) (.cons (some x2x) none (.mv 
  (.c .ns)) (.cons (some x3x) none (.mv (.t x9x)) .nil)))) .ret) .skip))) (.seq (.reg (.cons (some x10x) none (.ld 2 true (.t x1x)) (.cons (some x11x) none (.call 67 (.cons (.t 
  x10x) .nil)) (.cons (some x12x) none (.call 73 (.cons (.t x11x) .nil)) (.cons (some x2x) none (.mv (.t x12x)) (.cons (some x3x) none (.mv (.c (.n 0))) .nil)))))) .ret))) [(.tmp 
  x2x), (.tmp x3x)])
theorem cc32 : compF Try.prog drops true false Try.f32 = some i32 := by kernel_rfl
noncomputable def i33 : FnI := (.mk true false (.seq (.reg (.cons (some x3x) none (.box 51 (.t x0x)) (.cons (some x6x) none (.mv (.c .ns)) (.cons (some x7x) none (.mv (.c (.n 0))) .nil)))) (.seq (.seq (.reg 
  (.cons (some x9x) none (.ld 2 true (.t x3x)) (.cons (some x10x) none (.call 40 (.cons (.t x9x) .nil)) (.cons (some x8x) none (.mv (.t x10x)) .nil)))) (.seq (.reg (.cons (some 
  x11x) none (.mv (.t x8x)) (.cons (some x12x) none (.bin .neq (.t x11x) (.c (.n 0))) .nil))) (.cond (.t x12x) (.seq (.reg (.cons (some x13x) none (.mv (.t x8x)) (.cons (some x6x) 
  none (.mv (.c .ns)) (.cons (some x7x) none (.mv (.t x13x)) .nil)))) .ret) .skip))) (.seq (.seq (.reg (.cons (some x14x) none (.fad 0 (.t x3x)) (.cons (some x15x) none (.ld 1 
  false (.t x14x)) (.cons (some x16x) none (.mv (.t x1x)) (.cons (some x17x) none (.call 65 (.cons (.t x15x) (.cons (.t x16x) .nil))) (.cons (some x18x) none (.not (.t x17x)) 
  (.cons (some x19x) none (.mv (.t x18x)) (.cons (some x20x) (some (.mk x19x false)) (.fad 0 (.t x3x)) (.cons (some x21x) (some (.mk x19x false)) (.ld 1 false (.t x20x)) (.cons 
  (some x22x) (some (.mk x19x false)) (.mv (.t x2x)) (.cons (some x23x) (some (.mk x19x false)) (.call 65 (.cons (.t x21x) (.cons (.t x22x) .nil))) (.cons (some x24x) (some (.mk 
  x19x false)) (.not (.t x23x)) (.cons (some x25x) none (.pick (.t x19x) (.c (.b true)) (.t x24x)) .nil))))))))))))) (.cond (.t x25x) (.seq (.reg (.cons (some x6x) none (.mv (.c 
  .ns)) (.cons (some x7x) none (.mv (.c (.n 2))) .nil))) .ret) .skip)) (.seq (.reg (.cons (some x26x) none (.ld 2 true (.t x3x)) (.cons (some x27x) none (.call 67 (.cons (.t x26x) 
  .nil)) (.cons (some x28x) none (.mv (.t x1x)) (.cons (some x29x) none (.mv (.t x2x)) (.cons (some x30x) none (.call 74 (.cons (.t x27x) (.cons (.t x28x) (.cons (.t x29x) .nil)))) 
  (.cons (some x6x) none (.mv (.t x30x)) (.cons (some x7x) none (.mv (.c (.n 0))) .nil)))))))) .ret)))) [(.tmp x6x), (.tmp x7x)])
theorem cc33 : compF Try.prog drops true false Try.f33 = some i33 := by kernel_rfl
noncomputable def i34 : FnI := (.mk true false (.seq (.reg (.cons (some x1x) none (.box 51 (.t x0x)) (.cons (some x2x) none (.mv (.c .ns)) (.cons (some x3x) none (.mv (.c (.n 0))) .nil)))) (.seq (.seq (.reg 
  (.cons (some x10x) none (.ld 2 true (.t x1x)) (.cons (some x11x) none (.call 40 (.cons (.t x10x) .nil)) (.cons (some x4x) none (.mv (.t x11x)) .nil)))) (.seq (.reg (.cons (some 
  x12x) none (.mv (.t x4x)) (.cons (some x13x) none (.bin .neq (.t x12x) (.c (.n 0))) .nil))) (.cond (.t x13x) (.seq (.reg (.cons (some x14x) none (.mv (.t x4x)) (.cons (some x2x) 
  none (.mv (.c .ns)) (.cons (some x3x) none (.mv (.t x14x)) .nil)))) .ret) .skip))) (.seq (.reg (.cons (some x15x) none (.ld 2 true (.t x1x)) (.cons (some x16x) none (.call 67 
  (.cons (.t x15x) .nil)) (.cons (some x5x) none (.alloc 97 (.cons (.n 0) (.cons (.b false) (.cons (.b false) (.cons (.b false) (.cons (.b false) (.cons (.b false) (.cons (.b 
  false) (.cons (.b false) (.cons (.b false) (.cons (.b false) (.cons (.b false) (.cons (.b false) (.cons (.b false) (.cons (.b false) (.cons (.b false) (.cons (.b false) (.cons 
  (.b false) (.cons (.b false) (.cons (.b false) (.cons (.b false) (.cons (.b false) (.cons (.b false) (.cons (.b false) (.cons (.b false) (.cons (.b false) (.cons (.b false) 
  (.cons (.b false) (.cons (.b false) (.cons (.b false) (.cons (.b false) (.cons (.b false) (.cons (.b false) (.cons (.b false) (.cons (.b false) (.cons (.b false) (.cons (.b 
  false) (.cons (.b false) (.cons (.b false) (.cons (.b false) (.cons (.b false) (.cons (.b false) (.cons (.b false) (.cons (.b false) (.cons (.b false) (.cons (.b false) (.cons 
  (.b false) (.cons (.b false) (.cons (.b false) (.cons (.b false) (.cons (.b false) (.cons (.b false) (.cons (.b false) (.cons (.b false) (.cons (.b false) (.cons (.b false) 
  (.cons (.b false) (.cons (.b false) (.cons (.b false) (.cons (.b false) (.cons (.b false) (.cons (.b false) (.cons (.b false) (.cons (.b false) (.cons (.b false) (.cons (.b 
  false) (.cons (.b false) (.cons (.b false) (.cons (.b false) (.cons (.b false) (.cons (.b false) (.cons (.b false) (.cons (.b false) (.cons (.b false) (.cons (.b false) (.cons 
  (.b false) (.cons (.b false) (.cons (.b false) (.cons (.b false) (.cons (.b false) (.cons (.b false) (.cons (.b false) (.cons (.b false) (.cons (.b false) (.cons (.b false) 
  (.cons (.b false) (.cons (.b false) (.cons (.b false) (.cons (.b false) (.cons (.b false) (.cons (.b false) (.cons (.b false) 
  .nil))))))))))))))))))))))))))))))))))))))))))))))))))))))))))))))))))))))))))))))))))))))))))) 91) (.cons none none (.st 91 (.t x5x) (.t x16x)) .nil))))) (.seq (.reg (.cons 
  (some x6x) none (.mv (.c .ns)) .nil)) (.seq (.seq (.reg (.cons (some x17x) none (.ld 91 true (.t x5x)) (.cons (some x18x) none (.call 75 (.cons (.t x17x) .nil)) (.cons (some x7x) 
  none (.mv (.t x18x)) .nil)))) (.block 0 (.loop (.seq (.seq (.reg (.cons (some x19x) none (.mv (.t x7x)) (.cons (some x20x) none (.len (.t x19x)) (.cons (some x21x) none (.bin 
  .gtr (.t x20x) (.c (.n 0))) .nil)))) (.cond (.t x21x) .skip (.exit 0))) (.seq (.block 1 (.seq (.seq (.reg (.cons (some x24x) none (.mv (.t x7x)) (.cons (some x25x) none (.len (.t 
  x24x)) (.cons (some x26x) none (.mv (.c (.n 0))) .nil)))) (.block 2 (.loop (.seq (.reg (.cons (some x27x) none (.bin .lss (.t x26x) (.t x25x)) .nil)) (.seq (.cond (.t x27x) .skip 
  (.exit 2)) (.seq (.block 3 (.seq (.reg (.cons (some x28x) none (.ixs 1 (.t x24x) (.t x26x)) (.cons (some x29x) none (.ld 1 false (.t x28x)) (.cons (some x9x) none (.mv (.t x29x)) 
  .nil)))) (.reg (.cons (some x30x) none (.mv (.t x9x)) (.cons (some x31x) none (.build (.cons (.n 0) .nil) (.cons 0 1 (.t x30x) .nil)) (.cons (some x32x) none (.mki 105 (.t x31x)) 
  (.cons (some x33x) none (.call 76 (.cons (.t x5x) (.cons (.t x32x) .nil))) .nil))))))) (.reg (.cons (some x34x) none (.bin .add (.t x26x) (.c (.n 1))) (.cons (some x26x) none 
  (.mv (.t x34x)) .nil))))))))) (.reg (.cons (some x35x) none (.mv (.t x6x)) (.cons (some x36x) none (.mv (.t x7x)) (.cons (some x37x) none (.bsl 47 1 1 (.cons .ns .nil) (.cons 0 1 
  (.t x36x) .nil)) (.cons (some x38x) none (.app 47 1 24 (.t x35x) (.t x37x)) (.cons (some x6x) none (.mv (.t x38x)) .nil)))))))) (.reg (.cons (some x22x) none (.ld 91 true (.t 
  x5x)) (.cons (some x23x) none (.call 75 (.cons (.t x22x) .nil)) (.cons (some x7x) none (.mv (.t x23x)) .nil))))))))) (.seq (.reg (.cons (some x39x) none (.mv (.t x6x)) (.cons 
  (some x2x) none (.mv (.t x39x)) (.cons (some x3x) none (.mv (.c (.n 0))) .nil)))) .ret)))))) [(.tmp x2x), (.tmp x3x)])
theorem cc34 : compF Try.prog drops true false Try.f34 = some i34 := by kernel_rfl
noncomputable def i35 : FnI := (.mk true false (.seq (.reg (.cons (some x3x) none (.box 51 (.t x0x)) (.cons (some x5x) none (.box 65 (.t x2x)) (.cons (some x6x) none (.alloc 51 (.cons (.n 0) (.cons .ns .nil)) 2) 
  (.cons (some x7x) none (.mv (.c (.n 0))) .nil))))) (.seq (.seq (.reg (.cons (some x11x) none (.ld 2 true (.t x3x)) (.cons (some x12x) none (.call 40 (.cons (.t x11x) .nil)) 
  (.cons (some x8x) none (.mv (.t x12x)) .nil)))) (.seq (.reg (.cons (some x13x) none (.mv (.t x8x)) (.cons (some x14x) none (.bin .neq (.t x13x) (.c (.n 0))) .nil))) (.cond (.t 
  x14x) (.seq (.reg (.cons (some x15x) none (.build (.cons (.n 0) (.cons .ns .nil)) .nil) (.cons (some x16x) none (.mv (.t x8x)) (.cons none none (.st 2 (.t x6x) (.t x15x)) (.cons 
  (some x7x) none (.mv (.t x16x)) .nil))))) .ret) .skip))) (.seq (.seq (.reg (.cons (some x17x) none (.mv (.t x1x)) (.cons (some x18x) none (.bin .lss (.t x17x) (.c (.n 0))) (.cons 
  (some x19x) none (.mv (.t x18x)) (.cons (some x20x) (some (.mk x19x false)) (.mv (.t x1x)) (.cons (some x21x) (some (.mk x19x false)) (.fad 1 (.t x3x)) (.cons (some x22x) (some 
  (.mk x19x false)) (.ld 1 false (.t x21x)) (.cons (some x23x) (some (.mk x19x false)) (.len (.t x22x)) (.cons (some x24x) (some (.mk x19x false)) (.bin .geq (.t x20x) (.t x23x)) 
  (.cons (some x25x) none (.pick (.t x19x) (.c (.b true)) (.t x24x)) .nil)))))))))) (.cond (.t x25x) (.seq (.reg (.cons (some x26x) none (.build (.cons (.n 0) (.cons .ns .nil)) 
  .nil) (.cons none none (.st 2 (.t x6x) (.t x26x)) (.cons (some x7x) none (.mv (.c (.n 1))) .nil)))) .ret) .skip)) (.seq (.seq (.reg (.cons (some x27x) none (.fad 0 (.t x3x)) 
  (.cons (some x28x) none (.ld 1 false (.t x27x)) (.cons (some x29x) none (.ld 2 true (.t x5x)) (.cons (some x30x) none (.call 77 (.cons (.t x28x) (.cons (.t x29x) .nil))) (.cons 
  (some x9x) none (.mv (.t x30x)) .nil)))))) (.seq (.reg (.cons (some x31x) none (.mv (.t x9x)) (.cons (some x32x) none (.bin .neq (.t x31x) (.c (.n 0))) .nil))) (.cond (.t x32x) 
  (.seq (.reg (.cons (some x33x) none (.build (.cons (.n 0) (.cons .ns .nil)) .nil) (.cons (some x34x) none (.mv (.t x9x)) (.cons none none (.st 2 (.t x6x) (.t x33x)) (.cons (some 
  x7x) none (.mv (.t x34x)) .nil))))) .ret) .skip))) (.seq (.reg (.cons (some x35x) none (.ld 2 true (.t x3x)) (.cons (some x36x) none (.call 67 (.cons (.t x35x) .nil)) (.cons 
  (some x10x) none (.alloc 97 (.cons (.n 0) (.cons (.b false) (.cons (.b false) (.cons (.b false) (.cons (.b false) (.cons (.b false) (.cons (.b false) (.cons (.b false) (.cons (.b 
  false) (.cons (.b false) (.cons (.b false) (.cons (.b false) (.cons (.b false) (.cons (.b false) (.cons (.b false) (.cons (.b false) (.cons (.b false) (.cons (.b false) (.cons 
  (.b false) (.cons (.b false) (.cons (.b false) (.cons (.b false) (.cons (.b false) (.cons (.b false) (.cons (.b false) (.cons (.b false) (.cons (.b false) (.cons (.b false) 
  (.cons (.b false) (.cons (.b false) (.cons (.b false) (.cons (.b false) (.cons (.b false) (.cons (.b false) (.cons (.b false) (.cons (.b false) (.cons (.b false) (.cons (.b 
  false) (.cons (.b false) (.cons (.b false) (.cons (.b false) (.cons (.b false) (.cons (.b false) (.cons (.b false) (.cons (.b false) (.cons (.b false) (.cons (.b false) (.cons 
  (.b false) (.cons (.b false) (.cons (.b false) (.cons (.b false) (.cons (.b false) (.cons (.b false) (.cons (.b false) (.cons (.b false) (.cons (.b false) (.cons (.b false) 
  (.cons (.b false) (.cons (.b false) (.cons (.b false) (.cons (.b false) (.cons (.b false) (.cons (.b false) (.cons (.b false) (.cons (.b false) (.cons (.b false) (.cons (.b 
  false) (.cons (.b false) (.cons (.b false) (.cons (.b false) (.cons (.b false) (.cons (.b false) (.cons (.b false) (.cons (.b false) (.cons (.b false) (.cons (.b false) (.cons 
  (.b false) (.cons (.b false) (.cons (.b false) (.cons (.b false) (.cons (.b false) (.cons (.b false) (.cons (.b false) (.cons (.b false) (.cons (.b false) (.cons (.b false) 
  (.cons (.b false) (.cons (.b false) (.cons (.b false) (.cons (.b false) (.cons (.b false) 
  .nil))))))))))))))))))))))))))))))))))))))))))))))))))))))))))))))))))))))))))))))))))))))))))) 91) (.cons none none (.st 91 (.t x10x) (.t x36x)) .nil))))) (.seq (.reg (.cons 
  (some x37x) none (.fad 1 (.t x3x)) (.cons (some x38x) none (.ld 1 false (.t x37x)) (.cons (some x39x) none (.mv (.t x1x)) (.cons (some x40x) none (.ixs 2 (.t x38x) (.t x39x)) 
  (.cons (some x41x) none (.ld 2 true (.t x40x)) (.cons (some x42x) none (.build (.cons (.n 0) (.cons (.n 0) .nil)) (.cons 0 2 (.t x41x) .nil)) (.cons (some x43x) none (.mki 108 
  (.t x42x)) (.cons (some x44x) none (.call 76 (.cons (.t x10x) (.cons (.t x43x) .nil))) .nil))))))))) (.seq (.reg (.cons (some x45x) none (.ld 2 true (.t x5x)) (.cons (some x46x) 
  none (.build (.cons (.n 0) (.cons (.n 0) .nil)) (.cons 0 2 (.t x45x) .nil)) (.cons (some x47x) none (.mki 109 (.t x46x)) (.cons (some x48x) none (.call 76 (.cons (.t x10x) (.cons 
  (.t x47x) .nil))) .nil))))) (.seq (.seq (.reg (.cons (some x49x) none (.ld 91 true (.t x10x)) (.cons (some x50x) none (.call 78 (.cons (.t x49x) .nil)) (.cons (some x51x) none 
  (.not (.t x50x)) .nil)))) (.cond (.t x51x) (.seq (.reg (.cons (some x52x) none (.build (.cons (.n 0) (.cons .ns .nil)) .nil) (.cons none none (.st 2 (.t x6x) (.t x52x)) (.cons 
  (some x7x) none (.mv (.c (.n 12))) .nil)))) .ret) .skip)) (.seq (.reg (.cons (some x53x) none (.ld 91 true (.t x10x)) (.cons (some x54x) none (.call 68 (.cons (.t x53x) .nil)) 
  (.cons none none (.st 2 (.t x6x) (.t x54x)) (.cons (some x7x) none (.mv (.c (.n 0))) .nil))))) .ret))))))))) [(.cell x6x 2 true), (.tmp x7x)])
theorem cc35 : compF Try.prog drops true false Try.f35 = some i35 := by kernel_rfl
noncomputable def i36 : FnI := (.mk true true (.seq (.reg (.cons (some x2x) none (.box 51 (.t x0x)) (.cons (some x3x) none (.box 51 (.t x1x)) (.cons (some x4x) none (.mv (.c (.b false))) (.cons (some x5x) none 
  (.mv (.c (.n 0))) .nil))))) (.seq (.seq (.reg (.cons (some x9x) none (.ld 2 true (.t x2x)) (.cons (some x10x) none (.ld 2 true (.t x3x)) (.cons (some x11x) none (.bsl 51 2 2 
  (.cons (.n 0) (.cons .ns (.cons (.n 0) (.cons .ns .nil)))) (.cons 0 2 (.t x9x) (.cons 2 2 (.t x10x) .nil))) (.cons (some x12x) none (.len (.t x11x)) (.cons (some x13x) none (.mv 
  (.c (.n 0))) .nil)))))) (.block 0 (.loop (.seq (.reg (.cons (some x14x) none (.bin .lss (.t x13x) (.t x12x)) .nil)) (.seq (.cond (.t x14x) .skip (.exit 0)) (.seq (.block 1 (.seq 
  (.reg (.cons (some x15x) none (.ixs 2 (.t x11x) (.t x13x)) (.cons (some x16x) none (.ld 2 true (.t x15x)) (.cons (some x7x) none (.alloc 51 (.cons (.n 0) (.cons .ns .nil)) 2) 
  (.cons none none (.st 2 (.t x7x) (.t x16x)) .nil))))) (.seq (.reg (.cons (some x17x) none (.ld 2 true (.t x7x)) (.cons (some x18x) none (.call 40 (.cons (.t x17x) .nil)) (.cons 
  (some x8x) none (.mv (.t x18x)) .nil)))) (.seq (.reg (.cons (some x19x) none (.mv (.t x8x)) (.cons (some x20x) none (.bin .neq (.t x19x) (.c (.n 0))) .nil))) (.cond (.t x20x) 
  (.seq (.reg (.cons (some x21x) none (.mv (.t x8x)) (.cons (some x4x) none (.mv (.c (.b false))) (.cons (some x5x) none (.mv (.t x21x)) .nil)))) .ret) .skip))))) (.reg (.cons 
  (some x22x) none (.bin .add (.t x13x) (.c (.n 1))) (.cons (some x13x) none (.mv (.t x22x)) .nil))))))))) (.seq (.draw [(.mk (some x23x) none false [] false [] [] [x2x] (.ld 2 
  true (.t x2x)) false [] [] []), (.mk (some x24x) none false [] false [true] [] [x23x] (.call 67 (.cons (.t x23x) .nil)) false [] [] []), (.mk (some x25x) none false [] false 
  [true, true] [] [x24x] (.call 79 (.cons (.t x24x) .nil)) false [] [] []), (.mk (some x26x) none false [] false [false, false, false] [] [x3x] (.ld 2 true (.t x3x)) false [] [] 
  []), (.mk (some x27x) none false [] false [true, true, true, true] [] [x26x] (.call 67 (.cons (.t x26x) .nil)) false [] [] []), (.mk (some x28x) none false [] false [true, true, 
  true, true, true] [] [x27x] (.call 79 (.cons (.t x27x) .nil)) false [] [] []), (.mk (some x29x) none true [] false [true, true, true, true, true, true] [] [x25x, x28x] (.sbi .eql 
  (.t x25x) (.t x28x)) false [] [] []), (.mk (some x4x) none true [] false [true, true, true, true, true, true, true] [] [x29x] (.mv (.t x29x)) false [] [] []), (.mk (some x5x) 
  none true [] false [true, true, true, true, true, true, true, true] [] [] (.mv (.c (.n 0))) false [] [] [])]) .ret))) [(.tmp x4x), (.tmp x5x)])
theorem cc36 : compF Try.prog drops true true Try.f36 = some i36 := by kernel_rfl
noncomputable def i37 : FnI := (.mk true true (.seq (.reg (.cons (some x4x) none (.mv (.c (.b false))) .nil)) (.seq (.seq (.reg (.cons (some x6x) none (.mv (.t x0x)) (.cons (some x7x) none (.len (.t x6x)) (.cons 
  (some x8x) none (.mv (.t x1x)) (.cons (some x9x) none (.len (.t x8x)) (.cons (some x10x) none (.bin .neq (.t x7x) (.t x9x)) .nil)))))) (.cond (.t x10x) (.seq (.reg (.cons (some 
  x4x) none (.mv (.c (.b false))) .nil)) .ret) .skip)) (.seq (.seq (.reg (.cons (some x5x) none (.mv (.c (.n 0))) .nil)) (.block 0 (.loop (.seq (.seq (.reg (.cons (some x11x) none 
  (.mv (.t x5x)) (.cons (some x12x) none (.mv (.t x0x)) (.cons (some x13x) none (.len (.t x12x)) (.cons (some x14x) none (.bin .lss (.t x11x) (.t x13x)) .nil))))) (.cond (.t x14x) 
  .skip (.exit 0))) (.seq (.block 1 (.seq (.draw [(.mk (some x17x) none true [] false [] [] [x0x] (.mv (.t x0x)) false [] [] []), (.mk (some x18x) none true [] false [false] [] 
  [x5x] (.mv (.t x5x)) false [] [] []), (.mk (some x19x) none true [] false [true, true] [] [x17x, x18x] (.ixs 1 (.t x17x) (.t x18x)) false [] [] []), (.mk (some x20x) none false 
  [] false [true, true, true] [] [x19x] (.ld 1 false (.t x19x)) false [] [] []), (.mk (some x21x) none true [] false [false, false, false, false] [] [x1x] (.mv (.t x1x)) false [] 
  [] []), (.mk (some x22x) none true [] false [false, false, false, false, false] [] [x5x] (.mv (.t x5x)) false [] [] []), (.mk (some x23x) none true [] false [true, true, false, 
  false, false, false] [] [x21x, x22x] (.ixs 1 (.t x21x) (.t x22x)) false [] [] []), (.mk (some x24x) none false [] false [true, true, true, false, false, false, false] [] [x23x] 
  (.ld 1 false (.t x23x)) false [] [] []), (.mk (some x25x) none true [] false [true, true, true, true, true, true, true, true] [] [x20x, x24x] (.bin .neq (.t x20x) (.t x24x)) 
  false [] [] [])]) (.cond (.t x25x) (.seq (.reg (.cons (some x4x) none (.mv (.c (.b false))) .nil)) .ret) .skip))) (.reg (.cons (some x15x) none (.mv (.t x5x)) (.cons (some x16x) 
  none (.bin .add (.t x15x) (.c (.n 1))) (.cons (some x5x) none (.mv (.t x16x)) .nil))))))))) (.seq (.reg (.cons (some x4x) none (.mv (.c (.b true))) .nil)) .ret)))) [(.tmp x4x)])
theorem cc37 : compF Try.prog drops true true Try.f37 = some i37 := by kernel_rfl
noncomputable def i38 : FnI := (.mk true true (.seq (.reg (.cons (some x4x) none (.mv (.c (.b false))) .nil)) (.seq (.seq (.reg (.cons (some x6x) none (.mv (.t x0x)) (.cons (some x7x) none (.len (.t x6x)) (.cons 
  (some x8x) none (.mv (.t x1x)) (.cons (some x9x) none (.len (.t x8x)) (.cons (some x10x) none (.bin .neq (.t x7x) (.t x9x)) .nil)))))) (.cond (.t x10x) (.seq (.reg (.cons (some 
  x4x) none (.mv (.c (.b false))) .nil)) .ret) .skip)) (.seq (.seq (.reg (.cons (some x5x) none (.mv (.c (.n 0))) .nil)) (.block 0 (.loop (.seq (.seq (.reg (.cons (some x11x) none 
  (.mv (.t x5x)) (.cons (some x12x) none (.mv (.t x0x)) (.cons (some x13x) none (.len (.t x12x)) (.cons (some x14x) none (.bin .lss (.t x11x) (.t x13x)) .nil))))) (.cond (.t x14x) 
  .skip (.exit 0))) (.seq (.block 1 (.seq (.draw [(.mk (some x17x) none true [] false [] [] [x0x] (.mv (.t x0x)) false [] [] []), (.mk (some x18x) none true [] false [false] [] 
  [x5x] (.mv (.t x5x)) false [] [] []), (.mk (some x19x) none true [] false [true, true] [] [x17x, x18x] (.ixs 2 (.t x17x) (.t x18x)) false [] [] []), (.mk (some x20x) none false 
  [] false [true, true, true] [] [x19x] (.ld 2 true (.t x19x)) false [] [] []), (.mk (some x21x) none true [] false [false, false, false, false] [] [x1x] (.mv (.t x1x)) false [] [] 
  []), (.mk (some x22x) none true [] false [false, false, false, false, false] [] [x5x] (.mv (.t x5x)) false [] [] []), (.mk (some x23x) none true [] false [true, true, false, 
  false, false, false] [] [x21x, x22x] (.ixs 2 (.t x21x) (.t x22x)) false [] [] []), (.mk (some x24x) none false [] false [true, true, true, false, false, false, false] [] [x23x] 
  (.ld 2 true (.t x23x)) false [] [] []), (.mk (some x25x) none true [] false [true, true, true, true, true, true, true, true] [] [x20x, x24x] (.eqa true (.ar 2 1 false .int) (.t 
  x20x) (.t x24x)) false [] [] [])]) (.cond (.t x25x) (.seq (.reg (.cons (some x4x) none (.mv (.c (.b false))) .nil)) .ret) .skip))) (.reg (.cons (some x15x) none (.mv (.t x5x)) 
  (.cons (some x16x) none (.bin .add (.t x15x) (.c (.n 1))) (.cons (some x5x) none (.mv (.t x16x)) .nil))))))))) (.seq (.reg (.cons (some x4x) none (.mv (.c (.b true))) .nil)) 
  .ret)))) [(.tmp x4x)])
theorem cc38 : compF Try.prog drops true true Try.f38 = some i38 := by kernel_rfl
noncomputable def i39 : FnI := (.mk true true (.seq (.reg (.cons (some x4x) none (.mv (.c (.b false))) .nil)) (.seq (.seq (.reg (.cons (some x6x) none (.mv (.t x0x)) (.cons (some x7x) none (.len (.t x6x)) (.cons 
  (some x8x) none (.mv (.t x1x)) (.cons (some x9x) none (.len (.t x8x)) (.cons (some x10x) none (.bin .neq (.t x7x) (.t x9x)) .nil)))))) (.cond (.t x10x) (.seq (.reg (.cons (some 
  x4x) none (.mv (.c (.b false))) .nil)) .ret) .skip)) (.seq (.seq (.reg (.cons (some x5x) none (.mv (.c (.n 0))) .nil)) (.block 0 (.loop (.seq (.seq (.reg (.cons (some x11x) none 
  (.mv (.t x5x)) (.cons (some x12x) none (.mv (.t x0x)) (.cons (some x13x) none (.len (.t x12x)) (.cons (some x14x) none (.bin .lss (.t x11x) (.t x13x)) .nil))))) (.cond (.t x14x) 
  .skip (.exit 0))) (.seq (.block 1 (.seq (.draw [(.mk (some x17x) none true [] false [] [] [x0x] (.mv (.t x0x)) false [] [] []), (.mk (some x18x) none true [] false [false] [] 
  [x5x] (.mv (.t x5x)) false [] [] []), (.mk (some x19x) none true [] false [true, true] [] [x17x, x18x] (.ixs 1 (.t x17x) (.t x18x)) false [] [] []), (.mk (some x20x) none false 
  [] false [true, true, true] [] [x19x] (.ld 1 false (.t x19x)) false [] [] []), (.mk (some x21x) none true [] false [false, false, false, false] [] [x1x] (.mv (.t x1x)) false [] 
  [] []), (.mk (some x22x) none true [] false [false, false, false, false, false] [] [x5x] (.mv (.t x5x)) false [] [] []), (.mk (some x23x) none true [] false [true, true, false, 
  false, false, false] [] [x21x, x22x] (.ixs 1 (.t x21x) (.t x22x)) false [] [] []), (.mk (some x24x) none false [] false [true, true, true, false, false, false, false] [] [x23x] 
  (.ld 1 false (.t x23x)) false [] [] []), (.mk (some x25x) none false [] false [true, true, true, true, true, true, true, true] [] [x20x, x24x] (.call 37 (.cons (.t x20x) (.cons 
  (.t x24x) .nil))) false [] [] []), (.mk (some x26x) none true [] false [true, true, true, true, true, true, true, true, true] [] [x25x] (.not (.t x25x)) false [] [] [])]) (.cond 
  (.t x26x) (.seq (.reg (.cons (some x4x) none (.mv (.c (.b false))) .nil)) .ret) .skip))) (.reg (.cons (some x15x) none (.mv (.t x5x)) (.cons (some x16x) none (.bin .add (.t x15x) 
  (.c (.n 1))) (.cons (some x5x) none (.mv (.t x16x)) .nil))))))))) (.seq (.reg (.cons (some x4x) none (.mv (.c (.b true))) .nil)) .ret)))) [(.tmp x4x)])
theorem cc39 : compF Try.prog drops true true Try.f39 = some i39 := by kernel_rfl
noncomputable def i40 : FnI := (.mk true true (.seq (.reg (.cons (some x1x) none (.box 51 (.t x0x)) (.cons (some x2x) none (.mv (.c (.n 0))) .nil))) (.seq (.seq (.reg (.cons (some x7x) none (.fad 0 (.t x1x)) 
  (.cons (some x8x) none (.ld 1 false (.t x7x)) (.cons (some x9x) none (.call 63 (.cons (.t x8x) .nil)) (.cons (some x10x) none (.not (.t x9x)) .nil))))) (.cond (.t x10x) (.seq 
  (.reg (.cons (some x2x) none (.mv (.c (.n 1))) .nil)) .ret) .skip)) (.seq (.reg (.cons (some x11x) none (.fad 0 (.t x1x)) (.cons (some x12x) none (.ld 1 false (.t x11x)) (.cons 
  (some x13x) none (.call 80 (.cons (.t x12x) .nil)) (.cons (some x3x) none (.alloc 97 (.cons (.n 0) (.cons (.b false) (.cons (.b false) (.cons (.b false) (.cons (.b false) (.cons 
  (.b false) (.cons (.b false) (.cons (.b false) (.cons (.b false) (.cons (.b false) (.cons (.b false) (.cons (.b false) (.cons (.b false) (.cons (.b false) (.cons (.b false) 
  (.cons (.b false) (.cons (.b false) (.cons (.b false) (.cons (.b false) (.cons (.b false) (.cons (.b false) (.cons (.b false) (.cons (.b false) (.cons (.b false) (.cons (.b 
  false) (.cons (.b false) (.cons (.b false) (.cons (.b false) (.cons (.b false) (.cons (.b false) (.cons (.b false) (.cons (.b false) (.cons (.b false) (.cons (.b false) (.cons 
  (.b false) (.cons (.b false) (.cons (.b false) (.cons (.b false) (.cons (.b false) (.cons (.b false) (.cons (.b false) (.cons (.b false) (.cons (.b false) (.cons (.b false) 
  (.cons (.b false) (.cons (.b false) (.cons (.b false) (.cons (.b false) (.cons (.b false) (.cons (.b false) (.cons (.b false) (.cons (.b false) (.cons (.b false) (.cons (.b 
  false) (.cons (.b false) (.cons (.b false) (.cons (.b false) (.cons (.b false) (.cons (.b false) (.cons (.b false) (.cons (.b false) (.cons (.b false) (.cons (.b false) (.cons 
  (.b false) (.cons (.b false) (.cons (.b false) (.cons (.b false) (.cons (.b false) (.cons (.b false) (.cons (.b false) (.cons (.b false) (.cons (.b false) (.cons (.b false) 
  (.cons (.b false) (.cons (.b false) (.cons (.b false) (.cons (.b false) (.cons (.b false) (.cons (.b false) (.cons (.b false) (.cons (.b false) (.cons (.b false) (.cons (.b 
  false) (.cons (.b false) (.cons (.b false) (.cons (.b false) (.cons (.b false) (.cons (.b false) (.cons (.b false) (.cons (.b false) (.cons (.b false) 
  .nil))))))))))))))))))))))))))))))))))))))))))))))))))))))))))))))))))))))))))))))))))))))))))) 91) (.cons none none (.st 91 (.t x3x) (.t x13x)) .nil)))))) (.seq (.seq (.reg 
  (.cons (some x14x) none (.fad 1 (.t x1x)) (.cons (some x15x) none (.ld 1 false (.t x14x)) (.cons (some x16x) none (.len (.t x15x)) (.cons (some x17x) none (.mv (.c (.n 0))) 
  .nil))))) (.block 0 (.loop (.seq (.reg (.cons (some x18x) none (.bin .lss (.t x17x) (.t x16x)) .nil)) (.seq (.cond (.t x18x) .skip (.exit 0)) (.seq (.block 1 (.seq (.reg (.cons 
  (some x19x) none (.ixs 2 (.t x15x) (.t x17x)) (.cons (some x20x) none (.ld 2 true (.t x19x)) (.cons (some x5x) none (.alloc 65 (.cons (.n 0) (.cons (.n 0) .nil)) 2) (.cons none 
  none (.st 2 (.t x5x) (.t x20x)) .nil))))) (.seq (.seq (.reg (.cons (some x21x) none (.fad 0 (.t x1x)) (.cons (some x22x) none (.ld 1 false (.t x21x)) (.cons (some x23x) none (.ld 
  2 true (.t x5x)) (.cons (some x24x) none (.call 77 (.cons (.t x22x) (.cons (.t x23x) .nil))) (.cons (some x6x) none (.mv (.t x24x)) .nil)))))) (.seq (.reg (.cons (some x25x) none 
  (.mv (.t x6x)) (.cons (some x26x) none (.bin .neq (.t x25x) (.c (.n 0))) .nil))) (.cond (.t x26x) (.seq (.reg (.cons (some x27x) none (.mv (.t x6x)) (.cons (some x2x) none (.mv 
  (.t x27x)) .nil))) .ret) .skip))) (.seq (.seq (.reg (.cons (some x28x) none (.ld 91 true (.t x3x)) (.cons (some x29x) none (.ld 2 true (.t x5x)) (.cons (some x30x) none (.call 81 
  (.cons (.t x28x) (.cons (.t x29x) .nil))) .nil)))) (.cond (.t x30x) (.seq (.reg (.cons (some x2x) none (.mv (.c (.n 6))) .nil)) .ret) .skip)) (.reg (.cons (some x31x) none (.ld 2 
  true (.t x5x)) (.cons (some x32x) none (.build (.cons (.n 0) (.cons (.n 0) .nil)) (.cons 0 2 (.t x31x) .nil)) (.cons (some x33x) none (.mki 109 (.t x32x)) (.cons (some x34x) none 
  (.call 76 (.cons (.t x3x) (.cons (.t x33x) .nil))) .nil))))))))) (.reg (.cons (some x35x) none (.bin .add (.t x17x) (.c (.n 1))) (.cons (some x17x) none (.mv (.t x35x)) 
  .nil))))))))) (.seq (.block 2 (.seq (.reg (.cons (some x37x) none (.fad 1 (.t x1x)) (.cons (some x38x) none (.ld 1 false (.t x37x)) (.cons (some x39x) none (.len (.t x38x)) 
  (.cons (some x40x) none (.fad 0 (.t x1x)) (.cons (some x41x) none (.ld 1 false (.t x40x)) (.cons (some x42x) none (.bin .geq (.t x39x) (.t x41x)) (.cons (some x36x) none (.mv (.t 
  x42x)) .nil)))))))) (.cond (.t x36x) (.seq (.reg (.cons (some x2x) none (.mv (.c (.n 3))) .nil)) .ret) (.seq (.reg (.cons (some x44x) none (.ld 91 true (.t x3x)) (.cons (some 
  x45x) none (.call 78 (.cons (.t x44x) .nil)) (.cons (some x46x) none (.not (.t x45x)) (.cons (some x43x) none (.mv (.t x46x)) .nil))))) (.cond (.t x43x) (.seq (.reg (.cons (some 
  x2x) none (.mv (.c (.n 21))) .nil)) .ret) .skip))))) (.seq (.reg (.cons (some x2x) none (.mv (.c (.n 0))) .nil)) .ret)))))) [(.tmp x2x)])
theorem cc40 : compF Try.prog drops true true Try.f40 = some i40 := by kernel_rfl
noncomputable def i41 : FnI := (compF Try.prog drops true true Try.f41).getD (.mk false false .skip [])
theorem cc41 : compF Try.prog drops true true Try.f41 = some i41 := by kernel_rfl
noncomputable def i42 : FnI := (.mk true true (.seq (.reg (.cons (some x2x) none (.mv (.c (.b false))) .nil)) (.seq (.reg (.cons (some x3x) none (.mv (.t x0x)) (.cons (some x4x) none (.bin .geq (.t x3x) (.c (.n 
  1))) (.cons (some x5x) none (.mv (.t x4x)) (.cons (some x6x) (some (.mk x5x true)) (.mv (.t x0x)) (.cons (some x7x) (some (.mk x5x true)) (.bin .leq (.t x6x) (.c (.n 4))) (.cons 
  (some x8x) none (.pick (.t x5x) (.t x7x) (.c (.b false))) (.cons (some x2x) none (.mv (.t x8x)) .nil)))))))) .ret)) [(.tmp x2x)])
theorem cc42 : compF Try.prog drops true true Try.f42 = some i42 := by kernel_rfl
noncomputable def i43 : FnI := (.mk true false (.seq (.reg (.cons (some x3x) none (.box 9 (.t x0x)) (.cons (some x4x) none (.box 9 (.t x1x)) (.cons (some x5x) none (.box 3 (.t x2x)) (.cons (some x6x) none (.mv 
  (.c .nf)) .nil))))) (.seq (.reg (.cons (some x7x) none (.mkf 84 .nil (.cons (.t x3x) (.cons (.t x4x) (.cons (.t x5x) .nil)))) (.cons (some x6x) none (.mv (.t x7x)) .nil))) .ret)) 
  [(.tmp x6x)])
theorem cc43 : compF Try.prog drops true false Try.f43 = some i43 := by kernel_rfl
noncomputable def i44 : FnI := (.mk true true (.seq (.reg (.cons (some x2x) none (.mv (.c (.s []))) .nil)) (.seq (.reg (.cons (some x3x) none (.mv (.t x0x)) (.cons (some x4x) none (.ssl (.c (.s [97, 98, 99, 
  100])) none (some (.t x3x))) (.cons (some x2x) none (.mv (.t x4x)) .nil)))) .ret)) [(.tmp x2x)])
theorem cc44 : compF Try.prog drops true true Try.f44 = some i44 := by kernel_rfl
noncomputable def i45 : FnI := (.mk true true (.seq (.reg (.cons (some x2x) none (.mv (.c (.s []))) .nil)) (.seq (.reg (.cons (some x3x) none (.mv (.t x0x)) (.cons (some x4x) none (.ssl (.c (.s [97, 98, 99, 
  100])) (some (.t x3x)) none) (.cons (some x5x) none (.ssl (.t x4x) none (some (.c (.n 1)))) (.cons (some x2x) none (.mv (.t x5x)) .nil))))) .ret)) [(.tmp x2x)])
theorem cc45 : compF Try.prog drops true true Try.f45 = some i45 := by kernel_rfl
noncomputable def i46 : FnI := (.mk true true (.seq (.reg (.cons (some x4x) none (.mv (.c (.n 0))) .nil)) (.seq (.seq (.reg (.cons (some x6x) none (.mv (.t x0x)) (.cons (some x7x) none (.call 21 (.cons (.t x6x) 
  .nil)) (.cons (some x5x) none (.mv (.t x7x)) .nil)))) (.seq (.reg (.cons (some x8x) none (.mv (.t x5x)) (.cons (some x9x) none (.bin .neq (.t x8x) (.c (.n 0))) .nil))) (.cond (.t 
  x9x) (.seq (.reg (.cons (some x10x) none (.mv (.t x5x)) (.cons (some x4x) none (.mv (.t x10x)) .nil))) .ret) .skip))) (.seq (.seq (.reg (.cons (some x11x) none (.mv (.t x1x)) 
  (.cons (some x12x) none (.call 42 (.cons (.t x11x) .nil)) (.cons (some x13x) none (.not (.t x12x)) .nil)))) (.cond (.t x13x) (.seq (.reg (.cons (some x4x) none (.mv (.c (.n 1))) 
  .nil)) .ret) .skip)) (.seq (.seq (.reg (.cons (some x14x) none (.mv (.t x0x)) (.cons (some x15x) none (.mv (.t x1x)) (.cons (some x16x) none (.call 44 (.cons (.t x15x) .nil)) 
  (.cons (some x17x) none (.call 58 (.cons (.t x14x) (.cons (.t x16x) .nil))) (.cons (some x18x) none (.not (.t x17x)) .nil)))))) (.cond (.t x18x) (.seq (.reg (.cons (some x4x) 
  none (.mv (.c (.n 2))) .nil)) .ret) .skip)) (.seq (.seq (.reg (.cons (some x19x) none (.mv (.t x0x)) (.cons (some x20x) none (.call 61 (.cons (.t x19x) .nil)) (.cons (some x21x) 
  none (.not (.t x20x)) .nil)))) (.cond (.t x21x) (.seq (.reg (.cons (some x4x) none (.mv (.c (.n 14))) .nil)) .ret) .skip)) (.seq (.reg (.cons (some x4x) none (.mv (.c (.n 0))) 
  .nil)) .ret)))))) [(.tmp x4x)])
theorem cc46 : compF Try.prog drops true true Try.f46 = some i46 := by kernel_rfl
noncomputable def i47 : FnI := (.mk true true (.seq (.reg (.cons (some x2x) none (.mv (.c (.b false))) (.cons (some x3x) none (.mv (.c (.n 0))) .nil))) (.seq (.seq (.reg (.cons (some x5x) none (.mv (.t x0x)) 
  (.cons (some x6x) none (.call 21 (.cons (.t x5x) .nil)) (.cons (some x4x) none (.mv (.t x6x)) .nil)))) (.seq (.reg (.cons (some x7x) none (.mv (.t x4x)) (.cons (some x8x) none 
  (.bin .neq (.t x7x) (.c (.n 0))) .nil))) (.cond (.t x8x) (.seq (.reg (.cons (some x9x) none (.mv (.t x4x)) (.cons (some x2x) none (.mv (.c (.b false))) (.cons (some x3x) none 
  (.mv (.t x9x)) .nil)))) .ret) .skip))) (.seq (.reg (.cons (some x10x) none (.mv (.t x0x)) (.cons (some x11x) none (.call 61 (.cons (.t x10x) .nil)) (.cons (some x2x) none (.mv 
  (.t x11x)) (.cons (some x3x) none (.mv (.c (.n 0))) .nil))))) .ret))) [(.tmp x2x), (.tmp x3x)])
theorem cc47 : compF Try.prog drops true true Try.f47 = some i47 := by kernel_rfl
noncomputable def i48 : FnI := (.mk true true (.seq (.reg (.cons (some x2x) none (.mv (.c (.n 0))) (.cons (some x3x) none (.mv (.c (.n 0))) .nil))) (.seq (.seq (.reg (.cons (some x6x) none (.mv (.t x0x)) (.cons 
  (some x7x) none (.rng (.t x6x)) .nil))) (.block 0 (.loop (.seq (.reg (.cons (some x8x) none (.nxt (.t x7x)) (.cons (some x9x) none (.ext 0 (.t x8x)) .nil))) (.seq (.cond (.t x9x) 
  .skip (.exit 0)) (.block 1 (.seq (.reg (.cons (some x10x) none (.ext 1 (.t x8x)) (.cons (some x4x) none (.mv (.t x10x)) .nil))) (.seq (.reg (.cons (some x11x) none (.mv (.t x0x)) 
  (.cons (some x12x) none (.mv (.t x4x)) (.cons (some x13x) none (.bin .add (.t x12x) (.c (.n 1))) (.cons (some x14x) none (.ssl (.t x11x) none (some (.t x13x))) (.cons (some x15x) 
  none (.call 86 (.cons (.t x14x) .nil)) (.cons (some x5x) none (.mv (.t x15x)) .nil))))))) (.seq (.reg (.cons (some x16x) none (.mv (.t x5x)) (.cons (some x17x) none (.bin .gtr 
  (.t x16x) (.c (.n 0))) .nil))) (.cond (.t x17x) (.seq (.reg (.cons (some x18x) none (.mv (.t x4x)) (.cons (some x19x) none (.bin .add (.t x18x) (.c (.n 1))) (.cons (some x20x) 
  none (.mv (.t x5x)) (.cons (some x21x) none (.bin .mul (.c (.n 2)) (.t x20x)) (.cons (some x22x) none (.bin .sub (.t x19x) (.t x21x)) (.cons (some x23x) none (.mv (.t x5x)) 
  (.cons (some x2x) none (.mv (.t x22x)) (.cons (some x3x) none (.mv (.t x23x)) .nil))))))))) .ret) .skip)))))))))) (.seq (.reg (.cons (some x2x) none (.mv (.c (.n 0))) (.cons 
  (some x3x) none (.mv (.c (.n 0))) .nil))) .ret))) [(.tmp x2x), (.tmp x3x)])
theorem cc48 : compF Try.prog drops true true Try.f48 = some i48 := by kernel_rfl
noncomputable def i50 : FnI := (.mk true true (.seq (.reg (.cons (some x1x) none (.box 39 (.t x0x)) (.cons (some x2x) none (.mv (.c (.n 0))) .nil))) (.seq (.seq (.reg (.cons (some x5x) none (.fad 0 (.t x1x)) 
  (.cons (some x6x) none (.ld 1 false (.t x5x)) (.cons (some x7x) none (.len (.t x6x)) (.cons (some x8x) none (.bin .eql (.t x7x) (.c (.n 0))) .nil))))) (.cond (.t x8x) (.seq (.reg 
  (.cons (some x2x) none (.mv (.c (.n 4))) .nil)) .ret) .skip)) (.seq (.seq (.reg (.cons (some x9x) none (.fad 0 (.t x1x)) (.cons (some x10x) none (.ld 1 false (.t x9x)) (.cons 
  (some x11x) none (.len (.t x10x)) (.cons (some x12x) none (.call 42 (.cons (.t x11x) .nil)) (.cons (some x13x) none (.not (.t x12x)) .nil)))))) (.cond (.t x13x) (.seq (.reg 
  (.cons (some x2x) none (.mv (.c (.n 3))) .nil)) .ret) .skip)) (.seq (.seq (.reg (.cons (some x14x) none (.fad 0 (.t x1x)) (.cons (some x15x) none (.ld 1 false (.t x14x)) (.cons 
  (some x16x) none (.len (.t x15x)) (.cons (some x17x) none (.mv (.c (.n 0))) .nil))))) (.block 0 (.loop (.seq (.reg (.cons (some x18x) none (.bin .lss (.t x17x) (.t x16x)) .nil)) 
  (.seq (.cond (.t x18x) .skip (.exit 0)) (.seq (.block 1 (.seq (.reg (.cons (some x19x) none (.ixs 1 (.t x15x) (.t x17x)) (.cons (some x20x) none (.ld 1 false (.t x19x)) (.cons 
  (some x4x) none (.mv (.t x20x)) .nil)))) (.seq (.seq (.reg (.cons (some x21x) none (.mv (.t x4x)) (.cons (some x22x) none (.sbi .eql (.t x21x) (.c (.s []))) (.cons (some x23x) 
  none (.mv (.t x22x)) (.cons (some x24x) (some (.mk x23x false)) (.mv (.t x4x)) (.cons (some x25x) (some (.mk x23x false)) (.slen (.t x24x)) (.cons (some x26x) (some (.mk x23x 
  false)) (.bin .gtr (.t x25x) (.c (.n 13))) (.cons (some x27x) none (.pick (.t x23x) (.c (.b true)) (.t x26x)) (.cons (some x28x) none (.mv (.t x27x)) (.cons (some x29x) (some 
  (.mk x28x false)) (.mv (.t x4x)) (.cons (some x30x) (some (.mk x28x false)) (.slen (.t x29x)) (.cons (some x31x) (some (.mk x28x false)) (.ld 1 true (.t x1x)) (.cons (some x32x) 
  (some (.mk x28x false)) (.call 56 (.cons (.t x31x) .nil)) (.cons (some x33x) (some (.mk x28x false)) (.bin .neq (.t x30x) (.t x32x)) (.cons (some x34x) none (.pick (.t x28x) (.c 
  (.b true)) (.t x33x)) .nil))))))))))))))) (.cond (.t x34x) (.seq (.reg (.cons (some x2x) none (.mv (.c (.n 5))) .nil)) .ret) .skip)) (.seq (.reg (.cons (some x35x) none (.mv (.t 
  x4x)) (.cons (some x36x) none (.call 58 (.cons (.t x35x) (.cons (.c (.s [97, 98, 99, 100])) .nil))) (.cons (some x37x) none (.not (.t x36x)) .nil)))) (.cond (.t x37x) (.seq (.reg 
  (.cons (some x2x) none (.mv (.c (.n 10))) .nil)) .ret) .skip))))) (.reg (.cons (some x38x) none (.bin .add (.t x17x) (.c (.n 1))) (.cons (some x17x) none (.mv (.t x38x)) 
  .nil))))))))) (.seq (.reg (.cons (some x2x) none (.mv (.c (.n 0))) .nil)) .ret))))) [(.tmp x2x)])
theorem cc50 : compF Try.prog drops true true Try.f50 = some i50 := by kernel_rfl
noncomputable def i51 : FnI := (compF Try.prog drops true true Try.f51).getD (.mk false false .skip [])
theorem cc51 : compF Try.prog drops true true Try.f51 = some i51 := by kernel_rfl
noncomputable def i52 : FnI := (.mk true true (.seq (.reg (.cons (some x1x) none (.box 39 (.t x0x)) (.cons (some x2x) none (.mv (.c (.b false))) .nil))) (.seq (.reg (.cons (some x3x) none (.ld 1 true (.t x1x)) 
  (.cons (some x4x) none (.call 56 (.cons (.t x3x) .nil)) (.cons (some x5x) none (.bin .gtr (.t x4x) (.c (.n 1))) (.cons (some x6x) none (.mv (.t x5x)) (.cons (some x7x) (some (.mk 
  x6x true)) (.fad 0 (.t x1x)) (.cons (some x8x) (some (.mk x6x true)) (.ld 1 false (.t x7x)) (.cons (some x9x) (some (.mk x6x true)) (.ixs 1 (.t x8x) (.c (.n 0))) (.cons (some 
  x10x) (some (.mk x6x true)) (.ld 1 false (.t x9x)) (.cons (some x11x) (some (.mk x6x true)) (.call 89 (.cons (.t x10x) (.cons (.c (.s [97])) .nil))) (.cons (some x12x) none 
  (.pick (.t x6x) (.t x11x) (.c (.b false))) (.cons (some x2x) none (.mv (.t x12x)) .nil)))))))))))) .ret)) [(.tmp x2x)])
theorem cc52 : compF Try.prog drops true true Try.f52 = some i52 := by kernel_rfl
noncomputable def i53 : FnI := (.mk true true (.seq (.reg (.cons (some x1x) none (.box 39 (.t x0x)) (.cons (some x2x) none (.mv (.c (.b false))) .nil))) (.seq (.draw [(.mk (some x3x) none true [] false [] [] 
  [x1x] (.fad 0 (.t x1x)) false [] [] []), (.mk (some x4x) none false [] false [true] [] [x3x] (.ld 1 false (.t x3x)) false [] [] []), (.mk (some x5x) none false [] true [true, 
  true] [] [x4x] (.call 90 (.cons (.t x4x) (.cons (.c (.s [])) .nil))) false [] [] []), (.mk (some x6x) none false [] false [false, false, false] [] [x1x] (.ld 1 true (.t x1x)) 
  false [] [] []), (.mk (some x7x) none false [] false [true, true, true, true] [] [x6x] (.call 59 (.cons (.t x6x) .nil)) false [] [] []), (.mk (some x8x) none false [] false 
  [true, true, true, true, true] [] [x5x, x7x] (.call 58 (.cons (.t x5x) (.cons (.t x7x) .nil))) false [] [] []), (.mk (some x2x) none true [] false [true, true, true, true, true, 
  true] [] [x8x] (.mv (.t x8x)) false [] [] [])]) .ret)) [(.tmp x2x)])
theorem cc53 : compF Try.prog drops true true Try.f53 = some i53 := by kernel_rfl
noncomputable def i54 : FnI := (.mk true true (.seq (.reg (.cons (some x2x) none (.box 39 (.t x0x)) (.cons (some x4x) none (.mv (.c (.s []))) .nil))) (.seq (.reg (.cons (some x5x) none (.mv (.c (.s [97]))) 
  .nil)) (.seq (.block 0 (.loop (.seq (.seq (.reg (.cons (some x6x) none (.mv (.t x5x)) (.cons (some x7x) none (.slen (.t x6x)) (.cons (some x8x) none (.mv (.t x1x)) (.cons (some 
  x9x) none (.bin .lss (.t x7x) (.t x8x)) .nil))))) (.cond (.t x9x) .skip (.exit 0))) (.block 1 (.reg (.cons (some x10x) none (.ld 1 true (.t x2x)) (.cons (some x11x) none (.mv (.t 
  x5x)) (.cons (some x12x) none (.call 60 (.cons (.t x10x) (.cons (.t x11x) .nil))) (.cons (some x5x) none (.mv (.t x12x)) .nil))))))))) (.seq (.reg (.cons (some x13x) none (.mv 
  (.t x5x)) (.cons (some x14x) none (.mv (.t x1x)) (.cons (some x15x) none (.ssl (.t x13x) none (some (.t x14x))) (.cons (some x4x) none (.mv (.t x15x)) .nil))))) .ret)))) [(.tmp 
  x4x)])
theorem cc54 : compF Try.prog drops true true Try.f54 = some i54 := by kernel_rfl
noncomputable def i55 : FnI := (.mk true true (.seq (.reg (.cons (some x2x) none (.box 39 (.t x0x)) (.cons (some x4x) none (.mv (.c (.n 0))) .nil))) (.seq (.seq (.reg (.cons (some x6x) none (.ld 1 true (.t x2x)) 
  (.cons (some x7x) none (.call 50 (.cons (.t x6x) .nil)) (.cons (some x5x) none (.mv (.t x7x)) .nil)))) (.seq (.reg (.cons (some x8x) none (.mv (.t x5x)) (.cons (some x9x) none 
  (.bin .neq (.t x8x) (.c (.n 0))) .nil))) (.cond (.t x9x) (.seq (.reg (.cons (some x10x) none (.mv (.t x5x)) (.cons (some x4x) none (.mv (.t x10x)) .nil))) .ret) .skip))) (.seq 
  (.reg (.cons (some x11x) none (.mv (.t x1x)) (.cons (some x12x) none (.call 21 (.cons (.t x11x) .nil)) (.cons (some x4x) none (.mv (.t x12x)) .nil)))) .ret))) [(.tmp x4x)])
theorem cc55 : compF Try.prog drops true true Try.f55 = some i55 := by kernel_rfl
noncomputable def i56 : FnI := (.mk true true (.seq (.reg (.cons (some x1x) none (.box 39 (.t x0x)) (.cons (some x2x) none (.mv (.c (.n 0))) .nil))) (.seq (.reg (.cons (some x3x) none (.fad 0 (.t x1x)) (.cons 
  (some x4x) none (.ld 1 false (.t x3x)) (.cons (some x5x) none (.ixs 1 (.t x4x) (.c (.n 0))) (.cons (some x6x) none (.ld 1 false (.t x5x)) (.cons (some x7x) none (.slen (.t x6x)) 
  (.cons (some x2x) none (.mv (.t x7x)) .nil))))))) .ret)) [(.tmp x2x)])
theorem cc56 : compF Try.prog drops true true Try.f56 = some i56 := by kernel_rfl
noncomputable def i58 : FnI := (.mk true true (.seq (.reg (.cons (some x4x) none (.mv (.c (.b false))) .nil)) (.seq (.seq (.reg (.cons (some x7x) none (.mv (.t x0x)) (.cons (some x8x) none (.rng (.t x7x)) 
  .nil))) (.block 0 (.loop (.seq (.reg (.cons (some x9x) none (.nxt (.t x8x)) (.cons (some x10x) none (.ext 0 (.t x9x)) .nil))) (.seq (.cond (.t x10x) .skip (.exit 0)) (.block 1 
  (.seq (.reg (.cons (some x11x) none (.ext 2 (.t x9x)) (.cons (some x6x) none (.mv (.t x11x)) .nil))) (.seq (.reg (.cons (some x12x) none (.mv (.t x1x)) (.cons (some x13x) none 
  (.mv (.t x6x)) (.cons (some x14x) none (.call 92 (.cons (.t x12x) (.cons (.t x13x) .nil))) (.cons (some x15x) none (.not (.t x14x)) .nil))))) (.cond (.t x15x) (.seq (.reg (.cons 
  (some x4x) none (.mv (.c (.b false))) .nil)) .ret) .skip))))))))) (.seq (.reg (.cons (some x4x) none (.mv (.c (.b true))) .nil)) .ret))) [(.tmp x4x)])
theorem cc58 : compF Try.prog drops true true Try.f58 = some i58 := by kernel_rfl
noncomputable def i59 : FnI := (.mk true true (.seq (.reg (.cons (some x1x) none (.box 39 (.t x0x)) (.cons (some x2x) none (.mv (.c (.s []))) .nil))) (.seq (.reg (.cons (some x3x) none (.fad 0 (.t x1x)) (.cons 
  (some x4x) none (.ld 1 false (.t x3x)) (.cons (some x5x) none (.len (.t x4x)) (.cons (some x6x) none (.call 44 (.cons (.t x5x) .nil)) (.cons (some x2x) none (.mv (.t x6x)) 
  .nil)))))) .ret)) [(.tmp x2x)])
theorem cc59 : compF Try.prog drops true true Try.f59 = some i59 := by kernel_rfl
noncomputable def i61 : FnI := (.mk true true (.seq (.reg (.cons (some x2x) none (.mv (.c (.b false))) .nil)) (.seq (.reg (.cons (some x6x) none (.mv (.t x0x)) (.cons (some x7x) none (.call 48 (.cons (.t x6x) 
  .nil)) (.cons (some x5x) none (.mv (.t x7x)) (.cons (some x8x) none (.ext 0 (.t x5x)) (.cons (some x9x) none (.ext 1 (.t x5x)) (.cons (some x3x) none (.mv (.t x8x)) (.cons (some 
  x4x) none (.mv (.t x9x)) .nil)))))))) (.seq (.reg (.cons (some x10x) none (.mv (.t x4x)) (.cons (some x11x) none (.bin .eql (.t x10x) (.c (.n 0))) (.cons (some x2x) none (.mv (.t 
  x11x)) .nil)))) .ret))) [(.tmp x2x)])
theorem cc61 : compF Try.prog drops true true Try.f61 = some i61 := by kernel_rfl
noncomputable def i62 : FnI := (.mk true false (.seq (.reg (.cons (some x1x) none (.box 51 (.t x0x)) (.cons (some x2x) none (.mv (.c .ns)) .nil))) (.seq (.reg (.cons (some x6x) none (.ld 2 true (.t x1x)) (.cons 
  (some x7x) none (.call 67 (.cons (.t x6x) .nil)) (.cons (some x3x) none (.alloc 97 (.cons (.n 0) (.cons (.b false) (.cons (.b false) (.cons (.b false) (.cons (.b false) (.cons 
  (.b false) (.cons (.b false) (.cons (.b false) (.cons (.b false) (.cons (.b false) (.cons (.b false) (.cons (.b false) (.cons (.b false) (.cons (.b false) (.cons (.b false) 
  (.cons (.b false) (.cons (.b false) (.cons (.b false) (.cons (.b false) (.cons (.b false) (.cons (.b false) (.cons (.b false) (.cons (.b false) (.cons (.b false) (.cons (.b 
  false) (.cons (.b false) (.cons (.b false) (.cons (.b false) (.cons (.b false) (.cons (.b false) (.cons (.b false) (.cons (.b false) (.cons (.b false) (.cons (.b false) (.cons 
  (.b false) (.cons (.b false) (.cons (.b false) (.cons (.b false) (.cons (.b false) (.cons (.b false) (.cons (.b false) (.cons (.b false) (.cons (.b false) (.cons (.b false) 
  (.cons (.b false) (.cons (.b false) (.cons (.b false) (.cons (.b false) (.cons (.b false) (.cons (.b false) (.cons (.b false) (.cons (.b false) (.cons (.b false) (.cons (.b 
  false) (.cons (.b false) (.cons (.b false) (.cons (.b false) (.cons (.b false) (.cons (.b false) (.cons (.b false) (.cons (.b false) (.cons (.b false) (.cons (.b false) (.cons 
  (.b false) (.cons (.b false) (.cons (.b false) (.cons (.b false) (.cons (.b false) (.cons (.b false) (.cons (.b false) (.cons (.b false) (.cons (.b false) (.cons (.b false) 
  (.cons (.b false) (.cons (.b false) (.cons (.b false) (.cons (.b false) (.cons (.b false) (.cons (.b false) (.cons (.b false) (.cons (.b false) (.cons (.b false) (.cons (.b 
  false) (.cons (.b false) (.cons (.b false) (.cons (.b false) (.cons (.b false) (.cons (.b false) (.cons (.b false) (.cons (.b false) (.cons (.b false) 
  .nil))))))))))))))))))))))))))))))))))))))))))))))))))))))))))))))))))))))))))))))))))))))))))) 91) (.cons none none (.st 91 (.t x3x) (.t x7x)) .nil))))) (.seq (.reg (.cons (some 
  x4x) none (.mv (.c .ns)) .nil)) (.seq (.seq (.reg (.cons (some x8x) none (.fad 0 (.t x1x)) (.cons (some x9x) none (.ld 1 false (.t x8x)) (.cons (some x10x) none (.call 64 (.cons 
  (.t x9x) .nil)) (.cons (some x11x) none (.mv (.c (.n 0))) .nil))))) (.block 0 (.loop (.seq (.reg (.cons (some x12x) none (.bin .lss (.t x11x) (.t x10x)) .nil)) (.seq (.cond (.t 
  x12x) .skip (.exit 0)) (.seq (.block 1 (.seq (.reg (.cons (some x13x) none (.ld 91 true (.t x3x)) (.cons (some x14x) none (.call 75 (.cons (.t x13x) .nil)) (.cons (some x15x) 
  none (.ixs 1 (.t x14x) (.c (.n 0))) (.cons (some x16x) none (.ld 1 false (.t x15x)) (.cons (some x5x) none (.mv (.t x16x)) .nil)))))) (.seq (.reg (.cons (some x17x) none (.mv (.t 
  x4x)) (.cons (some x18x) none (.ld 91 true (.t x3x)) (.cons (some x19x) none (.mv (.t x5x)) (.cons (some x20x) none (.call 94 (.cons (.t x18x) (.cons (.t x19x) .nil))) (.cons 
  (some x21x) none (.ixs 1 (.t x20x) (.c (.n 0))) (.cons (some x22x) none (.ld 1 false (.t x21x)) (.cons (some x23x) none (.bsl 3 1 1 (.cons (.n 0) .nil) (.cons 0 1 (.t x22x) 
  .nil)) (.cons (some x24x) none (.app 3 1 8 (.t x17x) (.t x23x)) (.cons (some x4x) none (.mv (.t x24x)) .nil)))))))))) (.reg (.cons (some x25x) none (.mv (.t x5x)) (.cons (some 
  x26x) none (.build (.cons (.n 0) .nil) (.cons 0 1 (.t x25x) .nil)) (.cons (some x27x) none (.mki 105 (.t x26x)) (.cons (some x28x) none (.call 76 (.cons (.t x3x) (.cons (.t x27x) 
  .nil))) .nil)))))))) (.reg (.cons (some x29x) none (.bin .add (.t x11x) (.c (.n 1))) (.cons (some x11x) none (.mv (.t x29x)) .nil))))))))) (.seq (.reg (.cons (some x30x) none 
  (.mv (.t x4x)) (.cons (some x2x) none (.mv (.t x30x)) .nil))) .ret))))) [(.tmp x2x)])
theorem cc62 : compF Try.prog drops true false Try.f62 = some i62 := by kernel_rfl
noncomputable def i63 : FnI := (.mk true true (.seq (.reg (.cons (some x2x) none (.mv (.c (.b false))) .nil)) (.seq (.reg (.cons (some x3x) none (.mv (.t x0x)) (.cons (some x4x) none (.bin .geq (.t x3x) (.c (.n 
  1))) (.cons (some x5x) none (.mv (.t x4x)) (.cons (some x6x) (some (.mk x5x true)) (.mv (.t x0x)) (.cons (some x7x) (some (.mk x5x true)) (.bin .leq (.t x6x) (.c (.n 9))) (.cons 
  (some x8x) none (.pick (.t x5x) (.t x7x) (.c (.b false))) (.cons (some x2x) none (.mv (.t x8x)) .nil)))))))) .ret)) [(.tmp x2x)])
theorem cc63 : compF Try.prog drops true true Try.f63 = some i63 := by kernel_rfl
noncomputable def i64 : FnI := (.mk true true (.seq (.reg (.cons (some x2x) none (.mv (.c (.n 0))) .nil)) (.seq (.reg (.cons (some x3x) none (.mv (.t x0x)) (.cons (some x4x) none (.bin .sub (.t x3x) (.c (.n 2))) 
  (.cons (some x5x) none (.mm true (.t x4x) (.cons (.c (.n 0)) .nil)) (.cons (some x2x) none (.mv (.t x5x)) .nil))))) .ret)) [(.tmp x2x)])
theorem cc64 : compF Try.prog drops true true Try.f64 = some i64 := by kernel_rfl
noncomputable def i65 : FnI := (.mk true true (.seq (.reg (.cons (some x4x) none (.mv (.c (.b false))) .nil)) (.seq (.reg (.cons (some x5x) none (.mv (.t x1x)) (.cons (some x6x) none (.bin .geq (.t x5x) (.c (.n 
  0))) (.cons (some x7x) none (.mv (.t x6x)) (.cons (some x8x) (some (.mk x7x true)) (.mv (.t x1x)) (.cons (some x9x) (some (.mk x7x true)) (.mv (.t x0x)) (.cons (some x10x) (some 
  (.mk x7x true)) (.bin .lss (.t x8x) (.t x9x)) (.cons (some x11x) none (.pick (.t x7x) (.t x10x) (.c (.b false))) (.cons (some x4x) none (.mv (.t x11x)) .nil))))))))) .ret)) 
  [(.tmp x4x)])
theorem cc65 : compF Try.prog drops true true Try.f65 = some i65 := by kernel_rfl
noncomputable def i66 : FnI := (.mk true false (.seq (.reg (.cons (some x3x) none (.box 47 (.t x1x)) (.cons (some x4x) none (.alloc 51 (.cons (.n 0) (.cons .ns .nil)) 2) .nil))) (.seq (.reg (.cons (some x11x) 
  none (.mv (.t x0x)) (.cons (some x12x) none (.call 80 (.cons (.t x11x) .nil)) (.cons (some x5x) none (.alloc 97 (.cons (.n 0) (.cons (.b false) (.cons (.b false) (.cons (.b 
  false) (.cons (.b false) (.cons (.b false) (.cons (.b false) (.cons (.b false) (.cons (.b false) (.cons (.b false) (.cons (.b false) (.cons (.b false) (.cons (.b false) (.cons 
  (.b false) (.cons (.b false) (.cons (.b false) (.cons (.b false) (.cons (.b false) (.cons (.b false) (.cons (.b false) (.cons (.b false) (.cons (.b false) (.cons (.b false) 
  (.cons (.b false) (.cons (.b false) (.cons (.b false) (.cons (.b false) (.cons (.b false) (.cons (.b false) (.cons (.b false) (.cons (.b false) (.cons (.b false) (.cons (.b 
  false) (.cons (.b false) (.cons (.b false) (.cons (.b false) (.cons (.b false) (.cons (.b false) (.cons (.b false) (.cons (.b false) (.cons (.b false) (.cons (.b false) (.cons 
  (.b false) (.cons (.b false) (.cons (.b false) (.cons (.b false) (.cons (.b false) (.cons (.b false) (.cons (.b false) (.cons (.b false) (.cons (.b false) (.cons (.b false) 
  (.cons (.b false) (.cons (.b false) (.cons (.b false) (.cons (.b false) (.cons (.b false) (.cons (.b false) (.cons (.b false) (.cons (.b false) (.cons (.b false) (.cons (.b 
  false) (.cons (.b false) (.cons (.b false) (.cons (.b false) (.cons (.b false) (.cons (.b false) (.cons (.b false) (.cons (.b false) (.cons (.b false) (.cons (.b false) (.cons 
  (.b false) (.cons (.b false) (.cons (.b false) (.cons (.b false) (.cons (.b false) (.cons (.b false) (.cons (.b false) (.cons (.b false) (.cons (.b false) (.cons (.b false) 
  (.cons (.b false) (.cons (.b false) (.cons (.b false) (.cons (.b false) (.cons (.b false) (.cons (.b false) (.cons (.b false) (.cons (.b false) (.cons (.b false) (.cons (.b 
  false) .nil))))))))))))))))))))))))))))))))))))))))))))))))))))))))))))))))))))))))))))))))))))))))))) 91) (.cons none none (.st 91 (.t x5x) (.t x12x)) .nil))))) (.seq (.reg 
  (.cons (some x6x) none (.mv (.c .ns)) .nil)) (.seq (.seq (.reg (.cons (some x13x) none (.mv (.t x0x)) (.cons (some x14x) none (.mv (.c (.n 0))) .nil))) (.block 0 (.loop (.seq 
  (.reg (.cons (some x15x) none (.bin .lss (.t x14x) (.t x13x)) .nil)) (.seq (.cond (.t x15x) .skip (.exit 0)) (.seq (.block 1 (.seq (.reg (.cons (some x16x) none (.mv (.t x14x)) 
  (.cons (some x7x) none (.mv (.t x16x)) .nil))) (.reg (.cons (some x17x) none (.mv (.t x6x)) (.cons (some x18x) none (.mv (.t x7x)) (.cons (some x19x) none (.bsl 3 1 1 (.cons (.n 
  0) .nil) (.cons 0 1 (.t x18x) .nil)) (.cons (some x20x) none (.app 3 1 8 (.t x17x) (.t x19x)) (.cons (some x6x) none (.mv (.t x20x)) .nil)))))))) (.reg (.cons (some x21x) none 
  (.bin .add (.t x14x) (.c (.n 1))) (.cons (some x14x) none (.mv (.t x21x)) .nil))))))))) (.seq (.seq (.reg (.cons (some x22x) none (.ld 1 false (.t x3x)) (.cons (some x23x) none 
  (.len (.t x22x)) (.cons (some x24x) none (.mv (.c (.n 0))) .nil)))) (.block 2 (.loop (.seq (.reg (.cons (some x25x) none (.bin .lss (.t x24x) (.t x23x)) .nil)) (.seq (.cond (.t 
  x25x) .skip (.exit 2)) (.seq (.block 3 (.seq (.reg (.cons (some x26x) none (.mv (.t x24x)) (.cons (some x27x) none (.ixs 1 (.t x22x) (.t x24x)) (.cons (some x28x) none (.ld 1 
  false (.t x27x)) (.cons (some x8x) none (.alloc 3 (.cons (.n 0) .nil) 1) (.cons none none (.st 1 (.t x8x) (.t x26x)) (.cons (some x9x) none (.mv (.t x28x)) .nil))))))) (.seq 
  (.reg (.cons (some x29x) none (.mv (.t x6x)) (.cons (some x30x) none (.mkf 96 .nil (.cons (.t x3x) (.cons (.t x8x) .nil))) (.cons (some x31x) none (.call 95 (.cons (.t x29x) 
  (.cons (.t x30x) .nil))) (.cons (some x10x) none (.mv (.t x31x)) .nil))))) (.seq (.reg (.cons (some x32x) none (.mv (.t x6x)) (.cons (some x33x) none (.mv (.t x10x)) (.cons (some 
  x34x) none (.ixs 1 (.t x32x) (.t x33x)) (.cons (some x35x) none (.ld 1 false (.t x34x)) (.cons (some x36x) none (.mv (.t x9x)) (.cons (some x37x) none (.build (.cons (.n 0) 
  (.cons (.n 0) .nil)) (.cons 0 1 (.t x35x) (.cons 1 1 (.t x36x) .nil))) (.cons (some x38x) none (.build (.cons (.n 0) (.cons (.n 0) .nil)) (.cons 0 2 (.t x37x) .nil)) (.cons (some 
  x39x) none (.mki 109 (.t x38x)) (.cons (some x40x) none (.call 76 (.cons (.t x5x) (.cons (.t x39x) .nil))) .nil)))))))))) (.reg (.cons (some x41x) none (.mv (.t x6x)) (.cons 
  (some x42x) none (.mv (.t x10x)) (.cons (some x43x) none (.mv (.t x10x)) (.cons (some x44x) none (.bin .add (.t x43x) (.c (.n 1))) (.cons (some x45x) none (.call 98 (.cons (.t 
  x41x) (.cons (.t x42x) (.cons (.t x44x) .nil)))) (.cons (some x6x) none (.mv (.t x45x)) .nil))))))))))) (.reg (.cons (some x46x) none (.bin .add (.t x24x) (.c (.n 1))) (.cons 
  (some x24x) none (.mv (.t x46x)) .nil))))))))) (.seq (.seq (.reg (.cons (some x47x) none (.mv (.t x6x)) (.cons (some x48x) none (.len (.t x47x)) (.cons (some x49x) none (.bin 
  .eql (.t x48x) (.c (.n 2))) .nil)))) (.cond (.t x49x) (.reg (.cons (some x50x) none (.mv (.t x6x)) (.cons (some x51x) none (.s2a 2 (.t x50x)) (.cons (some x52x) none (.ld 2 true 
  (.t x51x)) (.cons (some x53x) none (.build (.cons (.n 0) (.cons (.n 0) .nil)) (.cons 0 2 (.t x52x) .nil)) (.cons (some x54x) none (.mki 109 (.t x53x)) (.cons (some x55x) none 
  (.call 76 (.cons (.t x5x) (.cons (.t x54x) .nil))) .nil))))))) .skip)) (.seq (.reg (.cons (some x56x) none (.ld 91 true (.t x5x)) (.cons (some x57x) none (.call 68 (.cons (.t 
  x56x) .nil)) (.cons none none (.st 2 (.t x4x) (.t x57x)) .nil)))) .ret))))))) [(.cell x4x 2 true)])
theorem cc66 : compF Try.prog drops true false Try.f66 = some i66 := by kernel_rfl
noncomputable def i67 : FnI := (.mk true true (.seq (.reg (.cons (some x1x) none (.box 51 (.t x0x)) (.cons (some x2x) none (.alloc 97 (.cons (.n 0) (.cons (.b false) (.cons (.b false) (.cons (.b false) (.cons 
  (.b false) (.cons (.b false) (.cons (.b false) (.cons (.b false) (.cons (.b false) (.cons (.b false) (.cons (.b false) (.cons (.b false) (.cons (.b false) (.cons (.b false) 
  (.cons (.b false) (.cons (.b false) (.cons (.b false) (.cons (.b false) (.cons (.b false) (.cons (.b false) (.cons (.b false) (.cons (.b false) (.cons (.b false) (.cons (.b 
  false) (.cons (.b false) (.cons (.b false) (.cons (.b false) (.cons (.b false) (.cons (.b false) (.cons (.b false) (.cons (.b false) (.cons (.b false) (.cons (.b false) (.cons 
  (.b false) (.cons (.b false) (.cons (.b false) (.cons (.b false) (.cons (.b false) (.cons (.b false) (.cons (.b false) (.cons (.b false) (.cons (.b false) (.cons (.b false) 
  (.cons (.b false) (.cons (.b false) (.cons (.b false) (.cons (.b false) (.cons (.b false) (.cons (.b false) (.cons (.b false) (.cons (.b false) (.cons (.b false) (.cons (.b 
  false) (.cons (.b false) (.cons (.b false) (.cons (.b false) (.cons (.b false) (.cons (.b false) (.cons (.b false) (.cons (.b false) (.cons (.b false) (.cons (.b false) (.cons 
  (.b false) (.cons (.b false) (.cons (.b false) (.cons (.b false) (.cons (.b false) (.cons (.b false) (.cons (.b false) (.cons (.b false) (.cons (.b false) (.cons (.b false) 
  (.cons (.b false) (.cons (.b false) (.cons (.b false) (.cons (.b false) (.cons (.b false) (.cons (.b false) (.cons (.b false) (.cons (.b false) (.cons (.b false) (.cons (.b 
  false) (.cons (.b false) (.cons (.b false) (.cons (.b false) (.cons (.b false) (.cons (.b false) (.cons (.b false) (.cons (.b false) (.cons (.b false) (.cons (.b false) 
  .nil))))))))))))))))))))))))))))))))))))))))))))))))))))))))))))))))))))))))))))))))))))))))))) 91) .nil))) (.seq (.reg (.cons (some x6x) none (.fad 0 (.t x1x)) (.cons (some x7x) 
  none (.ld 1 false (.t x6x)) (.cons (some x8x) none (.call 80 (.cons (.t x7x) .nil)) (.cons (some x3x) none (.alloc 97 (.cons (.n 0) (.cons (.b false) (.cons (.b false) (.cons (.b 
  false) (.cons (.b false) (.cons (.b false) (.cons (.b false) (.cons (.b false) (.cons (.b false) (.cons (.b false) (.cons (.b false) (.cons (.b false) (.cons (.b false) (.cons 
  (.b false) (.cons (.b false) (.cons (.b false) (.cons (.b false) (.cons (.b false) (.cons (.b false) (.cons (.b false) (.cons (.b false) (.cons (.b false) (.cons (.b false) 
  (.cons (.b false) (.cons (.b false) (.cons (.b false) (.cons (.b false) (.cons (.b false) (.cons (.b false) (.cons (.b false) (.cons (.b false) (.cons (.b false) (.cons (.b 
  false) (.cons (.b false) (.cons (.b false) (.cons (.b false) (.cons (.b false) (.cons (.b false) (.cons (.b false) (.cons (.b false) (.cons (.b false) (.cons (.b false) (.cons 
  (.b false) (.cons (.b false) (.cons (.b false) (.cons (.b false) (.cons (.b false) (.cons (.b false) (.cons (.b false) (.cons (.b false) (.cons (.b false) (.cons (.b false) 
  (.cons (.b false) (.cons (.b false) (.cons (.b false) (.cons (.b false) (.cons (.b false) (.cons (.b false) (.cons (.b false) (.cons (.b false) (.cons (.b false) (.cons (.b 
  false) (.cons (.b false) (.cons (.b false) (.cons (.b false) (.cons (.b false) (.cons (.b false) (.cons (.b false) (.cons (.b false) (.cons (.b false) (.cons (.b false) (.cons 
  (.b false) (.cons (.b false) (.cons (.b false) (.cons (.b false) (.cons (.b false) (.cons (.b false) (.cons (.b false) (.cons (.b false) (.cons (.b false) (.cons (.b false) 
  (.cons (.b false) (.cons (.b false) (.cons (.b false) (.cons (.b false) (.cons (.b false) (.cons (.b false) (.cons (.b false) (.cons (.b false) (.cons (.b false) (.cons (.b 
  false) .nil))))))))))))))))))))))))))))))))))))))))))))))))))))))))))))))))))))))))))))))))))))))))))) 91) (.cons none none (.st 91 (.t x3x) (.t x8x)) .nil)))))) (.seq (.seq 
  (.reg (.cons (some x9x) none (.fad 1 (.t x1x)) (.cons (some x10x) none (.ld 1 false (.t x9x)) (.cons (some x11x) none (.len (.t x10x)) (.cons (some x12x) none (.mv (.c (.n 0))) 
  .nil))))) (.block 0 (.loop (.seq (.reg (.cons (some x13x) none (.bin .lss (.t x12x) (.t x11x)) .nil)) (.seq (.cond (.t x13x) .skip (.exit 0)) (.seq (.block 1 (.seq (.reg (.cons 
  (some x14x) none (.ixs 2 (.t x10x) (.t x12x)) (.cons (some x15x) none (.ld 2 true (.t x14x)) (.cons (some x5x) none (.alloc 65 (.cons (.n 0) (.cons (.n 0) .nil)) 2) (.cons none 
  none (.st 2 (.t x5x) (.t x15x)) .nil))))) (.reg (.cons (some x16x) none (.ld 2 true (.t x5x)) (.cons (some x17x) none (.build (.cons (.n 0) (.cons (.n 0) .nil)) (.cons 0 2 (.t 
  x16x) .nil)) (.cons (some x18x) none (.mki 109 (.t x17x)) (.cons (some x19x) none (.call 76 (.cons (.t x3x) (.cons (.t x18x) .nil))) .nil))))))) (.reg (.cons (some x20x) none 
  (.bin .add (.t x12x) (.c (.n 1))) (.cons (some x12x) none (.mv (.t x20x)) .nil))))))))) (.seq (.reg (.cons (some x21x) none (.ld 91 true (.t x3x)) (.cons none none (.st 91 (.t 
  x2x) (.t x21x)) .nil))) .ret)))) [(.cell x2x 91 true)])
theorem cc67 : compF Try.prog drops true true Try.f67 = some i67 := by kernel_rfl
noncomputable def i68 : FnI := (.mk true false (.seq (.reg (.cons (some x1x) none (.box 97 (.t x0x)) (.cons (some x2x) none (.alloc 51 (.cons (.n 0) (.cons .ns .nil)) 2) .nil))) (.seq (.reg (.cons (some x7x) 
  none (.fad 0 (.t x1x)) (.cons (some x8x) none (.ld 1 false (.t x7x)) (.cons (some x9x) none (.build (.cons (.n 0) (.cons .ns .nil)) (.cons 0 1 (.t x8x) .nil)) (.cons (some x3x) 
  none (.alloc 51 (.cons (.n 0) (.cons .ns .nil)) 2) (.cons none none (.st 2 (.t x3x) (.t x9x)) .nil)))))) (.seq (.seq (.reg (.cons (some x10x) none (.fad 0 (.t x1x)) (.cons (some 
  x11x) none (.ld 1 false (.t x10x)) (.cons (some x12x) none (.mv (.c (.n 0))) .nil)))) (.block 0 (.loop (.seq (.reg (.cons (some x13x) none (.bin .lss (.t x12x) (.t x11x)) .nil)) 
  (.seq (.cond (.t x13x) .skip (.exit 0)) (.seq (.block 1 (.seq (.reg (.cons (some x14x) none (.mv (.t x12x)) (.cons (some x4x) none (.mv (.t x14x)) .nil))) (.seq (.reg (.cons 
  (some x15x) none (.ld 91 true (.t x1x)) (.cons (some x16x) none (.mv (.t x4x)) (.cons (some x17x) none (.call 94 (.cons (.t x15x) (.cons (.t x16x) .nil))) (.cons (some x18x) none 
  (.len (.t x17x)) (.cons (some x19x) none (.mv (.c (.n 0))) .nil)))))) (.block 2 (.loop (.seq (.reg (.cons (some x20x) none (.bin .lss (.t x19x) (.t x18x)) .nil)) (.seq (.cond (.t 
  x20x) .skip (.exit 2)) (.seq (.block 3 (.seq (.reg (.cons (some x21x) none (.ixs 1 (.t x17x) (.t x19x)) (.cons (some x22x) none (.ld 1 false (.t x21x)) (.cons (some x6x) none 
  (.mv (.t x22x)) .nil)))) (.seq (.reg (.cons (some x23x) none (.mv (.t x4x)) (.cons (some x24x) none (.mv (.t x6x)) (.cons (some x25x) none (.bin .lss (.t x23x) (.t x24x)) 
  .nil)))) (.cond (.t x25x) (.reg (.cons (some x26x) none (.fad 1 (.t x3x)) (.cons (some x27x) none (.ld 1 false (.t x26x)) (.cons (some x28x) none (.mv (.t x4x)) (.cons (some 
  x29x) none (.mv (.t x6x)) (.cons (some x30x) none (.build (.cons (.n 0) (.cons (.n 0) .nil)) (.cons 0 1 (.t x28x) (.cons 1 1 (.t x29x) .nil))) (.cons (some x31x) none (.bsl 65 2 
  1 (.cons (.n 0) (.cons (.n 0) .nil)) (.cons 0 2 (.t x30x) .nil)) (.cons (some x32x) none (.app 65 2 16 (.t x27x) (.t x31x)) (.cons (some x33x) none (.fad 1 (.t x3x)) (.cons none 
  none (.st 1 (.t x33x) (.t x32x)) .nil)))))))))) .skip)))) (.reg (.cons (some x34x) none (.bin .add (.t x19x) (.c (.n 1))) (.cons (some x19x) none (.mv (.t x34x)) .nil))))))))))) 
  (.reg (.cons (some x35x) none (.bin .add (.t x12x) (.c (.n 1))) (.cons (some x12x) none (.mv (.t x35x)) .nil))))))))) (.seq (.reg (.cons (some x36x) none (.ld 2 true (.t x3x)) 
  (.cons none none (.st 2 (.t x2x) (.t x36x)) .nil))) .ret)))) [(.cell x2x 2 true)])
theorem cc68 : compF Try.prog drops true false Try.f68 = some i68 := by kernel_rfl
noncomputable def i69 : FnI := (.mk true true (.seq (.reg (.cons (some x4x) none (.mv (.c (.n 0))) .nil)) (.seq (.reg (.cons (some x5x) none (.mv (.c (.n 0))) .nil)) (.seq (.seq (.reg (.cons (some x8x) none (.mv 
  (.t x1x)) (.cons (some x9x) none (.len (.t x8x)) (.cons (some x10x) none (.mv (.c (.n 0))) .nil)))) (.block 0 (.loop (.seq (.reg (.cons (some x11x) none (.bin .lss (.t x10x) (.t 
  x9x)) .nil)) (.seq (.cond (.t x11x) .skip (.exit 0)) (.seq (.block 1 (.seq (.reg (.cons (some x12x) none (.ixs 1 (.t x8x) (.t x10x)) (.cons (some x13x) none (.ld 1 false (.t 
  x12x)) (.cons (some x7x) none (.mv (.t x13x)) .nil)))) (.reg (.cons (some x14x) none (.mv (.t x5x)) (.cons (some x15x) none (.mv (.t x0x)) (.cons (some x16x) none (.bin .mul (.t 
  x14x) (.t x15x)) (.cons (some x17x) none (.mv (.t x7x)) (.cons (some x18x) none (.bin .add (.t x16x) (.t x17x)) (.cons (some x5x) none (.mv (.t x18x)) .nil))))))))) (.reg (.cons 
  (some x19x) none (.bin .add (.t x10x) (.c (.n 1))) (.cons (some x10x) none (.mv (.t x19x)) .nil))))))))) (.seq (.reg (.cons (some x20x) none (.mv (.t x5x)) (.cons (some x4x) none 
  (.mv (.t x20x)) .nil))) .ret)))) [(.tmp x4x)])
theorem cc69 : compF Try.prog drops true true Try.f69 = some i69 := by kernel_rfl
noncomputable def i70 : FnI := (.mk true true (.seq (.reg (.cons (some x2x) none (.mv (.c (.n 0))) .nil)) (.seq (.reg (.cons (some x3x) none (.mv (.c (.n 1))) .nil)) (.seq (.seq (.reg (.cons (some x4x) none (.mv 
  (.t x0x)) (.cons (some x5x) none (.call 64 (.cons (.t x4x) .nil)) (.cons (some x6x) none (.mv (.c (.n 0))) .nil)))) (.block 0 (.loop (.seq (.reg (.cons (some x7x) none (.bin .lss 
  (.t x6x) (.t x5x)) .nil)) (.seq (.cond (.t x7x) .skip (.exit 0)) (.seq (.block 1 (.reg (.cons (some x8x) none (.mv (.t x3x)) (.cons (some x9x) none (.mv (.t x0x)) (.cons (some 
  x10x) none (.bin .mul (.t x8x) (.t x9x)) (.cons (some x3x) none (.mv (.t x10x)) .nil)))))) (.reg (.cons (some x11x) none (.bin .add (.t x6x) (.c (.n 1))) (.cons (some x6x) none 
  (.mv (.t x11x)) .nil))))))))) (.seq (.reg (.cons (some x12x) none (.mv (.t x3x)) (.cons (some x2x) none (.mv (.t x12x)) .nil))) .ret)))) [(.tmp x2x)])
theorem cc70 : compF Try.prog drops true true Try.f70 = some i70 := by kernel_rfl
noncomputable def i71 : FnI := (.mk true true (.seq (.reg (.cons (some x2x) none (.mv (.c (.n 0))) .nil)) (.seq (.seq (.reg (.cons (some x6x) none (.mv (.t x0x)) (.cons (some x7x) none (.len (.t x6x)) (.cons 
  (some x8x) none (.bin .eql (.t x7x) (.c (.n 1))) .nil)))) (.cond (.t x8x) (.seq (.reg (.cons (some x2x) none (.mv (.c (.n 1))) .nil)) .ret) .skip)) (.seq (.seq (.reg (.cons (some 
  x9x) none (.mv (.t x0x)) (.cons (some x10x) none (.call 97 (.cons (.t x9x) (.cons (.c (.n 0)) .nil))) .nil))) (.cond (.t x10x) (.seq (.reg (.cons (some x2x) none (.mv (.c (.n 
  0))) .nil)) .ret) .skip)) (.seq (.reg (.cons (some x11x) none (.mv (.t x0x)) (.cons (some x12x) none (.len (.t x11x)) (.cons (some x13x) none (.bin .sub (.t x12x) (.c (.n 2))) 
  (.cons (some x14x) none (.call 99 (.cons (.t x13x) .nil)) (.cons (some x3x) none (.mv (.t x14x)) .nil)))))) (.seq (.seq (.reg (.cons (some x15x) none (.mv (.t x0x)) (.cons (some 
  x16x) none (.len (.t x15x)) (.cons (some x17x) none (.mv (.c (.n 0))) .nil)))) (.block 0 (.loop (.seq (.reg (.cons (some x18x) none (.bin .lss (.t x17x) (.t x16x)) .nil)) (.seq 
  (.cond (.t x18x) .skip (.exit 0)) (.seq (.block 1 (.seq (.reg (.cons (some x19x) none (.ixs 1 (.t x15x) (.t x17x)) (.cons (some x20x) none (.ld 1 false (.t x19x)) (.cons (some 
  x5x) none (.mv (.t x20x)) .nil)))) (.reg (.cons (some x21x) none (.mv (.t x3x)) (.cons (some x22x) none (.mv (.t x5x)) (.cons (some x23x) none (.bin .sub (.t x22x) (.c (.n 1))) 
  (.cons (some x24x) none (.call 99 (.cons (.t x23x) .nil)) (.cons (some x25x) none (.bin .quo (.t x21x) (.t x24x)) (.cons (some x3x) none (.mv (.t x25x)) .nil))))))))) (.reg 
  (.cons (some x26x) none (.bin .add (.t x17x) (.c (.n 1))) (.cons (some x17x) none (.mv (.t x26x)) .nil))))))))) (.seq (.reg (.cons (some x27x) none (.mv (.t x3x)) (.cons (some 
  x2x) none (.mv (.t x27x)) .nil))) .ret)))))) [(.tmp x2x)])
theorem cc71 : compF Try.prog drops true true Try.f71 = some i71 := by kernel_rfl
noncomputable def i72 : FnI := (.mk true false (.seq (.reg (.cons (some x1x) none (.box 97 (.t x0x)) (.cons (some x2x) none (.mv (.c .ns)) .nil))) (.seq (.reg (.cons (some x5x) none (.fad 0 (.t x1x)) (.cons 
  (some x6x) none (.ld 1 false (.t x5x)) (.cons (some x7x) none (.mks 3 1 8 1 (.cons (.n 0) .nil) (.t x6x) (.t x6x)) (.cons (some x3x) none (.mv (.t x7x)) .nil))))) (.seq (.seq 
  (.reg (.cons (some x8x) none (.mv (.t x3x)) (.cons (some x9x) none (.len (.t x8x)) (.cons (some x10x) none (.mv (.c (.n 0))) .nil)))) (.block 0 (.loop (.seq (.reg (.cons (some 
  x11x) none (.bin .lss (.t x10x) (.t x9x)) .nil)) (.seq (.cond (.t x11x) .skip (.exit 0)) (.seq (.block 1 (.seq (.reg (.cons (some x12x) none (.mv (.t x10x)) (.cons (some x4x) 
  none (.mv (.t x12x)) .nil))) (.reg (.cons (some x13x) none (.mv (.t x3x)) (.cons (some x14x) none (.mv (.t x4x)) (.cons (some x15x) none (.ld 91 true (.t x1x)) (.cons (some x16x) 
  none (.mv (.t x4x)) (.cons (some x17x) none (.call 101 (.cons (.t x15x) (.cons (.t x16x) .nil))) (.cons (some x18x) none (.call 100 (.cons (.t x17x) .nil)) (.cons (some x19x) 
  none (.ixs 1 (.t x13x) (.t x14x)) (.cons none none (.st 1 (.t x19x) (.t x18x)) .nil))))))))))) (.reg (.cons (some x20x) none (.bin .add (.t x10x) (.c (.n 1))) (.cons (some x10x) 
  none (.mv (.t x20x)) .nil))))))))) (.seq (.reg (.cons (some x21x) none (.mv (.t x3x)) (.cons (some x2x) none (.mv (.t x21x)) .nil))) .ret)))) [(.tmp x2x)])
theorem cc72 : compF Try.prog drops true false Try.f72 = some i72 := by kernel_rfl
noncomputable def i73 : FnI := (.mk true false (.seq (.reg (.cons (some x1x) none (.box 97 (.t x0x)) (.cons (some x2x) none (.mv (.c .ns)) .nil))) (.seq (.reg (.cons (some x8x) none (.ld 91 true (.t x1x)) (.cons 
  (some x9x) none (.call 72 (.cons (.t x8x) .nil)) (.cons (some x3x) none (.mv (.t x9x)) .nil)))) (.seq (.reg (.cons (some x10x) none (.mv (.t x3x)) (.cons (some x11x) none (.call 
  102 (.cons (.t x10x) .nil)) (.cons (some x4x) none (.mv (.t x11x)) .nil)))) (.seq (.reg (.cons (some x5x) none (.mv (.c .ns)) .nil)) (.seq (.seq (.reg (.cons (some x12x) none 
  (.mv (.t x3x)) (.cons (some x13x) none (.len (.t x12x)) (.cons (some x14x) none (.mv (.c (.n 0))) .nil)))) (.block 0 (.loop (.seq (.reg (.cons (some x15x) none (.bin .lss (.t 
  x14x) (.t x13x)) .nil)) (.seq (.cond (.t x15x) .skip (.exit 0)) (.seq (.block 1 (.seq (.reg (.cons (some x16x) none (.mv (.t x14x)) (.cons (some x17x) none (.ixs 1 (.t x12x) (.t 
  x14x)) (.cons (some x18x) none (.ld 1 false (.t x17x)) (.cons (some x6x) none (.mv (.t x16x)) (.cons (some x7x) none (.mv (.t x18x)) .nil)))))) (.seq (.reg (.cons (some x19x) 
  none (.mv (.t x7x)) (.cons (some x20x) none (.mv (.t x4x)) (.cons (some x21x) none (.bin .eql (.t x19x) (.t x20x)) .nil)))) (.cond (.t x21x) (.reg (.cons (some x22x) none (.mv 
  (.t x5x)) (.cons (some x23x) none (.mv (.t x6x)) (.cons (some x24x) none (.bsl 3 1 1 (.cons (.n 0) .nil) (.cons 0 1 (.t x23x) .nil)) (.cons (some x25x) none (.app 3 1 8 (.t x22x) 
  (.t x24x)) (.cons (some x5x) none (.mv (.t x25x)) .nil)))))) .skip)))) (.reg (.cons (some x26x) none (.bin .add (.t x14x) (.c (.n 1))) (.cons (some x14x) none (.mv (.t x26x)) 
  .nil))))))))) (.seq (.reg (.cons (some x27x) none (.mv (.t x5x)) (.cons (some x2x) none (.mv (.t x27x)) .nil))) .ret)))))) [(.tmp x2x)])
theorem cc73 : compF Try.prog drops true false Try.f73 = some i73 := by kernel_rfl
noncomputable def i74 : FnI := (.mk true false (.seq (.reg (.cons (some x3x) none (.box 97 (.t x0x)) (.cons (some x6x) none (.mv (.c .ns)) .nil))) (.seq (.reg (.cons (some x12x) none (.ld 91 true (.t x3x)) 
  (.cons (some x13x) none (.mv (.t x2x)) (.cons (some x14x) none (.call 101 (.cons (.t x12x) (.cons (.t x13x) .nil))) (.cons (some x7x) none (.alloc 47 (.cons .ns .nil) 1) (.cons 
  none none (.st 1 (.t x7x) (.t x14x)) .nil)))))) (.seq (.reg (.cons (some x15x) none (.mv (.t x1x)) (.cons (some x16x) none (.bsl 3 1 1 (.cons (.n 0) .nil) (.cons 0 1 (.t x15x) 
  .nil)) (.cons (some x8x) none (.mv (.t x16x)) .nil)))) (.seq (.seq (.reg (.cons (some x17x) none (.mv (.t x1x)) (.cons (some x9x) none (.alloc 3 (.cons (.n 0) .nil) 1) (.cons 
  none none (.st 1 (.t x9x) (.t x17x)) .nil)))) (.block 0 (.loop (.seq (.seq (.reg (.cons (some x18x) none (.ld 1 false (.t x9x)) (.cons (some x19x) none (.mv (.t x2x)) (.cons 
  (some x20x) none (.bin .neq (.t x18x) (.t x19x)) .nil)))) (.cond (.t x20x) .skip (.exit 0))) (.seq (.block 1 (.seq (.reg (.cons (some x21x) none (.ld 91 true (.t x3x)) (.cons 
  (some x22x) none (.ld 1 false (.t x9x)) (.cons (some x23x) none (.call 94 (.cons (.t x21x) (.cons (.t x22x) .nil))) (.cons (some x10x) none (.mv (.t x23x)) .nil))))) (.seq (.reg 
  (.cons (some x24x) none (.mv (.t x10x)) (.cons (some x25x) none (.mkf 103 .nil (.cons (.t x7x) (.cons (.t x9x) .nil))) (.cons (some x26x) none (.call 95 (.cons (.t x24x) (.cons 
  (.t x25x) .nil))) (.cons (some x11x) none (.mv (.t x26x)) .nil))))) (.seq (.reg (.cons (some x27x) none (.mv (.t x10x)) (.cons (some x28x) none (.mv (.t x11x)) (.cons (some x29x) 
  none (.ixs 1 (.t x27x) (.t x28x)) (.cons (some x30x) none (.ld 1 false (.t x29x)) (.cons none none (.st 1 (.t x9x) (.t x30x)) .nil)))))) (.reg (.cons (some x31x) none (.mv (.t 
  x8x)) (.cons (some x32x) none (.ld 1 false (.t x9x)) (.cons (some x33x) none (.bsl 3 1 1 (.cons (.n 0) .nil) (.cons 0 1 (.t x32x) .nil)) (.cons (some x34x) none (.app 3 1 8 (.t 
  x31x) (.t x33x)) (.cons (some x8x) none (.mv (.t x34x)) .nil)))))))))) (.seq (.reg (.cons (some x35x) none (.ld 1 false (.t x9x)) .nil)) (.reg (.cons (some x9x) none (.alloc 3 
  (.cons (.n 0) .nil) 1) (.cons none none (.st 1 (.t x9x) (.t x35x)) .nil))))))))) (.seq (.reg (.cons (some x36x) none (.mv (.t x8x)) (.cons (some x6x) none (.mv (.t x36x)) .nil))) 
  .ret))))) [(.tmp x6x)])
theorem cc74 : compF Try.prog drops true false Try.f74 = some i74 := by kernel_rfl
noncomputable def i75 : FnI := (.mk true false (.seq (.reg (.cons (some x1x) none (.box 97 (.t x0x)) (.cons (some x2x) none (.mv (.c .ns)) .nil))) (.seq (.reg (.cons (some x3x) none (.mv (.c .ns)) .nil)) (.seq 
  (.seq (.reg (.cons (some x5x) none (.fad 0 (.t x1x)) (.cons (some x6x) none (.ld 1 false (.t x5x)) (.cons (some x7x) none (.mv (.c (.n 0))) .nil)))) (.block 0 (.loop (.seq (.reg 
  (.cons (some x8x) none (.bin .lss (.t x7x) (.t x6x)) .nil)) (.seq (.cond (.t x8x) .skip (.exit 0)) (.seq (.block 1 (.seq (.reg (.cons (some x9x) none (.mv (.t x7x)) (.cons (some 
  x4x) none (.mv (.t x9x)) .nil))) (.seq (.reg (.cons (some x10x) none (.mv (.t x4x)) (.cons (some x11x) none (.fad 1 (.t x1x)) (.cons (some x12x) none (.ixa 9 1 (.t x11x) (.t 
  x10x)) (.cons (some x13x) none (.ld 1 false (.t x12x)) (.cons (some x14x) none (.mv (.t x13x)) (.cons (some x15x) (some (.mk x14x true)) (.ld 91 true (.t x1x)) (.cons (some x16x) 
  (some (.mk x14x true)) (.mv (.t x4x)) (.cons (some x17x) (some (.mk x14x true)) (.call 104 (.cons (.t x15x) (.cons (.t x16x) .nil))) (.cons (some x18x) (some (.mk x14x true)) 
  (.bin .leq (.t x17x) (.c (.n 1))) (.cons (some x19x) none (.pick (.t x14x) (.t x18x) (.c (.b false))) .nil))))))))))) (.cond (.t x19x) (.reg (.cons (some x20x) none (.mv (.t 
  x3x)) (.cons (some x21x) none (.mv (.t x4x)) (.cons (some x22x) none (.bsl 3 1 1 (.cons (.n 0) .nil) (.cons 0 1 (.t x21x) .nil)) (.cons (some x23x) none (.app 3 1 8 (.t x20x) (.t 
  x22x)) (.cons (some x3x) none (.mv (.t x23x)) .nil)))))) .skip)))) (.reg (.cons (some x24x) none (.bin .add (.t x7x) (.c (.n 1))) (.cons (some x7x) none (.mv (.t x24x)) 
  .nil))))))))) (.seq (.reg (.cons (some x25x) none (.mv (.t x3x)) (.cons (some x2x) none (.mv (.t x25x)) .nil))) .ret)))) [(.tmp x2x)])
theorem cc75 : compF Try.prog drops true false Try.f75 = some i75 := by kernel_rfl
noncomputable def i76 : FnI := (.mk false false (.seq (.reg (.cons (some x9x) none (.mv (.t x1x)) .nil)) (.block 0 (.seq (.reg (.cons (some x10x) none (.tas 105 (.ag (.cons (.n 0) .nil)) true (.t x9x)) (.cons 
  (some x11x) none (.ext 1 (.t x10x)) (.cons (some x12x) none (.ext 0 (.t x10x)) .nil)))) (.cond (.t x11x) (.seq (.reg (.cons (some x4x) none (.alloc 105 (.cons (.n 0) .nil) 1) 
  (.cons none none (.st 1 (.t x4x) (.t x12x)) .nil))) (.seq (.seq (.draw [(.mk (some x13x) none true [] false [] [] [x0x] (.mv (.t x0x)) false [] [] []), (.mk (some x14x) none true 
  [] false [true] [] [x13x] (.nilck (.t x13x)) false [] [] []), (.mk (some x15x) none false [] false [true, true] [] [x14x] (.ld 91 true (.t x14x)) false [] [] []), (.mk (some 
  x16x) none true [] false [false, false, false] [] [x4x] (.fad 0 (.t x4x)) false [] [] []), (.mk (some x17x) none false [] false [true, false, false, false] [] [x16x] (.ld 1 false 
  (.t x16x)) false [] [] []), (.mk (some x18x) none false [] true [true, true, true, true, true] [] [x15x, x17x] (.call 94 (.cons (.t x15x) (.cons (.t x17x) .nil))) false [] [] 
  []), (.mk (some x19x) none true [] false [true, true, true, true, true, true] [] [x18x] (.len (.t x18x)) false [] [] []), (.mk (some x20x) none true [] false [false, false, 
  false, false, false, false, false] [] [] (.mv (.c (.n 0))) false [] [] [])]) (.block 1 (.loop (.seq (.reg (.cons (some x21x) none (.bin .lss (.t x20x) (.t x19x)) .nil)) (.seq 
  (.cond (.t x21x) .skip (.exit 1)) (.seq (.block 2 (.seq (.reg (.cons (some x22x) none (.ixs 1 (.t x18x) (.t x20x)) (.cons (some x23x) none (.ld 1 false (.t x22x)) (.cons (some 
  x6x) none (.mv (.t x23x)) .nil)))) (.reg (.cons (some x24x) none (.mv (.t x0x)) (.cons (some x25x) none (.fad 0 (.t x4x)) (.cons (some x26x) none (.ld 1 false (.t x25x)) (.cons 
  (some x27x) none (.mv (.t x6x)) (.cons (some x28x) none (.build (.cons (.n 0) (.cons (.n 0) .nil)) (.cons 0 1 (.t x26x) (.cons 1 1 (.t x27x) .nil))) (.cons (some x29x) none 
  (.build (.cons (.n 0) (.cons (.n 0) .nil)) (.cons 0 2 (.t x28x) .nil)) (.cons (some x30x) none (.mki 108 (.t x29x)) (.cons (some x31x) none (.call 76 (.cons (.t x24x) (.cons (.t 
  x30x) .nil))) .nil))))))))))) (.reg (.cons (some x32x) none (.bin .add (.t x20x) (.c (.n 1))) (.cons (some x20x) none (.mv (.t x32x)) .nil))))))))) (.draw [(.mk (some x33x) none 
  true [] false [] [] [x0x] (.mv (.t x0x)) false [] [] []), (.mk (some x34x) none true [] false [false] [] [x4x] (.fad 0 (.t x4x)) false [] [] []), (.mk (some x35x) none false [] 
  false [true, false] [] [x34x] (.ld 1 false (.t x34x)) false [] [] []), (.mk (some x36x) none true [] false [false, false, true] [] [x33x] (.nilck (.t x33x)) false [] [] []), (.mk 
  (some x37x) none true [] false [true, false, false, true] [] [x36x] (.fad 1 (.t x36x)) false [] [] []), (.mk (some x38x) none true [] false [true, true, true, true, true] [] 
  [x37x, x35x] (.ixa 9 1 (.t x37x) (.t x35x)) false [] [] []), (.mk none none false [x38x] false [true, true, true, true, true, true] [] [x38x] (.st 1 (.t x38x) (.c (.b false))) 
  false [] [] [])]))) (.seq (.reg (.cons (some x39x) none (.tas 108 (.ag (.cons (.n 0) (.cons (.n 0) .nil))) true (.t x9x)) (.cons (some x40x) none (.ext 1 (.t x39x)) (.cons (some 
  x41x) none (.ext 0 (.t x39x)) .nil)))) (.cond (.t x40x) (.seq (.reg (.cons (some x7x) none (.alloc 108 (.cons (.n 0) (.cons (.n 0) .nil)) 2) (.cons none none (.st 2 (.t x7x) (.t 
  x41x)) .nil))) (.reg (.cons (some x42x) none (.mv (.t x0x)) (.cons (some x43x) none (.fad 0 (.t x7x)) (.cons (some x44x) none (.ld 2 true (.t x43x)) (.cons (some x45x) none 
  (.call 105 (.cons (.t x42x) (.cons (.t x44x) (.cons (.c (.b false)) .nil)))) .nil)))))) (.seq (.reg (.cons (some x46x) none (.tas 109 (.ag (.cons (.n 0) (.cons (.n 0) .nil))) 
  true (.t x9x)) (.cons (some x47x) none (.ext 1 (.t x46x)) (.cons (some x48x) none (.ext 0 (.t x46x)) .nil)))) (.cond (.t x47x) (.seq (.reg (.cons (some x8x) none (.alloc 109 
  (.cons (.n 0) (.cons (.n 0) .nil)) 2) (.cons none none (.st 2 (.t x8x) (.t x48x)) .nil))) (.reg (.cons (some x49x) none (.mv (.t x0x)) (.cons (some x50x) none (.fad 0 (.t x8x)) 
  (.cons (some x51x) none (.ld 2 true (.t x50x)) (.cons (some x52x) none (.call 105 (.cons (.t x49x) (.cons (.t x51x) (.cons (.c (.b true)) .nil)))) .nil)))))) .skip)))))))) [])
theorem cc76 : compF Try.prog drops false false Try.f76 = some i76 := by kernel_rfl
noncomputable def i77 : FnI := (.mk true true (.seq (.reg (.cons (some x3x) none (.box 65 (.t x1x)) (.cons (some x4x) none (.mv (.c (.n 0))) .nil))) (.seq (.block 0 (.seq (.reg (.cons (some x6x) none (.mv (.t 
  x0x)) (.cons (some x7x) none (.ixa 2 1 (.t x3x) (.c (.n 0))) (.cons (some x8x) none (.ld 1 false (.t x7x)) (.cons (some x9x) none (.call 65 (.cons (.t x6x) (.cons (.t x8x) 
  .nil))) (.cons (some x10x) none (.not (.t x9x)) (.cons (some x11x) none (.mv (.t x10x)) (.cons (some x12x) (some (.mk x11x false)) (.mv (.t x0x)) (.cons (some x13x) (some (.mk 
  x11x false)) (.ixa 2 1 (.t x3x) (.c (.n 1))) (.cons (some x14x) (some (.mk x11x false)) (.ld 1 false (.t x13x)) (.cons (some x15x) (some (.mk x11x false)) (.call 65 (.cons (.t 
  x12x) (.cons (.t x14x) .nil))) (.cons (some x16x) (some (.mk x11x false)) (.not (.t x15x)) (.cons (some x17x) none (.pick (.t x11x) (.c (.b true)) (.t x16x)) (.cons (some x5x) 
  none (.mv (.t x17x)) .nil)))))))))))))) (.cond (.t x5x) (.seq (.reg (.cons (some x4x) none (.mv (.c (.n 2))) .nil)) .ret) (.seq (.reg (.cons (some x19x) none (.ixa 2 1 (.t x3x) 
  (.c (.n 0))) (.cons (some x20x) none (.ld 1 false (.t x19x)) (.cons (some x21x) none (.ixa 2 1 (.t x3x) (.c (.n 1))) (.cons (some x22x) none (.ld 1 false (.t x21x)) (.cons (some 
  x23x) none (.bin .eql (.t x20x) (.t x22x)) (.cons (some x18x) none (.mv (.t x23x)) .nil))))))) (.cond (.t x18x) (.seq (.reg (.cons (some x4x) none (.mv (.c (.n 13))) .nil)) .ret) 
  .skip))))) (.seq (.reg (.cons (some x4x) none (.mv (.c (.n 0))) .nil)) .ret))) [(.tmp x4x)])
theorem cc77 : compF Try.prog drops true true Try.f77 = some i77 := by kernel_rfl
noncomputable def i78 : FnI := (.mk true true (.seq (.reg (.cons (some x1x) none (.box 97 (.t x0x)) (.cons (some x2x) none (.mv (.c (.b false))) .nil))) (.seq (.reg (.cons (some x3x) none (.ld 91 true (.t x1x)) 
  (.cons (some x4x) none (.call 101 (.cons (.t x3x) (.cons (.c (.n 0)) .nil))) (.cons (some x5x) none (.call 97 (.cons (.t x4x) (.cons (.c (.i .i64 (.negSucc 0))) .nil))) (.cons 
  (some x6x) none (.not (.t x5x)) (.cons (some x2x) none (.mv (.t x6x)) .nil)))))) .ret)) [(.tmp x2x)])
theorem cc78 : compF Try.prog drops true true Try.f78 = some i78 := by kernel_rfl
noncomputable def i79 : FnI := (.mk true true (.seq (.reg (.cons (some x1x) none (.box 97 (.t x0x)) (.cons (some x2x) none (.mv (.c (.s []))) .nil))) (.seq (.reg (.cons (some x3x) none (.mv (.c .ns)) .nil)) 
  (.seq (.seq (.reg (.cons (some x6x) none (.ld 91 true (.t x1x)) (.cons (some x7x) none (.call 73 (.cons (.t x6x) .nil)) (.cons (some x8x) none (.len (.t x7x)) (.cons (some x9x) 
  none (.mv (.c (.n 0))) .nil))))) (.block 0 (.loop (.seq (.reg (.cons (some x10x) none (.bin .lss (.t x9x) (.t x8x)) .nil)) (.seq (.cond (.t x10x) .skip (.exit 0)) (.seq (.block 1 
  (.seq (.reg (.cons (some x11x) none (.ixs 1 (.t x7x) (.t x9x)) (.cons (some x12x) none (.ld 1 false (.t x11x)) (.cons (some x5x) none (.mv (.t x12x)) .nil)))) (.reg (.cons (some 
  x13x) none (.mv (.t x3x)) (.cons (some x14x) none (.ld 91 true (.t x1x)) (.cons (some x15x) none (.mv (.t x5x)) (.cons (some x16x) none (.call 106 (.cons (.t x14x) (.cons (.t 
  x15x) (.cons (.c (.i .i64 (.negSucc 0))) .nil)))) (.cons (some x17x) none (.bsl 9 1 1 (.cons (.s []) .nil) (.cons 0 1 (.t x16x) .nil)) (.cons (some x18x) none (.app 9 1 16 (.t 
  x13x) (.t x17x)) (.cons (some x3x) none (.mv (.t x18x)) .nil)))))))))) (.reg (.cons (some x19x) none (.bin .add (.t x9x) (.c (.n 1))) (.cons (some x9x) none (.mv (.t x19x)) 
  .nil))))))))) (.seq (.reg (.cons (some x20x) none (.mv (.t x3x)) (.cons (some x21x) none (.call 107 (.cons (.t x20x) .nil)) (.cons (some x2x) none (.mv (.t x21x)) .nil)))) 
  .ret)))) [(.tmp x2x)])
theorem cc79 : compF Try.prog drops true true Try.f79 = some i79 := by kernel_rfl
noncomputable def i80 : FnI := (.mk true true (.seq (.reg (.cons (some x2x) none (.alloc 97 (.cons (.n 0) (.cons (.b false) (.cons (.b false) (.cons (.b false) (.cons (.b false) (.cons (.b false) (.cons (.b 
  false) (.cons (.b false) (.cons (.b false) (.cons (.b false) (.cons (.b false) (.cons (.b false) (.cons (.b false) (.cons (.b false) (.cons (.b false) (.cons (.b false) (.cons 
  (.b false) (.cons (.b false) (.cons (.b false) (.cons (.b false) (.cons (.b false) (.cons (.b false) (.cons (.b false) (.cons (.b false) (.cons (.b false) (.cons (.b false) 
  (.cons (.b false) (.cons (.b false) (.cons (.b false) (.cons (.b false) (.cons (.b false) (.cons (.b false) (.cons (.b false) (.cons (.b false) (.cons (.b false) (.cons (.b 
  false) (.cons (.b false) (.cons (.b false) (.cons (.b false) (.cons (.b false) (.cons (.b false) (.cons (.b false) (.cons (.b false) (.cons (.b false) (.cons (.b false) (.cons 
  (.b false) (.cons (.b false) (.cons (.b false) (.cons (.b false) (.cons (.b false) (.cons (.b false) (.cons (.b false) (.cons (.b false) (.cons (.b false) (.cons (.b false) 
  (.cons (.b false) (.cons (.b false) (.cons (.b false) (.cons (.b false) (.cons (.b false) (.cons (.b false) (.cons (.b false) (.cons (.b false) (.cons (.b false) (.cons (.b 
  false) (.cons (.b false) (.cons (.b false) (.cons (.b false) (.cons (.b false) (.cons (.b false) (.cons (.b false) (.cons (.b false) (.cons (.b false) (.cons (.b false) (.cons 
  (.b false) (.cons (.b false) (.cons (.b false) (.cons (.b false) (.cons (.b false) (.cons (.b false) (.cons (.b false) (.cons (.b false) (.cons (.b false) (.cons (.b false) 
  (.cons (.b false) (.cons (.b false) (.cons (.b false) (.cons (.b false) (.cons (.b false) (.cons (.b false) (.cons (.b false) 
  .nil))))))))))))))))))))))))))))))))))))))))))))))))))))))))))))))))))))))))))))))))))))))))))) 91) .nil)) (.seq (.reg (.cons (some x5x) none (.mv (.t x0x)) (.cons (some x6x) 
  none (.build (.cons (.n 0) (.cons (.b false) (.cons (.b false) (.cons (.b false) (.cons (.b false) (.cons (.b false) (.cons (.b false) (.cons (.b false) (.cons (.b false) (.cons 
  (.b false) (.cons (.b false) (.cons (.b false) (.cons (.b false) (.cons (.b false) (.cons (.b false) (.cons (.b false) (.cons (.b false) (.cons (.b false) (.cons (.b false) 
  (.cons (.b false) (.cons (.b false) (.cons (.b false) (.cons (.b false) (.cons (.b false) (.cons (.b false) (.cons (.b false) (.cons (.b false) (.cons (.b false) (.cons (.b 
  false) (.cons (.b false) (.cons (.b false) (.cons (.b false) (.cons (.b false) (.cons (.b false) (.cons (.b false) (.cons (.b false) (.cons (.b false) (.cons (.b false) (.cons 
  (.b false) (.cons (.b false) (.cons (.b false) (.cons (.b false) (.cons (.b false) (.cons (.b false) (.cons (.b false) (.cons (.b false) (.cons (.b false) (.cons (.b false) 
  (.cons (.b false) (.cons (.b false) (.cons (.b false) (.cons (.b false) (.cons (.b false) (.cons (.b false) (.cons (.b false) (.cons (.b false) (.cons (.b false) (.cons (.b 
  false) (.cons (.b false) (.cons (.b false) (.cons (.b false) (.cons (.b false) (.cons (.b false) (.cons (.b false) (.cons (.b false) (.cons (.b false) (.cons (.b false) (.cons 
  (.b false) (.cons (.b false) (.cons (.b false) (.cons (.b false) (.cons (.b false) (.cons (.b false) (.cons (.b false) (.cons (.b false) (.cons (.b false) (.cons (.b false) 
  (.cons (.b false) (.cons (.b false) (.cons (.b false) (.cons (.b false) (.cons (.b false) (.cons (.b false) (.cons (.b false) (.cons (.b false) (.cons (.b false) (.cons (.b 
  false) (.cons (.b false) (.cons (.b false) (.cons (.b false) (.cons (.b false) .nil))))))))))))))))))))))))))))))))))))))))))))))))))))))))))))))))))))))))))))))))))))))))))) 
  (.cons 0 1 (.t x5x) .nil)) (.cons (some x3x) none (.alloc 97 (.cons (.n 0) (.cons (.b false) (.cons (.b false) (.cons (.b false) (.cons (.b false) (.cons (.b false) (.cons (.b 
  false) (.cons (.b false) (.cons (.b false) (.cons (.b false) (.cons (.b false) (.cons (.b false) (.cons (.b false) (.cons (.b false) (.cons (.b false) (.cons (.b false) (.cons 
  (.b false) (.cons (.b false) (.cons (.b false) (.cons (.b false) (.cons (.b false) (.cons (.b false) (.cons (.b false) (.cons (.b false) (.cons (.b false) (.cons (.b false) 
  (.cons (.b false) (.cons (.b false) (.cons (.b false) (.cons (.b false) (.cons (.b false) (.cons (.b false) (.cons (.b false) (.cons (.b false) (.cons (.b false) (.cons (.b 
  false) (.cons (.b false) (.cons (.b false) (.cons (.b false) (.cons (.b false) (.cons (.b false) (.cons (.b false) (.cons (.b false) (.cons (.b false) (.cons (.b false) (.cons 
  (.b false) (.cons (.b false) (.cons (.b false) (.cons (.b false) (.cons (.b false) (.cons (.b false) (.cons (.b false) (.cons (.b false) (.cons (.b false) (.cons (.b false) 
  (.cons (.b false) (.cons (.b false) (.cons (.b false) (.cons (.b false) (.cons (.b false) (.cons (.b false) (.cons (.b false) (.cons (.b false) (.cons (.b false) (.cons (.b 
  false) (.cons (.b false) (.cons (.b false) (.cons (.b false) (.cons (.b false) (.cons (.b false) (.cons (.b false) (.cons (.b false) (.cons (.b false) (.cons (.b false) (.cons 
  (.b false) (.cons (.b false) (.cons (.b false) (.cons (.b false) (.cons (.b false) (.cons (.b false) (.cons (.b false) (.cons (.b false) (.cons (.b false) (.cons (.b false) 
  (.cons (.b false) (.cons (.b false) (.cons (.b false) (.cons (.b false) (.cons (.b false) (.cons (.b false) (.cons (.b false) 
  .nil))))))))))))))))))))))))))))))))))))))))))))))))))))))))))))))))))))))))))))))))))))))))))) 91) (.cons none none (.st 91 (.t x3x) (.t x6x)) .nil))))) (.seq (.seq (.reg (.cons 
  (some x7x) none (.mv (.t x0x)) (.cons (some x8x) none (.mv (.c (.n 0))) .nil))) (.block 0 (.loop (.seq (.reg (.cons (some x9x) none (.bin .lss (.t x8x) (.t x7x)) .nil)) (.seq 
  (.cond (.t x9x) .skip (.exit 0)) (.seq (.block 1 (.seq (.reg (.cons (some x10x) none (.mv (.t x8x)) (.cons (some x4x) none (.mv (.t x10x)) .nil))) (.reg (.cons (some x11x) none 
  (.mv (.t x4x)) (.cons (some x12x) none (.fad 1 (.t x3x)) (.cons (some x13x) none (.ixa 9 1 (.t x12x) (.t x11x)) (.cons none none (.st 1 (.t x13x) (.c (.b true))) .nil))))))) 
  (.reg (.cons (some x14x) none (.bin .add (.t x8x) (.c (.n 1))) (.cons (some x8x) none (.mv (.t x14x)) .nil))))))))) (.seq (.reg (.cons (some x15x) none (.ld 91 true (.t x3x)) 
  (.cons none none (.st 91 (.t x2x) (.t x15x)) .nil))) .ret)))) [(.cell x2x 91 true)])
theorem cc80 : compF Try.prog drops true true Try.f80 = some i80 := by kernel_rfl
noncomputable def i81 : FnI := (.mk true true (.seq (.reg (.cons (some x2x) none (.box 97 (.t x0x)) (.cons (some x3x) none (.box 65 (.t x1x)) (.cons (some x4x) none (.mv (.c (.b false))) .nil)))) (.seq (.draw 
  [(.mk (some x5x) none true [] false [] [] [x3x] (.ixa 2 1 (.t x3x) (.c (.n 0))) false [] [] []), (.mk (some x6x) none false [] false [true] [] [x5x] (.ld 1 false (.t x5x)) false 
  [] [] []), (.mk (some x7x) none true [] false [false, false] [] [x3x] (.ixa 2 1 (.t x3x) (.c (.n 1))) false [] [] []), (.mk (some x8x) none false [] false [true, false, false] [] 
  [x7x] (.ld 1 false (.t x7x)) false [] [] []), (.mk (some x9x) none true [] false [false, false, false, false] [] [x2x] (.fad 10 (.t x2x)) false [] [] []), (.mk (some x10x) none 
  true [] false [true, false, false, true, true] [] [x9x, x6x] (.ixa 9 9 (.t x9x) (.t x6x)) false [] [] []), (.mk (some x11x) none true [] false [true, true, true, true, true, 
  true] [] [x10x, x8x] (.ixa 9 1 (.t x10x) (.t x8x)) false [] [] []), (.mk (some x12x) none false [] false [true, true, true, true, true, true, true] [] [x11x] (.ld 1 false (.t 
  x11x)) false [] [] []), (.mk (some x4x) none true [] false [true, true, true, true, true, true, true, true] [] [x12x] (.mv (.t x12x)) false [] [] [])]) .ret)) [(.tmp x4x)])
theorem cc81 : compF Try.prog drops true true Try.f81 = some i81 := by kernel_rfl
noncomputable def i82 : FnI := (.mk true false (.seq (.reg (.cons (some x1x) none (.box 51 (.t x0x)) (.cons (some x2x) none (.mv (.c .ns)) (.cons (some x3x) none (.mv (.c (.n 0))) .nil)))) (.seq (.seq (.reg 
  (.cons (some x8x) none (.ld 2 true (.t x1x)) (.cons (some x9x) none (.call 40 (.cons (.t x8x) .nil)) (.cons (some x4x) none (.mv (.t x9x)) .nil)))) (.seq (.reg (.cons (some x10x) 
  none (.mv (.t x4x)) (.cons (some x11x) none (.bin .neq (.t x10x) (.c (.n 0))) .nil))) (.cond (.t x11x) (.seq (.reg (.cons (some x12x) none (.mv (.t x4x)) (.cons (some x2x) none 
  (.mv (.c .ns)) (.cons (some x3x) none (.mv (.t x12x)) .nil)))) .ret) .skip))) (.seq (.reg (.cons (some x13x) none (.ld 2 true (.t x1x)) (.cons (some x14x) none (.call 67 (.cons 
  (.t x13x) .nil)) (.cons (some x5x) none (.alloc 97 (.cons (.n 0) (.cons (.b false) (.cons (.b false) (.cons (.b false) (.cons (.b false) (.cons (.b false) (.cons (.b false) 
  (.cons (.b false) (.cons (.b false) (.cons (.b false) (.cons (.b false) (.cons (.b false) (.cons (.b false) (.cons (.b false) (.cons (.b false) (.cons (.b false) (.cons (.b 
  false) (.cons (.b false) (.cons (.b false) (.cons (.b false) (.cons (.b false) (.cons (.b false) (.cons (.b false) (.cons (.b false) (.cons (.b false) (.cons (.b false) (.cons 
  (.b false) (.cons (.b false) (.cons (.b false) (.cons (.b false) (.cons (.b false) (.cons (.b false) (.cons (.b false) (.cons (.b false) (.cons (.b false) (.cons (.b false) 
  (.cons (.b false) (.cons (.b false) (.cons (.b false) (.cons (.b false) (.cons (.b false) (.cons (.b false) (.cons (.b false) (.cons (.b false) (.cons (.b false) (.cons (.b 
  false) (.cons (.b false) (.cons (.b false) (.cons (.b false) (.cons (.b false) (.cons (.b false) (.cons (.b false) (.cons (.b false) (.cons (.b false) (.cons (.b false) (.cons 
  (.b false) (.cons (.b false) (.cons (.b false) (.cons (.b false) (.cons (.b false) (.cons (.b false) (.cons (.b false) (.cons (.b false) (.cons (.b false) (.cons (.b false) 
  (.cons (.b false) (.cons (.b false) (.cons (.b false) (.cons (.b false) (.cons (.b false) (.cons (.b false) (.cons (.b false) (.cons (.b false) (.cons (.b false) (.cons (.b 
  false) (.cons (.b false) (.cons (.b false) (.cons (.b false) (.cons (.b false) (.cons (.b false) (.cons (.b false) (.cons (.b false) (.cons (.b false) (.cons (.b false) (.cons 
  (.b false) (.cons (.b false) (.cons (.b false) (.cons (.b false) (.cons (.b false) (.cons (.b false) (.cons (.b false) 
  .nil))))))))))))))))))))))))))))))))))))))))))))))))))))))))))))))))))))))))))))))))))))))))))) 91) (.cons none none (.st 91 (.t x5x) (.t x14x)) .nil))))) (.seq (.reg (.cons 
  (some x15x) none (.fad 0 (.t x1x)) (.cons (some x16x) none (.ld 1 false (.t x15x)) (.cons (some x17x) none (.mks 3 1 8 1 (.cons (.n 0) .nil) (.t x16x) (.t x16x)) (.cons (some 
  x6x) none (.mv (.t x17x)) .nil))))) (.seq (.seq (.reg (.cons (some x18x) none (.mv (.t x6x)) (.cons (some x19x) none (.len (.t x18x)) (.cons (some x20x) none (.mv (.c (.n 0))) 
  .nil)))) (.block 0 (.loop (.seq (.reg (.cons (some x21x) none (.bin .lss (.t x20x) (.t x19x)) .nil)) (.seq (.cond (.t x21x) .skip (.exit 0)) (.seq (.block 1 (.seq (.reg (.cons 
  (some x22x) none (.mv (.t x20x)) (.cons (some x7x) none (.mv (.t x22x)) .nil))) (.reg (.cons (some x23x) none (.mv (.t x6x)) (.cons (some x24x) none (.mv (.t x7x)) (.cons (some 
  x25x) none (.ld 91 true (.t x5x)) (.cons (some x26x) none (.mv (.t x7x)) (.cons (some x27x) none (.call 104 (.cons (.t x25x) (.cons (.t x26x) .nil))) (.cons (some x28x) none 
  (.ixs 1 (.t x23x) (.t x24x)) (.cons none none (.st 1 (.t x28x) (.t x27x)) .nil)))))))))) (.reg (.cons (some x29x) none (.bin .add (.t x20x) (.c (.n 1))) (.cons (some x20x) none 
  (.mv (.t x29x)) .nil))))))))) (.seq (.reg (.cons (some x30x) none (.mv (.t x6x)) (.cons (some x2x) none (.mv (.t x30x)) (.cons (some x3x) none (.mv (.c (.n 0))) .nil)))) 
  .ret)))))) [(.tmp x2x), (.tmp x3x)])
theorem cc82 : compF Try.prog drops true false Try.f82 = some i82 := by kernel_rfl
noncomputable def i83 : FnI := (.mk true false (.seq (.reg (.cons (some x4x) none (.alloc 51 (.cons (.n 0) (.cons .ns .nil)) 2) (.cons (some x5x) none (.mv (.c (.n 0))) .nil))) (.seq (.seq (.reg (.cons (some 
  x6x) none (.mv (.t x0x)) (.cons (some x7x) none (.call 63 (.cons (.t x6x) .nil)) (.cons (some x8x) none (.not (.t x7x)) (.cons (some x9x) none (.mv (.t x8x)) (.cons (some x10x) 
  (some (.mk x9x false)) (.mv (.t x1x)) (.cons (some x11x) (some (.mk x9x false)) (.bin .lss (.t x10x) (.c (.n 0))) (.cons (some x12x) none (.pick (.t x9x) (.c (.b true)) (.t 
  x11x)) (.cons (some x13x) none (.mv (.t x12x)) (.cons (some x14x) (some (.mk x13x false)) (.mv (.t x1x)) (.cons (some x15x) (some (.mk x13x false)) (.mv (.t x0x)) (.cons (some 
  x16x) (some (.mk x13x false)) (.call 70 (.cons (.t x15x) .nil)) (.cons (some x17x) (some (.mk x13x false)) (.bin .geq (.t x14x) (.t x16x)) (.cons (some x18x) none (.pick (.t 
  x13x) (.c (.b true)) (.t x17x)) .nil)))))))))))))) (.cond (.t x18x) (.seq (.reg (.cons (some x19x) none (.build (.cons (.n 0) (.cons .ns .nil)) .nil) (.cons none none (.st 2 (.t 
  x4x) (.t x19x)) (.cons (some x5x) none (.mv (.c (.n 1))) .nil)))) .ret) .skip)) (.seq (.reg (.cons (some x20x) none (.mv (.t x0x)) (.cons (some x21x) none (.mv (.t x0x)) (.cons 
  (some x22x) none (.mv (.t x1x)) (.cons (some x23x) none (.call 108 (.cons (.t x21x) (.cons (.t x22x) .nil))) (.cons (some x24x) none (.call 66 (.cons (.t x20x) (.cons (.t x23x) 
  .nil))) (.cons none none (.st 2 (.t x4x) (.t x24x)) (.cons (some x5x) none (.mv (.c (.n 0))) .nil)))))))) .ret))) [(.cell x4x 2 true), (.tmp x5x)])
theorem cc83 : compF Try.prog drops true false Try.f83 = some i83 := by kernel_rfl
noncomputable def i84 : FnI := (.mk false false (.reg (.cons (some x5x) none (.ld 1 false (.t x1x)) (.cons (some x6x) none (.ld 1 false (.t x2x)) (.cons (some x7x) none (.ld 1 false (.t x3x)) (.cons (some x8x) 
  none (.mv (.t x0x)) (.cons (some x9x) none (.call 85 (.cons (.t x5x) (.cons (.t x6x) (.cons (.t x7x) (.cons (.t x8x) .nil))))) .nil)))))) [])
theorem cc84 : compF Try.prog drops false false Try.f84 = some i84 := by kernel_rfl
noncomputable def i85 : FnI := (.mk false false (.seq (.reg (.cons (some x8x) none (.mv (.c (.b false))) .nil)) (.seq (.seq (.reg (.cons (some x11x) none (.mv (.t x0x)) (.cons (some x12x) none (.slen (.t x11x)) 
  (.cons (some x13x) none (.mv (.t x2x)) (.cons (some x14x) none (.bin .eql (.t x12x) (.t x13x)) .nil))))) (.cond (.t x14x) (.seq (.reg (.cons (some x15x) none (.mv (.t x3x)) 
  (.cons (some x16x) none (.mv (.t x0x)) (.cons (some x17x) none (.callv (.t x15x) (.cons (.t x16x) .nil)) (.cons (some x8x) none (.mv (.t x17x)) .nil))))) .ret) .skip)) (.seq 
  (.seq (.reg (.cons (some x18x) none (.mv (.t x0x)) (.cons (some x19x) none (.mv (.t x1x)) (.cons (some x20x) none (.call 49 (.cons (.t x18x) (.cons (.t x19x) .nil))) (.cons (some 
  x21x) none (.rng (.t x20x)) .nil))))) (.block 0 (.loop (.seq (.reg (.cons (some x22x) none (.nxt (.t x21x)) (.cons (some x23x) none (.ext 0 (.t x22x)) .nil))) (.seq (.cond (.t 
  x23x) .skip (.exit 0)) (.block 1 (.seq (.reg (.cons (some x24x) none (.ext 2 (.t x22x)) (.cons (some x10x) none (.mv (.t x24x)) .nil))) (.seq (.reg (.cons (some x25x) none (.mv 
  (.t x0x)) (.cons (some x26x) none (.mv (.t x10x)) (.cons (some x27x) none (.r2s (.t x26x)) (.cons (some x28x) none (.sbi .add (.t x25x) (.t x27x)) (.cons (some x29x) none (.mv 
  (.t x1x)) (.cons (some x30x) none (.mv (.t x2x)) (.cons (some x31x) none (.mv (.t x3x)) (.cons (some x32x) none (.call 85 (.cons (.t x28x) (.cons (.t x29x) (.cons (.t x30x) 
  (.cons (.t x31x) .nil))))) (.cons (some x33x) none (.not (.t x32x)) .nil)))))))))) (.cond (.t x33x) (.seq (.reg (.cons (some x8x) none (.mv (.c (.b false))) .nil)) .ret) 
  .skip))))))))) (.seq (.reg (.cons (some x8x) none (.mv (.c (.b true))) .nil)) .ret)))) [(.tmp x8x)])
theorem cc85 : compF Try.prog drops false false Try.f85 = some i85 := by kernel_rfl
noncomputable def i86 : FnI := (.mk true true (.seq (.reg (.cons (some x2x) none (.mv (.c (.n 0))) .nil)) (.seq (.seq (.reg (.cons (some x3x) none (.mv (.c (.n 1))) .nil)) (.block 0 (.loop (.seq (.seq (.reg 
  (.cons (some x5x) none (.mv (.t x3x)) (.cons (some x6x) none (.bin .mul (.c (.n 2)) (.t x5x)) (.cons (some x7x) none (.mv (.t x0x)) (.cons (some x8x) none (.slen (.t x7x)) (.cons 
  (some x9x) none (.bin .leq (.t x6x) (.t x8x)) .nil)))))) (.cond (.t x9x) .skip (.exit 0))) (.seq (.block 1 (.seq (.reg (.cons (some x12x) none (.mv (.t x0x)) (.cons (some x13x) 
  none (.slen (.t x12x)) (.cons (some x14x) none (.mv (.t x3x)) (.cons (some x15x) none (.bin .sub (.t x13x) (.t x14x)) (.cons (some x4x) none (.mv (.t x15x)) .nil)))))) (.seq 
  (.draw [(.mk (some x16x) none true [] false [] [] [x0x] (.mv (.t x0x)) false [] [] []), (.mk (some x17x) none true [] false [false] [] [x4x] (.mv (.t x4x)) false [] [] []), (.mk 
  (some x18x) none false [] false [true, true] [] [x16x, x17x] (.ssl (.t x16x) none (some (.t x17x))) false [] [] []), (.mk (some x19x) none true [] false [false, false, false] [] 
  [x0x] (.mv (.t x0x)) false [] [] []), (.mk (some x20x) none true [] false [false, false, false, false] [] [x4x] (.mv (.t x4x)) false [] [] []), (.mk (some x21x) none false [] 
  false [true, true, false, false, false] [] [x19x, x20x] (.ssl (.t x19x) (some (.t x20x)) none) false [] [] []), (.mk (some x22x) none false [] false [true, true, true, true, 
  true, true] [] [x18x, x21x] (.call 109 (.cons (.t x18x) (.cons (.t x21x) .nil))) false [] [] [])]) (.cond (.t x22x) (.seq (.reg (.cons (some x23x) none (.mv (.t x3x)) (.cons 
  (some x2x) none (.mv (.t x23x)) .nil))) .ret) .skip)))) (.reg (.cons (some x10x) none (.mv (.t x3x)) (.cons (some x11x) none (.bin .add (.t x10x) (.c (.n 1))) (.cons (some x3x) 
  none (.mv (.t x11x)) .nil))))))))) (.seq (.reg (.cons (some x2x) none (.mv (.c (.n 0))) .nil)) .ret))) [(.tmp x2x)])
theorem cc86 : compF Try.prog drops true true Try.f86 = some i86 := by kernel_rfl
noncomputable def i89 : FnI := (.mk true true (.seq (.reg (.cons (some x4x) none (.mv (.c (.b false))) .nil)) (.seq (.reg (.cons (some x5x) none (.mv (.t x0x)) (.cons (some x6x) none (.mv (.t x1x)) (.cons (some 
  x7x) none (.call 112 (.cons (.t x5x) (.cons (.t x6x) .nil))) (.cons (some x4x) none (.mv (.t x7x)) .nil))))) .ret)) [(.tmp x4x)])
theorem cc89 : compF Try.prog drops true true Try.f89 = some i89 := by kernel_rfl
noncomputable def i91 : FnI := (.mk true true (.seq (.reg (.cons (some x4x) none (.mv (.c (.n 0))) .nil)) (.seq (.seq (.reg (.cons (some x6x) none (.mv (.t x0x)) (.cons (some x7x) none (.len (.t x6x)) (.cons 
  (some x8x) none (.mv (.c (.n 0))) .nil)))) (.block 0 (.loop (.seq (.reg (.cons (some x9x) none (.bin .lss (.t x8x) (.t x7x)) .nil)) (.seq (.cond (.t x9x) .skip (.exit 0)) (.seq 
  (.block 1 (.seq (.reg (.cons (some x10x) none (.mv (.t x8x)) (.cons (some x5x) none (.mv (.t x10x)) .nil))) (.seq (.reg (.cons (some x11x) none (.mv (.t x1x)) (.cons (some x12x) 
  none (.mv (.t x0x)) (.cons (some x13x) none (.mv (.t x5x)) (.cons (some x14x) none (.ixs 1 (.t x12x) (.t x13x)) (.cons (some x15x) none (.ld 1 false (.t x14x)) (.cons (some x16x) 
  none (.sbi .eql (.t x11x) (.t x15x)) .nil))))))) (.cond (.t x16x) (.seq (.reg (.cons (some x17x) none (.mv (.t x5x)) (.cons (some x4x) none (.mv (.t x17x)) .nil))) .ret) 
  .skip)))) (.reg (.cons (some x18x) none (.bin .add (.t x8x) (.c (.n 1))) (.cons (some x8x) none (.mv (.t x18x)) .nil))))))))) (.seq (.reg (.cons (some x4x) none (.mv (.c (.i .i64 
  (.negSucc 0)))) .nil)) .ret))) [(.tmp x4x)])
theorem cc91 : compF Try.prog drops true true Try.f91 = some i91 := by kernel_rfl
noncomputable def i94 : FnI := (.mk true false (.seq (.reg (.cons (some x2x) none (.box 97 (.t x0x)) (.cons (some x4x) none (.mv (.c .ns)) .nil))) (.seq (.reg (.cons (some x5x) none (.mv (.c .ns)) .nil)) (.seq 
  (.seq (.reg (.cons (some x7x) none (.fad 0 (.t x2x)) (.cons (some x8x) none (.ld 1 false (.t x7x)) (.cons (some x9x) none (.mv (.c (.n 0))) .nil)))) (.block 0 (.loop (.seq (.reg 
  (.cons (some x10x) none (.bin .lss (.t x9x) (.t x8x)) .nil)) (.seq (.cond (.t x10x) .skip (.exit 0)) (.seq (.block 1 (.seq (.reg (.cons (some x11x) none (.mv (.t x9x)) (.cons 
  (some x6x) none (.mv (.t x11x)) .nil))) (.seq (.reg (.cons (some x12x) none (.mv (.t x1x)) (.cons (some x13x) none (.mv (.t x6x)) (.cons (some x14x) none (.fad 10 (.t x2x)) 
  (.cons (some x15x) none (.ixa 9 9 (.t x14x) (.t x12x)) (.cons (some x16x) none (.ixa 9 1 (.t x15x) (.t x13x)) (.cons (some x17x) none (.ld 1 false (.t x16x)) .nil))))))) (.cond 
  (.t x17x) (.reg (.cons (some x18x) none (.mv (.t x5x)) (.cons (some x19x) none (.mv (.t x6x)) (.cons (some x20x) none (.bsl 3 1 1 (.cons (.n 0) .nil) (.cons 0 1 (.t x19x) .nil)) 
  (.cons (some x21x) none (.app 3 1 8 (.t x18x) (.t x20x)) (.cons (some x5x) none (.mv (.t x21x)) .nil)))))) .skip)))) (.reg (.cons (some x22x) none (.bin .add (.t x9x) (.c (.n 
  1))) (.cons (some x9x) none (.mv (.t x22x)) .nil))))))))) (.seq (.reg (.cons (some x23x) none (.mv (.t x5x)) (.cons (some x4x) none (.mv (.t x23x)) .nil))) .ret)))) [(.tmp x4x)])
theorem cc94 : compF Try.prog drops true false Try.f94 = some i94 := by kernel_rfl
noncomputable def i95 : FnI := (.mk true true (.seq (.reg (.cons (some x4x) none (.mv (.c (.n 0))) .nil)) (.seq (.seq (.reg (.cons (some x6x) none (.mv (.t x0x)) (.cons (some x7x) none (.len (.t x6x)) (.cons 
  (some x8x) none (.mv (.c (.n 0))) .nil)))) (.block 0 (.loop (.seq (.reg (.cons (some x9x) none (.bin .lss (.t x8x) (.t x7x)) .nil)) (.seq (.cond (.t x9x) .skip (.exit 0)) (.seq 
  (.block 1 (.seq (.reg (.cons (some x10x) none (.mv (.t x8x)) (.cons (some x5x) none (.mv (.t x10x)) .nil))) (.seq (.reg (.cons (some x11x) none (.mv (.t x1x)) (.cons (some x12x) 
  none (.mv (.t x0x)) (.cons (some x13x) none (.mv (.t x5x)) (.cons (some x14x) none (.ixs 1 (.t x12x) (.t x13x)) (.cons (some x15x) none (.ld 1 false (.t x14x)) (.cons (some x16x) 
  none (.callv (.t x11x) (.cons (.t x15x) .nil)) .nil))))))) (.cond (.t x16x) (.seq (.reg (.cons (some x17x) none (.mv (.t x5x)) (.cons (some x4x) none (.mv (.t x17x)) .nil))) 
  .ret) .skip)))) (.reg (.cons (some x18x) none (.bin .add (.t x8x) (.c (.n 1))) (.cons (some x8x) none (.mv (.t x18x)) .nil))))))))) (.seq (.reg (.cons (some x4x) none (.mv (.c 
  (.i .i64 (.negSucc 0)))) .nil)) .ret))) [(.tmp x4x)])
theorem cc95 : compF Try.prog drops true true Try.f95 = some i95 := by kernel_rfl
noncomputable def i96 : FnI := (.mk true true (.seq (.reg (.cons (some x4x) none (.mv (.c (.b false))) .nil)) (.seq (.reg (.cons (some x5x) none (.ld 1 false (.t x1x)) (.cons (some x6x) none (.ld 1 false (.t 
  x2x)) (.cons (some x7x) none (.slc 1 (.t x5x) (some (.t x6x)) none none) (.cons (some x8x) none (.mv (.t x0x)) (.cons (some x9x) none (.call 97 (.cons (.t x7x) (.cons (.t x8x) 
  .nil))) (.cons (some x10x) none (.not (.t x9x)) (.cons (some x4x) none (.mv (.t x10x)) .nil)))))))) .ret)) [(.tmp x4x)])
theorem cc96 : compF Try.prog drops true true Try.f96 = some i96 := by kernel_rfl
noncomputable def i97 : FnI := (.mk true true (.seq (.reg (.cons (some x4x) none (.mv (.c (.b false))) .nil)) (.seq (.reg (.cons (some x5x) none (.mv (.t x0x)) (.cons (some x6x) none (.mv (.t x1x)) (.cons (some 
  x7x) none (.call 115 (.cons (.t x5x) (.cons (.t x6x) .nil))) (.cons (some x8x) none (.bin .geq (.t x7x) (.c (.n 0))) (.cons (some x4x) none (.mv (.t x8x)) .nil)))))) .ret)) 
  [(.tmp x4x)])
theorem cc97 : compF Try.prog drops true true Try.f97 = some i97 := by kernel_rfl
noncomputable def i98 : FnI := (.mk false false (.seq (.reg (.cons (some x6x) none (.mv (.c .ns)) .nil)) (.seq (.reg (.cons (some x8x) none (.mv (.t x0x)) (.cons (some x9x) none (.mv (.t x1x)) (.cons (some x10x) 
  none (.mv (.t x2x)) (.cons (some x11x) none (.mv (.t x0x)) (.cons (some x12x) none (.len (.t x11x)) (.cons (some x13x) none (.slc 1 (.t x8x) (some (.t x9x)) (some (.t x10x)) 
  (some (.t x12x))) .nil))))))) (.seq (.seq (.reg (.cons (some x14x) none (.mv (.t x1x)) (.cons (some x15x) none (.mv (.t x2x)) (.cons (some x16x) none (.bin .eql (.t x14x) (.t 
  x15x)) .nil)))) (.cond (.t x16x) (.seq (.reg (.cons (some x17x) none (.mv (.t x0x)) (.cons (some x6x) none (.mv (.t x17x)) .nil))) .ret) .skip)) (.seq (.reg (.cons (some x18x) 
  none (.mv (.t x0x)) (.cons (some x19x) none (.len (.t x18x)) (.cons (some x7x) none (.mv (.t x19x)) .nil)))) (.seq (.draw [(.mk (some x20x) none true [] false [] [] [x0x] (.mv 
  (.t x0x)) false [] [] []), (.mk (some x21x) none true [] false [false] [] [x1x] (.mv (.t x1x)) false [] [] []), (.mk (some x22x) none false [] false [true, true] [] [x20x, x21x] 
  (.slc 1 (.t x20x) none (some (.t x21x)) none) false [] [] []), (.mk (some x23x) none true [] false [false, false, false] [] [x0x] (.mv (.t x0x)) false [] [] []), (.mk (some x24x) 
  none true [] false [false, false, false, false] [] [x2x] (.mv (.t x2x)) false [] [] []), (.mk (some x25x) none false [] false [true, true, false, false, false] [] [x23x, x24x] 
  (.slc 1 (.t x23x) (some (.t x24x)) none none) false [] [] []), (.mk (some x26x) none false [x22x, x25x] true [true, true, true, true, true, true] [] [x22x, x25x] (.app 3 1 8 (.t 
  x22x) (.t x25x)) false [] [] []), (.mk (some x0x) none true [] false [true, true, true, true, true, true, true] [] [x26x] (.mv (.t x26x)) false [] [] [])]) (.seq (.reg (.cons 
  (some x27x) none (.mv (.t x0x)) (.cons (some x28x) none (.mv (.t x0x)) (.cons (some x29x) none (.len (.t x28x)) (.cons (some x30x) none (.mv (.t x7x)) (.cons (some x31x) none 
  (.slm 1 (.t x27x) (.t x29x) (.t x30x)) (.cons none none (.clr (.n 0) (.t x31x)) .nil))))))) (.seq (.reg (.cons (some x32x) none (.mv (.t x0x)) (.cons (some x6x) none (.mv (.t 
  x32x)) .nil))) .ret))))))) [(.tmp x6x)])
theorem cc98 : compF Try.prog drops false false Try.f98 = some i98 := by kernel_rfl
noncomputable def i99 : FnI := (.mk true true (.seq (.reg (.cons (some x2x) none (.mv (.c (.n 0))) .nil)) (.seq (.seq (.reg (.cons (some x3x) none (.mv (.t x0x)) (.cons (some x4x) none (.bin .lss (.t x3x) (.c 
  (.n 2))) .nil))) (.cond (.t x4x) (.seq (.reg (.cons (some x2x) none (.mv (.c (.n 1))) .nil)) .ret) .skip)) (.seq (.reg (.cons (some x5x) none (.mv (.t x0x)) (.cons (some x6x) 
  none (.mv (.t x0x)) (.cons (some x7x) none (.bin .sub (.t x6x) (.c (.n 1))) (.cons (some x8x) none (.call 99 (.cons (.t x7x) .nil)) (.cons (some x9x) none (.bin .mul (.t x5x) (.t 
  x8x)) (.cons (some x2x) none (.mv (.t x9x)) .nil))))))) .ret))) [(.tmp x2x)])
theorem cc99 : compF Try.prog drops true true Try.f99 = some i99 := by kernel_rfl
noncomputable def i100 : FnI := (.mk true true (.seq (.reg (.cons (some x2x) none (.mv (.c (.n 0))) .nil)) (.seq (.seq (.reg (.cons (some x5x) none (.mv (.t x0x)) (.cons (some x6x) none (.len (.t x5x)) (.cons 
  (some x7x) none (.bin .lss (.t x6x) (.c (.n 1))) .nil)))) (.cond (.t x7x) (.reg (.cons (some x8x) none (.mki 9 (.c (.s [115, 108, 105, 99, 101, 115, 46, 77, 97, 120, 58, 32, 101, 
  109, 112, 116, 121, 32, 108, 105, 115, 116]))) (.cons none none .nope .nil))) .skip)) (.seq (.reg (.cons (some x9x) none (.mv (.t x0x)) (.cons (some x10x) none (.ixs 1 (.t x9x) 
  (.c (.n 0))) (.cons (some x11x) none (.ld 1 false (.t x10x)) (.cons (some x3x) none (.mv (.t x11x)) .nil))))) (.seq (.seq (.reg (.cons (some x4x) none (.mv (.c (.n 1))) .nil)) 
  (.block 0 (.loop (.seq (.seq (.reg (.cons (some x12x) none (.mv (.t x4x)) (.cons (some x13x) none (.mv (.t x0x)) (.cons (some x14x) none (.len (.t x13x)) (.cons (some x15x) none 
  (.bin .lss (.t x12x) (.t x14x)) .nil))))) (.cond (.t x15x) .skip (.exit 0))) (.seq (.block 1 (.reg (.cons (some x18x) none (.mv (.t x3x)) (.cons (some x19x) none (.mv (.t x0x)) 
  (.cons (some x20x) none (.mv (.t x4x)) (.cons (some x21x) none (.ixs 1 (.t x19x) (.t x20x)) (.cons (some x22x) none (.ld 1 false (.t x21x)) (.cons (some x23x) none (.mm true (.t 
  x18x) (.cons (.t x22x) .nil)) (.cons (some x3x) none (.mv (.t x23x)) .nil))))))))) (.reg (.cons (some x16x) none (.mv (.t x4x)) (.cons (some x17x) none (.bin .add (.t x16x) (.c 
  (.n 1))) (.cons (some x4x) none (.mv (.t x17x)) .nil))))))))) (.seq (.reg (.cons (some x24x) none (.mv (.t x3x)) (.cons (some x2x) none (.mv (.t x24x)) .nil))) .ret))))) [(.tmp 
  x2x)])
theorem cc100 : compF Try.prog drops true true Try.f100 = some i100 := by kernel_rfl
noncomputable def i101 : FnI := (.mk true false (.seq (.reg (.cons (some x2x) none (.box 97 (.t x0x)) (.cons (some x4x) none (.mv (.c .ns)) .nil))) (.seq (.reg (.cons (some x9x) none (.bsl 3 1 1 (.cons (.n 0) 
  .nil) (.cons 0 1 (.c (.i .i64 (.negSucc 0))) .nil)) (.cons (some x10x) none (.fad 0 (.t x2x)) (.cons (some x11x) none (.ld 1 false (.t x10x)) (.cons (some x12x) none (.call 116 
  (.cons (.t x9x) (.cons (.t x11x) .nil))) (.cons (some x5x) none (.mv (.t x12x)) .nil)))))) (.seq (.reg (.cons (some x13x) none (.mv (.t x5x)) (.cons (some x14x) none (.mv (.t 
  x1x)) (.cons (some x15x) none (.ixs 1 (.t x13x) (.t x14x)) (.cons none none (.st 1 (.t x15x) (.c (.n 0))) .nil))))) (.seq (.seq (.reg (.cons (some x16x) none (.mv (.t x1x)) 
  (.cons (some x17x) none (.bsl 3 1 1 (.cons (.n 0) .nil) (.cons 0 1 (.t x16x) .nil)) (.cons (some x6x) none (.mv (.t x17x)) .nil)))) (.block 0 (.loop (.seq (.seq (.reg (.cons 
  (some x18x) none (.mv (.t x6x)) (.cons (some x19x) none (.len (.t x18x)) (.cons (some x20x) none (.bin .gtr (.t x19x) (.c (.n 0))) .nil)))) (.cond (.t x20x) .skip (.exit 0))) 
  (.seq (.block 1 (.seq (.draw [(.mk (some x23x) none false [] false [] [] [x2x] (.ld 91 true (.t x2x)) false [] [] []), (.mk (some x24x) none true [] false [false] [] [x6x] (.mv 
  (.t x6x)) false [] [] []), (.mk (some x25x) none true [] false [true, false] [] [x24x] (.ixs 1 (.t x24x) (.c (.n 0))) false [] [] []), (.mk (some x26x) none false [] false [true, 
  true, false] [] [x25x] (.ld 1 false (.t x25x)) false [] [] []), (.mk (some x27x) none false [] true [true, true, true, true] [] [x23x, x26x] (.call 94 (.cons (.t x23x) (.cons (.t 
  x26x) .nil))) false [] [] []), (.mk (some x28x) none true [] false [true, true, true, true, true] [] [x27x] (.len (.t x27x)) false [] [] []), (.mk (some x29x) none true [] false 
  [false, false, false, false, false, false] [] [] (.mv (.c (.n 0))) false [] [] [])]) (.block 2 (.loop (.seq (.reg (.cons (some x30x) none (.bin .lss (.t x29x) (.t x28x)) .nil)) 
  (.seq (.cond (.t x30x) .skip (.exit 2)) (.seq (.block 3 (.seq (.reg (.cons (some x31x) none (.ixs 1 (.t x27x) (.t x29x)) (.cons (some x32x) none (.ld 1 false (.t x31x)) (.cons 
  (some x8x) none (.mv (.t x32x)) .nil)))) (.seq (.reg (.cons (some x33x) none (.mv (.t x5x)) (.cons (some x34x) none (.mv (.t x8x)) (.cons (some x35x) none (.ixs 1 (.t x33x) (.t 
  x34x)) (.cons (some x36x) none (.ld 1 false (.t x35x)) (.cons (some x37x) none (.bin .eql (.t x36x) (.c (.i .i64 (.negSucc 0)))) .nil)))))) (.cond (.t x37x) (.seq (.reg (.cons 
  (some x38x) none (.mv (.t x5x)) (.cons (some x39x) none (.mv (.t x8x)) (.cons (some x40x) none (.mv (.t x5x)) (.cons (some x41x) none (.mv (.t x6x)) (.cons (some x42x) none (.ixs 
  1 (.t x41x) (.c (.n 0))) (.cons (some x43x) none (.ld 1 false (.t x42x)) (.cons (some x44x) none (.ixs 1 (.t x40x) (.t x43x)) (.cons (some x45x) none (.ld 1 false (.t x44x)) 
  (.cons (some x46x) none (.bin .add (.t x45x) (.c (.n 1))) (.cons (some x47x) none (.ixs 1 (.t x38x) (.t x39x)) (.cons none none (.st 1 (.t x47x) (.t x46x)) .nil)))))))))))) (.reg 
  (.cons (some x48x) none (.mv (.t x6x)) (.cons (some x49x) none (.mv (.t x8x)) (.cons (some x50x) none (.bsl 3 1 1 (.cons (.n 0) .nil) (.cons 0 1 (.t x49x) .nil)) (.cons (some 
  x51x) none (.app 3 1 8 (.t x48x) (.t x50x)) (.cons (some x6x) none (.mv (.t x51x)) .nil))))))) .skip)))) (.reg (.cons (some x52x) none (.bin .add (.t x29x) (.c (.n 1))) (.cons 
  (some x29x) none (.mv (.t x52x)) .nil)))))))))) (.reg (.cons (some x21x) none (.mv (.t x6x)) (.cons (some x22x) none (.slc 1 (.t x21x) (some (.c (.n 1))) none none) (.cons (some 
  x6x) none (.mv (.t x22x)) .nil))))))))) (.seq (.reg (.cons (some x53x) none (.mv (.t x5x)) (.cons (some x4x) none (.mv (.t x53x)) .nil))) .ret))))) [(.tmp x4x)])
theorem cc101 : compF Try.prog drops true false Try.f101 = some i101 := by kernel_rfl
noncomputable def i102 : FnI := (.mk true true (.seq (.reg (.cons (some x2x) none (.mv (.c (.n 0))) .nil)) (.seq (.seq (.reg (.cons (some x5x) none (.mv (.t x0x)) (.cons (some x6x) none (.len (.t x5x)) (.cons 
  (some x7x) none (.bin .lss (.t x6x) (.c (.n 1))) .nil)))) (.cond (.t x7x) (.reg (.cons (some x8x) none (.mki 9 (.c (.s [115, 108, 105, 99, 101, 115, 46, 77, 105, 110, 58, 32, 
  101, 109, 112, 116, 121, 32, 108, 105, 115, 116]))) (.cons none none .nope .nil))) .skip)) (.seq (.reg (.cons (some x9x) none (.mv (.t x0x)) (.cons (some x10x) none (.ixs 1 (.t 
  x9x) (.c (.n 0))) (.cons (some x11x) none (.ld 1 false (.t x10x)) (.cons (some x3x) none (.mv (.t x11x)) .nil))))) (.seq (.seq (.reg (.cons (some x4x) none (.mv (.c (.n 1))) 
  .nil)) (.block 0 (.loop (.seq (.seq (.reg (.cons (some x12x) none (.mv (.t x4x)) (.cons (some x13x) none (.mv (.t x0x)) (.cons (some x14x) none (.len (.t x13x)) (.cons (some 
  x15x) none (.bin .lss (.t x12x) (.t x14x)) .nil))))) (.cond (.t x15x) .skip (.exit 0))) (.seq (.block 1 (.reg (.cons (some x18x) none (.mv (.t x3x)) (.cons (some x19x) none (.mv 
  (.t x0x)) (.cons (some x20x) none (.mv (.t x4x)) (.cons (some x21x) none (.ixs 1 (.t x19x) (.t x20x)) (.cons (some x22x) none (.ld 1 false (.t x21x)) (.cons (some x23x) none (.mm 
  false (.t x18x) (.cons (.t x22x) .nil)) (.cons (some x3x) none (.mv (.t x23x)) .nil))))))))) (.reg (.cons (some x16x) none (.mv (.t x4x)) (.cons (some x17x) none (.bin .add (.t 
  x16x) (.c (.n 1))) (.cons (some x4x) none (.mv (.t x17x)) .nil))))))))) (.seq (.reg (.cons (some x24x) none (.mv (.t x3x)) (.cons (some x2x) none (.mv (.t x24x)) .nil))) 
  .ret))))) [(.tmp x2x)])
theorem cc102 : compF Try.prog drops true true Try.f102 = some i102 := by kernel_rfl
noncomputable def i103 : FnI := (.mk true true (.seq (.reg (.cons (some x4x) none (.mv (.c (.b false))) .nil)) (.seq (.draw [(.mk (some x5x) none false [] false [] [] [x1x] (.ld 1 false (.t x1x)) false [] [] []), 
  (.mk (some x6x) none true [] false [false] [] [x0x] (.mv (.t x0x)) false [] [] []), (.mk (some x7x) none true [] false [true, true] [] [x5x, x6x] (.ixs 1 (.t x5x) (.t x6x)) false 
  [] [] []), (.mk (some x8x) none false [] false [true, true, true] [] [x7x] (.ld 1 false (.t x7x)) false [] [] []), (.mk (some x9x) none false [] false [false, false, false, 
  false] [] [x1x] (.ld 1 false (.t x1x)) false [] [] []), (.mk (some x10x) none false [] false [false, false, false, false, false] [] [x2x] (.ld 1 false (.t x2x)) false [] [] []), 
  (.mk (some x11x) none true [] false [true, true, false, false, false, false] [] [x9x, x10x] (.ixs 1 (.t x9x) (.t x10x)) false [] [] []), (.mk (some x12x) none false [] false 
  [true, true, true, false, false, false, false] [] [x11x] (.ld 1 false (.t x11x)) false [] [] []), (.mk (some x13x) none true [] false [true, true, true, true, true, true, true, 
  true] [] [x8x, x12x] (.bin .lss (.t x8x) (.t x12x)) false [] [] []), (.mk (some x4x) none true [] false [true, true, true, true, true, true, true, true, true] [] [x13x] (.mv (.t 
  x13x)) false [] [] [])]) .ret)) [(.tmp x4x)])
theorem cc103 : compF Try.prog drops true true Try.f103 = some i103 := by kernel_rfl
noncomputable def i104 : FnI := (.mk true true (.seq (.reg (.cons (some x2x) none (.box 97 (.t x0x)) (.cons (some x4x) none (.mv (.c (.n 0))) .nil))) (.seq (.reg (.cons (some x5x) none (.ld 91 true (.t x2x)) 
  (.cons (some x6x) none (.mv (.t x1x)) (.cons (some x7x) none (.call 94 (.cons (.t x5x) (.cons (.t x6x) .nil))) (.cons (some x8x) none (.len (.t x7x)) (.cons (some x4x) none (.mv 
  (.t x8x)) .nil)))))) .ret)) [(.tmp x4x)])
theorem cc104 : compF Try.prog drops true true Try.f104 = some i104 := by kernel_rfl
noncomputable def i105 : FnI := (.mk false false (.seq (.reg (.cons (some x4x) none (.box 65 (.t x1x)) .nil)) (.seq (.draw [(.mk (some x6x) none true [] false [] [] [x0x] (.mv (.t x0x)) false [] [] []), (.mk 
  (some x7x) none true [] false [false] [] [x4x] (.ixa 2 1 (.t x4x) (.c (.n 0))) false [] [] []), (.mk (some x8x) none false [] false [true, false] [] [x7x] (.ld 1 false (.t x7x)) 
  false [] [] []), (.mk (some x9x) none true [] false [false, false, false] [] [x4x] (.ixa 2 1 (.t x4x) (.c (.n 1))) false [] [] []), (.mk (some x10x) none false [] false [true, 
  false, false, false] [] [x9x] (.ld 1 false (.t x9x)) false [] [] []), (.mk (some x11x) none true [] false [false, false, false, false, false] [] [x2x] (.mv (.t x2x)) false [] [] 
  []), (.mk (some x12x) none true [] false [false, false, false, false, false, true] [] [x6x] (.nilck (.t x6x)) false [] [] []), (.mk (some x13x) none true [] false [true, false, 
  false, false, false, false, true] [] [x12x] (.fad 10 (.t x12x)) false [] [] []), (.mk (some x14x) none true [] false [true, true, false, false, false, true, true, true] [] [x13x, 
  x8x] (.ixa 9 9 (.t x13x) (.t x8x)) false [] [] []), (.mk (some x15x) none true [] false [true, true, true, true, true, true, true, true, true] [] [x14x, x10x] (.ixa 9 1 (.t x14x) 
  (.t x10x)) false [] [] []), (.mk none none false [x15x] false [true, true, true, true, true, true, true, true, true, true] [] [x15x, x11x] (.st 1 (.t x15x) (.t x11x)) false [] [] 
  [])]) (.draw [(.mk (some x16x) none true [] false [] [] [x0x] (.mv (.t x0x)) false [] [] []), (.mk (some x17x) none true [] false [false] [] [x4x] (.ixa 2 1 (.t x4x) (.c (.n 1))) 
  false [] [] []), (.mk (some x18x) none false [] false [true, false] [] [x17x] (.ld 1 false (.t x17x)) false [] [] []), (.mk (some x19x) none true [] false [false, false, false] 
  [] [x4x] (.ixa 2 1 (.t x4x) (.c (.n 0))) false [] [] []), (.mk (some x20x) none false [] false [true, false, false, false] [] [x19x] (.ld 1 false (.t x19x)) false [] [] []), (.mk 
  (some x21x) none true [] false [false, false, false, false, false] [] [x2x] (.mv (.t x2x)) false [] [] []), (.mk (some x22x) none true [] false [false, false, false, false, 
  false, true] [] [x16x] (.nilck (.t x16x)) false [] [] []), (.mk (some x23x) none true [] false [true, false, false, false, false, false, true] [] [x22x] (.fad 10 (.t x22x)) false 
  [] [] []), (.mk (some x24x) none true [] false [true, true, false, false, false, true, true, true] [] [x23x, x18x] (.ixa 9 9 (.t x23x) (.t x18x)) false [] [] []), (.mk (some 
  x25x) none true [] false [true, true, true, true, true, true, true, true, true] [] [x24x, x20x] (.ixa 9 1 (.t x24x) (.t x20x)) false [] [] []), (.mk none none false [x25x] false 
  [true, true, true, true, true, true, true, true, true, true] [] [x25x, x21x] (.st 1 (.t x25x) (.t x21x)) false [] [] [])]))) [])
theorem cc105 : compF Try.prog drops false false Try.f105 = some i105 := by kernel_rfl
noncomputable def i106 : FnI := (.mk true true (.seq (.reg (.cons (some x3x) none (.box 97 (.t x0x)) (.cons (some x6x) none (.mv (.c (.s []))) .nil))) (.seq (.reg (.cons (some x7x) none (.mv (.c .ns)) .nil)) 
  (.seq (.seq (.reg (.cons (some x10x) none (.ld 91 true (.t x3x)) (.cons (some x11x) none (.mv (.t x1x)) (.cons (some x12x) none (.call 94 (.cons (.t x10x) (.cons (.t x11x) 
  .nil))) (.cons (some x13x) none (.len (.t x12x)) (.cons (some x14x) none (.mv (.c (.n 0))) .nil)))))) (.block 0 (.loop (.seq (.reg (.cons (some x15x) none (.bin .lss (.t x14x) 
  (.t x13x)) .nil)) (.seq (.cond (.t x15x) .skip (.exit 0)) (.seq (.block 1 (.seq (.reg (.cons (some x16x) none (.ixs 1 (.t x12x) (.t x14x)) (.cons (some x17x) none (.ld 1 false 
  (.t x16x)) (.cons (some x9x) none (.mv (.t x17x)) .nil)))) (.seq (.reg (.cons (some x18x) none (.mv (.t x9x)) (.cons (some x19x) none (.mv (.t x2x)) (.cons (some x20x) none (.bin 
  .neq (.t x18x) (.t x19x)) .nil)))) (.cond (.t x20x) (.reg (.cons (some x21x) none (.mv (.t x7x)) (.cons (some x22x) none (.ld 91 true (.t x3x)) (.cons (some x23x) none (.mv (.t 
  x9x)) (.cons (some x24x) none (.mv (.t x1x)) (.cons (some x25x) none (.call 106 (.cons (.t x22x) (.cons (.t x23x) (.cons (.t x24x) .nil)))) (.cons (some x26x) none (.bsl 9 1 1 
  (.cons (.s []) .nil) (.cons 0 1 (.t x25x) .nil)) (.cons (some x27x) none (.app 9 1 16 (.t x21x) (.t x26x)) (.cons (some x7x) none (.mv (.t x27x)) .nil))))))))) .skip)))) (.reg 
  (.cons (some x28x) none (.bin .add (.t x14x) (.c (.n 1))) (.cons (some x14x) none (.mv (.t x28x)) .nil))))))))) (.seq (.reg (.cons (some x29x) none (.mv (.t x7x)) (.cons (some 
  x30x) none (.call 117 (.cons (.t x29x) .nil)) .nil))) (.seq (.reg (.cons (some x31x) none (.mv (.t x7x)) (.cons (some x32x) none (.call 90 (.cons (.t x31x) (.cons (.c (.s [])) 
  .nil))) (.cons (some x33x) none (.sbi .add (.c (.s [40])) (.t x32x)) (.cons (some x34x) none (.sbi .add (.t x33x) (.c (.s [41]))) (.cons (some x6x) none (.mv (.t x34x)) 
  .nil)))))) .ret))))) [(.tmp x6x)])
theorem cc106 : compF Try.prog drops true true Try.f106 = some i106 := by kernel_rfl
noncomputable def i107 : FnI := (.mk true true (.seq (.reg (.cons (some x2x) none (.mv (.c (.s []))) .nil)) (.seq (.seq (.reg (.cons (some x5x) none (.mv (.t x0x)) (.cons (some x6x) none (.len (.t x5x)) (.cons 
  (some x7x) none (.bin .lss (.t x6x) (.c (.n 1))) .nil)))) (.cond (.t x7x) (.reg (.cons (some x8x) none (.mki 9 (.c (.s [115, 108, 105, 99, 101, 115, 46, 77, 105, 110, 58, 32, 
  101, 109, 112, 116, 121, 32, 108, 105, 115, 116]))) (.cons none none .nope .nil))) .skip)) (.seq (.reg (.cons (some x9x) none (.mv (.t x0x)) (.cons (some x10x) none (.ixs 1 (.t 
  x9x) (.c (.n 0))) (.cons (some x11x) none (.ld 1 false (.t x10x)) (.cons (some x3x) none (.mv (.t x11x)) .nil))))) (.seq (.seq (.reg (.cons (some x4x) none (.mv (.c (.n 1))) 
  .nil)) (.block 0 (.loop (.seq (.seq (.reg (.cons (some x12x) none (.mv (.t x4x)) (.cons (some x13x) none (.mv (.t x0x)) (.cons (some x14x) none (.len (.t x13x)) (.cons (some 
  x15x) none (.bin .lss (.t x12x) (.t x14x)) .nil))))) (.cond (.t x15x) .skip (.exit 0))) (.seq (.block 1 (.reg (.cons (some x18x) none (.mv (.t x3x)) (.cons (some x19x) none (.mv 
  (.t x0x)) (.cons (some x20x) none (.mv (.t x4x)) (.cons (some x21x) none (.ixs 1 (.t x19x) (.t x20x)) (.cons (some x22x) none (.ld 1 false (.t x21x)) (.cons (some x23x) none 
  (.mns (.t x18x) (.t x22x)) (.cons (some x3x) none (.mv (.t x23x)) .nil))))))))) (.reg (.cons (some x16x) none (.mv (.t x4x)) (.cons (some x17x) none (.bin .add (.t x16x) (.c (.n 
  1))) (.cons (some x4x) none (.mv (.t x17x)) .nil))))))))) (.seq (.reg (.cons (some x24x) none (.mv (.t x3x)) (.cons (some x2x) none (.mv (.t x24x)) .nil))) .ret))))) [(.tmp 
  x2x)])
theorem cc107 : compF Try.prog drops true true Try.f107 = some i107 := by kernel_rfl
noncomputable def i108 : FnI := (.mk true false (.seq (.reg (.cons (some x4x) none (.mv (.c .ns)) .nil)) (.seq (.reg (.cons (some x7x) none (.mv (.t x0x)) (.cons (some x8x) none (.call 64 (.cons (.t x7x) .nil)) 
  (.cons (some x9x) none (.mks 3 1 8 1 (.cons (.n 0) .nil) (.t x8x) (.t x8x)) (.cons (some x5x) none (.mv (.t x9x)) .nil))))) (.seq (.seq (.reg (.cons (some x10x) none (.mv (.t 
  x5x)) (.cons (some x11x) none (.len (.t x10x)) (.cons (some x12x) none (.mv (.c (.n 0))) .nil)))) (.block 0 (.loop (.seq (.reg (.cons (some x13x) none (.bin .lss (.t x12x) (.t 
  x11x)) .nil)) (.seq (.cond (.t x13x) .skip (.exit 0)) (.seq (.block 1 (.seq (.reg (.cons (some x14x) none (.mv (.t x12x)) (.cons (some x6x) none (.mv (.t x14x)) .nil))) (.seq 
  (.reg (.cons (some x15x) none (.mv (.t x5x)) (.cons (some x16x) none (.mv (.t x5x)) (.cons (some x17x) none (.len (.t x16x)) (.cons (some x18x) none (.bin .sub (.t x17x) (.c (.n 
  1))) (.cons (some x19x) none (.mv (.t x6x)) (.cons (some x20x) none (.bin .sub (.t x18x) (.t x19x)) (.cons (some x21x) none (.mv (.t x1x)) (.cons (some x22x) none (.mv (.t x0x)) 
  (.cons (some x23x) none (.bin .rem (.t x21x) (.t x22x)) (.cons (some x24x) none (.ixs 1 (.t x15x) (.t x20x)) (.cons none none (.st 1 (.t x24x) (.t x23x)) .nil)))))))))))) (.reg 
  (.cons (some x25x) none (.mv (.t x1x)) (.cons (some x26x) none (.mv (.t x0x)) (.cons (some x27x) none (.bin .quo (.t x25x) (.t x26x)) (.cons (some x1x) none (.mv (.t x27x)) 
  .nil)))))))) (.reg (.cons (some x28x) none (.bin .add (.t x12x) (.c (.n 1))) (.cons (some x12x) none (.mv (.t x28x)) .nil))))))))) (.seq (.reg (.cons (some x29x) none (.mv (.t 
  x5x)) (.cons (some x4x) none (.mv (.t x29x)) .nil))) .ret)))) [(.tmp x4x)])
theorem cc108 : compF Try.prog drops true false Try.f108 = some i108 := by kernel_rfl
noncomputable def i109 : FnI := (.mk true true (.seq (.reg (.cons (some x4x) none (.mv (.c (.b false))) .nil)) (.seq (.reg (.cons (some x5x) none (.mv (.t x0x)) (.cons (some x6x) none (.mv (.t x1x)) (.cons (some 
  x7x) none (.call 118 (.cons (.t x5x) (.cons (.t x6x) .nil))) (.cons (some x4x) none (.mv (.t x7x)) .nil))))) .ret)) [(.tmp x4x)])
theorem cc109 : compF Try.prog drops true true Try.f109 = some i109 := by kernel_rfl
noncomputable def i112 : FnI := (.mk true true (.seq (.reg (.cons (some x4x) none (.mv (.c (.b false))) .nil)) (.seq (.reg (.cons (some x5x) none (.mv (.t x0x)) (.cons (some x6x) none (.slen (.t x5x)) (.cons 
  (some x7x) none (.mv (.t x1x)) (.cons (some x8x) none (.slen (.t x7x)) (.cons (some x9x) none (.bin .geq (.t x6x) (.t x8x)) (.cons (some x10x) none (.mv (.t x9x)) (.cons (some 
  x11x) (some (.mk x10x true)) (.mv (.t x0x)) (.cons (some x12x) (some (.mk x10x true)) (.mv (.t x1x)) (.cons (some x13x) (some (.mk x10x true)) (.slen (.t x12x)) (.cons (some 
  x14x) (some (.mk x10x true)) (.ssl (.t x11x) none (some (.t x13x))) (.cons (some x15x) (some (.mk x10x true)) (.mv (.t x1x)) (.cons (some x16x) (some (.mk x10x true)) (.sbi .eql 
  (.t x14x) (.t x15x)) (.cons (some x17x) none (.pick (.t x10x) (.t x16x) (.c (.b false))) (.cons (some x4x) none (.mv (.t x17x)) .nil))))))))))))))) .ret)) [(.tmp x4x)])
theorem cc112 : compF Try.prog drops true true Try.f112 = some i112 := by kernel_rfl
noncomputable def i115 : FnI := (.mk true true (.seq (.reg (.cons (some x4x) none (.mv (.c (.n 0))) .nil)) (.seq (.seq (.reg (.cons (some x6x) none (.mv (.t x0x)) (.cons (some x7x) none (.len (.t x6x)) (.cons 
  (some x8x) none (.mv (.c (.n 0))) .nil)))) (.block 0 (.loop (.seq (.reg (.cons (some x9x) none (.bin .lss (.t x8x) (.t x7x)) .nil)) (.seq (.cond (.t x9x) .skip (.exit 0)) (.seq 
  (.block 1 (.seq (.reg (.cons (some x10x) none (.mv (.t x8x)) (.cons (some x5x) none (.mv (.t x10x)) .nil))) (.seq (.reg (.cons (some x11x) none (.mv (.t x1x)) (.cons (some x12x) 
  none (.mv (.t x0x)) (.cons (some x13x) none (.mv (.t x5x)) (.cons (some x14x) none (.ixs 1 (.t x12x) (.t x13x)) (.cons (some x15x) none (.ld 1 false (.t x14x)) (.cons (some x16x) 
  none (.bin .eql (.t x11x) (.t x15x)) .nil))))))) (.cond (.t x16x) (.seq (.reg (.cons (some x17x) none (.mv (.t x5x)) (.cons (some x4x) none (.mv (.t x17x)) .nil))) .ret) 
  .skip)))) (.reg (.cons (some x18x) none (.bin .add (.t x8x) (.c (.n 1))) (.cons (some x8x) none (.mv (.t x18x)) .nil))))))))) (.seq (.reg (.cons (some x4x) none (.mv (.c (.i .i64 
  (.negSucc 0)))) .nil)) .ret))) [(.tmp x4x)])
theorem cc115 : compF Try.prog drops true true Try.f115 = some i115 := by kernel_rfl
noncomputable def i116 : FnI := (.mk true false (.seq (.reg (.cons (some x4x) none (.mv (.c .ns)) .nil)) (.seq (.seq (.reg (.cons (some x9x) none (.mv (.t x1x)) (.cons (some x10x) none (.bin .lss (.t x9x) (.c (.n 
  0))) .nil))) (.cond (.t x10x) (.reg (.cons (some x11x) none (.mki 9 (.c (.s [99, 97, 110, 110, 111, 116, 32, 98, 101, 32, 110, 101, 103, 97, 116, 105, 118, 101]))) (.cons none 
  none .nope .nil))) .skip)) (.seq (.reg (.cons (some x13x) none (.mv (.t x0x)) (.cons (some x14x) none (.len (.t x13x)) (.cons (some x15x) none (.conv .u64 (.t x14x)) (.cons (some 
  x16x) none (.mv (.t x1x)) (.cons (some x17x) none (.conv .u64 (.t x16x)) (.cons (some x18x) none (.call 126 (.cons (.t x15x) (.cons (.t x17x) .nil))) (.cons (some x12x) none (.mv 
  (.t x18x)) (.cons (some x19x) none (.ext 0 (.t x12x)) (.cons (some x20x) none (.ext 1 (.t x12x)) (.cons (some x5x) none (.mv (.t x19x)) (.cons (some x6x) none (.mv (.t x20x)) 
  .nil)))))))))))) (.seq (.seq (.reg (.cons (some x21x) none (.mv (.t x5x)) (.cons (some x22x) none (.bin .gtr (.t x21x) (.c (.i .u64 (.ofNat 0)))) (.cons (some x23x) none (.mv (.t 
  x22x)) (.cons (some x24x) (some (.mk x23x false)) (.mv (.t x6x)) (.cons (some x25x) (some (.mk x23x false)) (.bin .gtr (.t x24x) (.c (.i .u64 (.ofNat 9223372036854775807)))) 
  (.cons (some x26x) none (.pick (.t x23x) (.c (.b true)) (.t x25x)) .nil))))))) (.cond (.t x26x) (.reg (.cons (some x27x) none (.mki 9 (.c (.s [116, 104, 101, 32, 114, 101, 115, 
  117, 108, 116, 32, 111, 102, 32, 40, 108, 101, 110, 40, 120, 41, 32, 42, 32, 99, 111, 117, 110, 116, 41, 32, 111, 118, 101, 114, 102, 108, 111, 119, 115]))) (.cons none none 
  .nope .nil))) .skip)) (.seq (.reg (.cons (some x28x) none (.mv (.t x6x)) (.cons (some x29x) none (.conv .i64 (.t x28x)) (.cons (some x30x) none (.mks 3 1 8 1 (.cons (.n 0) .nil) 
  (.t x29x) (.t x29x)) (.cons (some x7x) none (.mv (.t x30x)) .nil))))) (.seq (.reg (.cons (some x31x) none (.mv (.t x7x)) (.cons (some x32x) none (.mv (.t x0x)) (.cons (some x33x) 
  none (.cpy (.t x31x) (.t x32x)) (.cons (some x8x) none (.mv (.t x33x)) .nil))))) (.seq (.block 0 (.loop (.seq (.seq (.reg (.cons (some x34x) none (.mv (.t x8x)) (.cons (some 
  x35x) none (.mv (.t x7x)) (.cons (some x36x) none (.len (.t x35x)) (.cons (some x37x) none (.bin .lss (.t x34x) (.t x36x)) .nil))))) (.cond (.t x37x) .skip (.exit 0))) (.block 1 
  (.draw [(.mk (some x38x) none true [] false [] [x41x, x44x] [x8x] (.mv (.t x8x)) false [] [] []), (.mk (some x39x) none true [] false [false] [] [x7x] (.mv (.t x7x)) false [] [] 
  []), (.mk (some x40x) none true [] false [false, false] [] [x8x] (.mv (.t x8x)) false [] [] []), (.mk (some x41x) none false [] false [true, true, false] [] [x39x, x40x] (.slc 1 
  (.t x39x) (some (.t x40x)) none none) false [] [] []), (.mk (some x42x) none true [] false [false, false, false, false] [] [x7x] (.mv (.t x7x)) false [] [] []), (.mk (some x43x) 
  none true [] false [false, false, false, false, false] [] [x8x] (.mv (.t x8x)) false [] [] []), (.mk (some x44x) none false [] false [true, true, false, false, false, false] [] 
  [x42x, x43x] (.slc 1 (.t x42x) none (some (.t x43x)) none) false [] [] []), (.mk (some x45x) none false [x41x, x44x] false [true, true, true, true, true, true, false] [] [x41x, 
  x44x] (.cpy (.t x41x) (.t x44x)) false [] [] []), (.mk (some x46x) none true [] false [true, true, true, true, true, true, true, true] [] [x38x, x45x] (.bin .add (.t x38x) (.t 
  x45x)) false [] [] []), (.mk (some x8x) none true [] false [true, true, true, true, true, true, true, true, true] [] [x46x] (.mv (.t x46x)) false [] [] [])]))))) (.seq (.reg 
  (.cons (some x47x) none (.mv (.t x7x)) (.cons (some x4x) none (.mv (.t x47x)) .nil))) .ret)))))))) [(.tmp x4x)])
theorem cc116 : compF Try.prog drops true false Try.f116 = some i116 := by kernel_rfl
noncomputable def i117 : FnI := (.mk false false (.seq (.reg (.cons (some x3x) none (.mv (.t x0x)) (.cons (some x4x) none (.len (.t x3x)) (.cons (some x2x) none (.mv (.t x4x)) .nil)))) (.reg (.cons (some x5x) 
  none (.mv (.t x0x)) (.cons (some x6x) none (.mv (.t x2x)) (.cons (some x7x) none (.mv (.t x2x)) (.cons (some x8x) none (.conv .u64 (.t x7x)) (.cons (some x9x) none (.call 128 
  (.cons (.t x8x) .nil)) (.cons (some x10x) none (.call 127 (.cons (.t x5x) (.cons (.c (.n 0)) (.cons (.t x6x) (.cons (.t x9x) .nil))))) .nil)))))))) [])
theorem cc117 : compF Try.prog drops false false Try.f117 = some i117 := by kernel_rfl
noncomputable def i118 : FnI := (.mk true true (.seq (.reg (.cons (some x4x) none (.mv (.c (.b false))) .nil)) (.seq (.reg (.cons (some x5x) none (.mv (.t x0x)) (.cons (some x6x) none (.slen (.t x5x)) (.cons 
  (some x7x) none (.mv (.t x1x)) (.cons (some x8x) none (.slen (.t x7x)) (.cons (some x9x) none (.bin .geq (.t x6x) (.t x8x)) (.cons (some x10x) none (.mv (.t x9x)) (.cons (some 
  x11x) (some (.mk x10x true)) (.mv (.t x0x)) (.cons (some x12x) (some (.mk x10x true)) (.mv (.t x0x)) (.cons (some x13x) (some (.mk x10x true)) (.slen (.t x12x)) (.cons (some 
  x14x) (some (.mk x10x true)) (.mv (.t x1x)) (.cons (some x15x) (some (.mk x10x true)) (.slen (.t x14x)) (.cons (some x16x) (some (.mk x10x true)) (.bin .sub (.t x13x) (.t x15x)) 
  (.cons (some x17x) (some (.mk x10x true)) (.ssl (.t x11x) (some (.t x16x)) none) (.cons (some x18x) (some (.mk x10x true)) (.mv (.t x1x)) (.cons (some x19x) (some (.mk x10x 
  true)) (.sbi .eql (.t x17x) (.t x18x)) (.cons (some x20x) none (.pick (.t x10x) (.t x19x) (.c (.b false))) (.cons (some x4x) none (.mv (.t x20x)) .nil)))))))))))))))))) .ret)) 
  [(.tmp x4x)])
theorem cc118 : compF Try.prog drops true true Try.f118 = some i118 := by kernel_rfl
noncomputable def i126 : FnI := (.mk true true (.seq (.reg (.cons (some x4x) none (.mv (.c (.i .u64 (.ofNat 0)))) (.cons (some x5x) none (.mv (.c (.i .u64 (.ofNat 0)))) .nil))) (.seq (.cond (.c (.b false)) (.seq 
  (.reg (.cons (some x11x) none (.mv (.t x0x)) (.cons (some x12x) none (.conv .u32 (.t x11x)) (.cons (some x13x) none (.mv (.t x1x)) (.cons (some x14x) none (.conv .u32 (.t x13x)) 
  (.cons (some x15x) none (.call 131 (.cons (.t x12x) (.cons (.t x14x) .nil))) (.cons (some x10x) none (.mv (.t x15x)) (.cons (some x16x) none (.ext 0 (.t x10x)) (.cons (some x17x) 
  none (.ext 1 (.t x10x)) (.cons (some x6x) none (.mv (.t x16x)) (.cons (some x7x) none (.mv (.t x17x)) .nil))))))))))) (.seq (.reg (.cons (some x18x) none (.mv (.t x6x)) (.cons 
  (some x19x) none (.conv .u64 (.t x18x)) (.cons (some x20x) none (.mv (.t x7x)) (.cons (some x21x) none (.conv .u64 (.t x20x)) (.cons (some x4x) none (.mv (.t x19x)) (.cons (some 
  x5x) none (.mv (.t x21x)) .nil))))))) .ret)) .skip) (.seq (.reg (.cons (some x23x) none (.mv (.t x0x)) (.cons (some x24x) none (.mv (.t x1x)) (.cons (some x25x) none (.call 132 
  (.cons (.t x23x) (.cons (.t x24x) .nil))) (.cons (some x22x) none (.mv (.t x25x)) (.cons (some x26x) none (.ext 0 (.t x22x)) (.cons (some x27x) none (.ext 1 (.t x22x)) (.cons 
  (some x8x) none (.mv (.t x26x)) (.cons (some x9x) none (.mv (.t x27x)) .nil))))))))) (.seq (.reg (.cons (some x28x) none (.mv (.t x8x)) (.cons (some x29x) none (.mv (.t x9x)) 
  (.cons (some x4x) none (.mv (.t x28x)) (.cons (some x5x) none (.mv (.t x29x)) .nil))))) .ret)))) [(.tmp x4x), (.tmp x5x)])
theorem cc126 : compF Try.prog drops true true Try.f126 = some i126 := by kernel_rfl
noncomputable def i127 : FnI := (.mk false false (.seq (.reg (.cons (some x8x) none (.mv (.c (.b true))) .nil)) (.seq (.reg (.cons (some x9x) none (.mv (.c (.b true))) .nil)) (.block 0 (.loop (.block 1 (.seq 
  (.reg (.cons (some x19x) none (.mv (.t x2x)) (.cons (some x20x) none (.mv (.t x1x)) (.cons (some x21x) none (.bin .sub (.t x19x) (.t x20x)) (.cons (some x10x) none (.mv (.t 
  x21x)) .nil))))) (.seq (.seq (.reg (.cons (some x22x) none (.mv (.t x10x)) (.cons (some x23x) none (.bin .leq (.t x22x) (.c (.n 12))) .nil))) (.cond (.t x23x) (.seq (.reg (.cons 
  (some x24x) none (.mv (.t x0x)) (.cons (some x25x) none (.mv (.t x1x)) (.cons (some x26x) none (.mv (.t x2x)) (.cons (some x27x) none (.call 133 (.cons (.t x24x) (.cons (.t x25x) 
  (.cons (.t x26x) .nil)))) .nil))))) .ret) .skip)) (.seq (.seq (.reg (.cons (some x28x) none (.mv (.t x3x)) (.cons (some x29x) none (.bin .eql (.t x28x) (.c (.n 0))) .nil))) 
  (.cond (.t x29x) (.seq (.reg (.cons (some x30x) none (.mv (.t x0x)) (.cons (some x31x) none (.mv (.t x1x)) (.cons (some x32x) none (.mv (.t x2x)) (.cons (some x33x) none (.call 
  134 (.cons (.t x30x) (.cons (.t x31x) (.cons (.t x32x) .nil)))) .nil))))) .ret) .skip)) (.seq (.seq (.reg (.cons (some x34x) none (.mv (.t x8x)) (.cons (some x35x) none (.not (.t 
  x34x)) .nil))) (.cond (.t x35x) (.seq (.reg (.cons (some x36x) none (.mv (.t x0x)) (.cons (some x37x) none (.mv (.t x1x)) (.cons (some x38x) none (.mv (.t x2x)) (.cons (some 
  x39x) none (.call 135 (.cons (.t x36x) (.cons (.t x37x) (.cons (.t x38x) .nil)))) .nil))))) (.reg (.cons (some x40x) none (.mv (.t x3x)) (.cons (some x41x) none (.bin .sub (.t 
  x40x) (.c (.n 1))) (.cons (some x3x) none (.mv (.t x41x)) .nil))))) .skip)) (.seq (.reg (.cons (some x43x) none (.mv (.t x0x)) (.cons (some x44x) none (.mv (.t x1x)) (.cons (some 
  x45x) none (.mv (.t x2x)) (.cons (some x46x) none (.call 136 (.cons (.t x43x) (.cons (.t x44x) (.cons (.t x45x) .nil)))) (.cons (some x42x) none (.mv (.t x46x)) (.cons (some 
  x47x) none (.ext 0 (.t x42x)) (.cons (some x48x) none (.ext 1 (.t x42x)) (.cons (some x11x) none (.mv (.t x47x)) (.cons (some x12x) none (.mv (.t x48x)) .nil)))))))))) (.seq 
  (.seq (.reg (.cons (some x49x) none (.mv (.t x12x)) (.cons (some x50x) none (.bin .eql (.t x49x) (.c (.n 2))) .nil))) (.cond (.t x50x) (.seq (.reg (.cons (some x51x) none (.mv 
  (.t x0x)) (.cons (some x52x) none (.mv (.t x1x)) (.cons (some x53x) none (.mv (.t x2x)) (.cons (some x54x) none (.call 137 (.cons (.t x51x) (.cons (.t x52x) (.cons (.t x53x) 
  .nil)))) .nil))))) (.seq (.reg (.cons (some x55x) none (.mv (.t x2x)) (.cons (some x56x) none (.bin .sub (.t x55x) (.c (.n 1))) (.cons (some x57x) none (.mv (.t x11x)) (.cons 
  (some x58x) none (.mv (.t x1x)) (.cons (some x59x) none (.bin .sub (.t x57x) (.t x58x)) (.cons (some x60x) none (.bin .sub (.t x56x) (.t x59x)) (.cons (some x11x) none (.mv (.t 
  x60x)) .nil)))))))) (.reg (.cons (some x12x) none (.mv (.c (.n 1))) .nil)))) .skip)) (.seq (.seq (.reg (.cons (some x61x) none (.mv (.t x8x)) (.cons (some x62x) none (.mv (.t 
  x61x)) (.cons (some x63x) (some (.mk x62x true)) (.mv (.t x9x)) (.cons (some x64x) none (.pick (.t x62x) (.t x63x) (.c (.b false))) (.cons (some x65x) none (.mv (.t x64x)) (.cons 
  (some x66x) (some (.mk x65x true)) (.mv (.t x12x)) (.cons (some x67x) (some (.mk x65x true)) (.bin .eql (.t x66x) (.c (.n 1))) (.cons (some x68x) none (.pick (.t x65x) (.t x67x) 
  (.c (.b false))) .nil))))))))) (.cond (.t x68x) (.seq (.reg (.cons (some x69x) none (.mv (.t x0x)) (.cons (some x70x) none (.mv (.t x1x)) (.cons (some x71x) none (.mv (.t x2x)) 
  (.cons (some x72x) none (.call 138 (.cons (.t x69x) (.cons (.t x70x) (.cons (.t x71x) .nil)))) .nil))))) (.cond (.t x72x) .ret .skip)) .skip)) (.seq (.seq (.draw [(.mk (some 
  x73x) none true [] false [] [] [x1x] (.mv (.t x1x)) false [] [] []), (.mk (some x74x) none true [] false [true] [] [x73x] (.bin .gtr (.t x73x) (.c (.n 0))) false [] [] []), (.mk 
  (some x75x) none true [] false [true, true] [] [x74x] (.mv (.t x74x)) false [] [] []), (.mk (some x76x) (some (.mk x75x true)) true [] false [true, true, true] [] [x75x, x0x] 
  (.mv (.t x0x)) false [] [] []), (.mk (some x77x) (some (.mk x75x true)) true [] false [false, true, true, true] [] [x75x, x1x] (.mv (.t x1x)) false [] [] []), (.mk (some x78x) 
  (some (.mk x75x true)) true [] false [true, false, true, true, true] [] [x75x, x77x] (.bin .sub (.t x77x) (.c (.n 1))) false [] [] []), (.mk (some x79x) (some (.mk x75x true)) 
  true [] false [true, true, true, true, true, true] [] [x75x, x76x, x78x] (.ixs 1 (.t x76x) (.t x78x)) false [] [] []), (.mk (some x80x) (some (.mk x75x true)) false [] false 
  [true, true, true, true, true, true, true] [] [x75x, x79x] (.ld 1 false (.t x79x)) false [] [] []), (.mk (some x81x) (some (.mk x75x true)) true [] false [false, false, false, 
  false, false, true, true, true] [] [x75x, x0x] (.mv (.t x0x)) false [] [] []), (.mk (some x82x) (some (.mk x75x true)) true [] false [false, false, false, false, false, false, 
  true, true, true] [] [x75x, x11x] (.mv (.t x11x)) false [] [] []), (.mk (some x83x) (some (.mk x75x true)) true [] false [true, true, false, false, false, false, false, true, 
  true, true] [] [x75x, x81x, x82x] (.ixs 1 (.t x81x) (.t x82x)) false [] [] []), (.mk (some x84x) (some (.mk x75x true)) false [] false [true, true, true, false, false, false, 
  false, false, true, true, true] [] [x75x, x83x] (.ld 1 false (.t x83x)) false [] [] []), (.mk (some x85x) (some (.mk x75x true)) false [] false [true, true, true, true, true, 
  true, true, true, true, true, true, true] [] [x75x, x80x, x84x] (.call 139 (.cons (.t x80x) (.cons (.t x84x) .nil))) false [] [] []), (.mk (some x86x) (some (.mk x75x true)) true 
  [] false [true, true, true, true, true, true, true, true, true, true, true, true, true] [] [x75x, x85x] (.not (.t x85x)) false [] [] []), (.mk (some x87x) none true [] false 
  [true, true, true, true, true, true, true, true, true, true, true, true, true, true] [] [x75x, x86x] (.pick (.t x75x) (.t x86x) (.c (.b false))) false [] [] [])]) (.cond (.t 
  x87x) (.seq (.reg (.cons (some x88x) none (.mv (.t x0x)) (.cons (some x89x) none (.mv (.t x1x)) (.cons (some x90x) none (.mv (.t x2x)) (.cons (some x91x) none (.mv (.t x11x)) 
  (.cons (some x92x) none (.call 140 (.cons (.t x88x) (.cons (.t x89x) (.cons (.t x90x) (.cons (.t x91x) .nil))))) (.cons (some x13x) none (.mv (.t x92x)) .nil))))))) (.seq (.reg 
  (.cons (some x93x) none (.mv (.t x13x)) (.cons (some x1x) none (.mv (.t x93x)) .nil))) (.exit 1))) .skip)) (.seq (.reg (.cons (some x95x) none (.mv (.t x0x)) (.cons (some x96x) 
  none (.mv (.t x1x)) (.cons (some x97x) none (.mv (.t x2x)) (.cons (some x98x) none (.mv (.t x11x)) (.cons (some x99x) none (.call 141 (.cons (.t x95x) (.cons (.t x96x) (.cons (.t 
  x97x) (.cons (.t x98x) .nil))))) (.cons (some x94x) none (.mv (.t x99x)) (.cons (some x100x) none (.ext 0 (.t x94x)) (.cons (some x101x) none (.ext 1 (.t x94x)) (.cons (some 
  x14x) none (.mv (.t x100x)) (.cons (some x15x) none (.mv (.t x101x)) .nil))))))))))) (.seq (.reg (.cons (some x102x) none (.mv (.t x15x)) (.cons (some x9x) none (.mv (.t x102x)) 
  .nil))) (.seq (.reg (.cons (some x103x) none (.mv (.t x14x)) (.cons (some x104x) none (.mv (.t x1x)) (.cons (some x105x) none (.bin .sub (.t x103x) (.t x104x)) (.cons (some 
  x106x) none (.mv (.t x2x)) (.cons (some x107x) none (.mv (.t x14x)) (.cons (some x108x) none (.bin .sub (.t x106x) (.t x107x)) (.cons (some x16x) none (.mv (.t x105x)) (.cons 
  (some x17x) none (.mv (.t x108x)) .nil))))))))) (.seq (.reg (.cons (some x109x) none (.mv (.t x10x)) (.cons (some x110x) none (.bin .quo (.t x109x) (.c (.n 8))) (.cons (some 
  x18x) none (.mv (.t x110x)) .nil)))) (.seq (.reg (.cons (some x111x) none (.mv (.t x16x)) (.cons (some x112x) none (.mv (.t x17x)) (.cons (some x113x) none (.bin .lss (.t x111x) 
  (.t x112x)) .nil)))) (.cond (.t x113x) (.seq (.reg (.cons (some x114x) none (.mv (.t x16x)) (.cons (some x115x) none (.mv (.t x18x)) (.cons (some x116x) none (.bin .geq (.t 
  x114x) (.t x115x)) (.cons (some x8x) none (.mv (.t x116x)) .nil))))) (.seq (.reg (.cons (some x117x) none (.mv (.t x0x)) (.cons (some x118x) none (.mv (.t x1x)) (.cons (some 
  x119x) none (.mv (.t x14x)) (.cons (some x120x) none (.mv (.t x3x)) (.cons (some x121x) none (.call 127 (.cons (.t x117x) (.cons (.t x118x) (.cons (.t x119x) (.cons (.t x120x) 
  .nil))))) .nil)))))) (.reg (.cons (some x122x) none (.mv (.t x14x)) (.cons (some x123x) none (.bin .add (.t x122x) (.c (.n 1))) (.cons (some x1x) none (.mv (.t x123x)) .nil)))))) 
  (.seq (.reg (.cons (some x124x) none (.mv (.t x17x)) (.cons (some x125x) none (.mv (.t x18x)) (.cons (some x126x) none (.bin .geq (.t x124x) (.t x125x)) (.cons (some x8x) none 
  (.mv (.t x126x)) .nil))))) (.seq (.reg (.cons (some x127x) none (.mv (.t x0x)) (.cons (some x128x) none (.mv (.t x14x)) (.cons (some x129x) none (.bin .add (.t x128x) (.c (.n 
  1))) (.cons (some x130x) none (.mv (.t x2x)) (.cons (some x131x) none (.mv (.t x3x)) (.cons (some x132x) none (.call 127 (.cons (.t x127x) (.cons (.t x129x) (.cons (.t x130x) 
  (.cons (.t x131x) .nil))))) .nil))))))) (.reg (.cons (some x133x) none (.mv (.t x14x)) (.cons (some x2x) none (.mv (.t x133x)) .nil)))))))))))))))))))))))) [])
theorem cc127 : compF Try.prog drops false false Try.f127 = some i127 := by kernel_rfl
noncomputable def i128 : FnI := (.mk true true (.seq (.reg (.cons (some x2x) none (.mv (.c (.n 0))) .nil)) (.seq (.cond (.c (.b false)) (.seq (.reg (.cons (some x3x) none (.mv (.t x0x)) (.cons (some x4x) none 
  (.conv .u32 (.t x3x)) (.cons (some x5x) none (.call 142 (.cons (.t x4x) .nil)) (.cons (some x2x) none (.mv (.t x5x)) .nil))))) .ret) .skip) (.seq (.reg (.cons (some x6x) none 
  (.mv (.t x0x)) (.cons (some x7x) none (.call 143 (.cons (.t x6x) .nil)) (.cons (some x2x) none (.mv (.t x7x)) .nil)))) .ret))) [(.tmp x2x)])
theorem cc128 : compF Try.prog drops true true Try.f128 = some i128 := by kernel_rfl
noncomputable def i131 : FnI := (.mk true true (.seq (.reg (.cons (some x4x) none (.mv (.c (.i .u32 (.ofNat 0)))) (.cons (some x5x) none (.mv (.c (.i .u32 (.ofNat 0)))) .nil))) (.seq (.reg (.cons (some x7x) none 
  (.mv (.t x0x)) (.cons (some x8x) none (.conv .u64 (.t x7x)) (.cons (some x9x) none (.mv (.t x1x)) (.cons (some x10x) none (.conv .u64 (.t x9x)) (.cons (some x11x) none (.bin .mul 
  (.t x8x) (.t x10x)) (.cons (some x6x) none (.mv (.t x11x)) .nil))))))) (.seq (.reg (.cons (some x12x) none (.mv (.t x6x)) (.cons (some x13x) none (.bin .shr (.t x12x) (.c (.i 
  .u64 (.ofNat 32)))) (.cons (some x14x) none (.conv .u32 (.t x13x)) (.cons (some x15x) none (.mv (.t x6x)) (.cons (some x16x) none (.conv .u32 (.t x15x)) (.cons (some x4x) none 
  (.mv (.t x14x)) (.cons (some x5x) none (.mv (.t x16x)) .nil)))))))) .ret))) [(.tmp x4x), (.tmp x5x)])
theorem cc131 : compF Try.prog drops true true Try.f131 = some i131 := by kernel_rfl
noncomputable def i132 : FnI := (.mk true true (.seq (.reg (.cons (some x4x) none (.mv (.c (.i .u64 (.ofNat 0)))) (.cons (some x5x) none (.mv (.c (.i .u64 (.ofNat 0)))) .nil))) (.seq (.reg (.cons (some x14x) none 
  (.mv (.t x0x)) (.cons (some x15x) none (.bin .and (.t x14x) (.c (.i .u64 (.ofNat 4294967295)))) (.cons (some x6x) none (.mv (.t x15x)) .nil)))) (.seq (.reg (.cons (some x16x) 
  none (.mv (.t x0x)) (.cons (some x17x) none (.bin .shr (.t x16x) (.c (.i .u64 (.ofNat 32)))) (.cons (some x7x) none (.mv (.t x17x)) .nil)))) (.seq (.reg (.cons (some x18x) none 
  (.mv (.t x1x)) (.cons (some x19x) none (.bin .and (.t x18x) (.c (.i .u64 (.ofNat 4294967295)))) (.cons (some x8x) none (.mv (.t x19x)) .nil)))) (.seq (.reg (.cons (some x20x) 
  none (.mv (.t x1x)) (.cons (some x21x) none (.bin .shr (.t x20x) (.c (.i .u64 (.ofNat 32)))) (.cons (some x9x) none (.mv (.t x21x)) .nil)))) (.seq (.reg (.cons (some x22x) none 
  (.mv (.t x6x)) (.cons (some x23x) none (.mv (.t x8x)) (.cons (some x24x) none (.bin .mul (.t x22x) (.t x23x)) (.cons (some x10x) none (.mv (.t x24x)) .nil))))) (.seq (.reg (.cons 
  (some x25x) none (.mv (.t x7x)) (.cons (some x26x) none (.mv (.t x8x)) (.cons (some x27x) none (.bin .mul (.t x25x) (.t x26x)) (.cons (some x28x) none (.mv (.t x10x)) (.cons 
  (some x29x) none (.bin .shr (.t x28x) (.c (.i .u64 (.ofNat 32)))) (.cons (some x30x) none (.bin .add (.t x27x) (.t x29x)) (.cons (some x11x) none (.mv (.t x30x)) .nil)))))))) 
  (.seq (.reg (.cons (some x31x) none (.mv (.t x11x)) (.cons (some x32x) none (.bin .and (.t x31x) (.c (.i .u64 (.ofNat 4294967295)))) (.cons (some x12x) none (.mv (.t x32x)) 
  .nil)))) (.seq (.reg (.cons (some x33x) none (.mv (.t x11x)) (.cons (some x34x) none (.bin .shr (.t x33x) (.c (.i .u64 (.ofNat 32)))) (.cons (some x13x) none (.mv (.t x34x)) 
  .nil)))) (.seq (.reg (.cons (some x35x) none (.mv (.t x12x)) (.cons (some x36x) none (.mv (.t x6x)) (.cons (some x37x) none (.mv (.t x9x)) (.cons (some x38x) none (.bin .mul (.t 
  x36x) (.t x37x)) (.cons (some x39x) none (.bin .add (.t x35x) (.t x38x)) (.cons (some x12x) none (.mv (.t x39x)) .nil))))))) (.seq (.reg (.cons (some x40x) none (.mv (.t x7x)) 
  (.cons (some x41x) none (.mv (.t x9x)) (.cons (some x42x) none (.bin .mul (.t x40x) (.t x41x)) (.cons (some x43x) none (.mv (.t x13x)) (.cons (some x44x) none (.bin .add (.t 
  x42x) (.t x43x)) (.cons (some x45x) none (.mv (.t x12x)) (.cons (some x46x) none (.bin .shr (.t x45x) (.c (.i .u64 (.ofNat 32)))) (.cons (some x47x) none (.bin .add (.t x44x) (.t 
  x46x)) (.cons (some x4x) none (.mv (.t x47x)) .nil)))))))))) (.seq (.reg (.cons (some x48x) none (.mv (.t x0x)) (.cons (some x49x) none (.mv (.t x1x)) (.cons (some x50x) none 
  (.bin .mul (.t x48x) (.t x49x)) (.cons (some x5x) none (.mv (.t x50x)) .nil))))) .ret)))))))))))) [(.tmp x4x), (.tmp x5x)])
theorem cc132 : compF Try.prog drops true true Try.f132 = some i132 := by kernel_rfl
noncomputable def i133 : FnI := (.mk false false (.seq (.reg (.cons (some x8x) none (.mv (.t x1x)) (.cons (some x9x) none (.bin .add (.t x8x) (.c (.n 1))) (.cons (some x6x) none (.mv (.t x9x)) .nil)))) (.block 0 
  (.loop (.seq (.seq (.reg (.cons (some x10x) none (.mv (.t x6x)) (.cons (some x11x) none (.mv (.t x2x)) (.cons (some x12x) none (.bin .lss (.t x10x) (.t x11x)) .nil)))) (.cond (.t 
  x12x) .skip (.exit 0))) (.seq (.block 1 (.seq (.reg (.cons (some x15x) none (.mv (.t x6x)) (.cons (some x7x) none (.mv (.t x15x)) .nil))) (.block 2 (.loop (.seq (.seq (.draw 
  [(.mk (some x16x) none true [] false [] [] [x7x] (.mv (.t x7x)) false [] [] []), (.mk (some x17x) none true [] false [false] [] [x1x] (.mv (.t x1x)) false [] [] []), (.mk (some 
  x18x) none true [] false [true, true] [] [x16x, x17x] (.bin .gtr (.t x16x) (.t x17x)) false [] [] []), (.mk (some x19x) none true [] false [true, true, true] [] [x18x] (.mv (.t 
  x18x)) false [] [] []), (.mk (some x20x) (some (.mk x19x true)) true [] false [true, true, true, true] [] [x19x, x0x] (.mv (.t x0x)) false [] [] []), (.mk (some x21x) (some (.mk 
  x19x true)) true [] false [false, true, true, true, true] [] [x19x, x7x] (.mv (.t x7x)) false [] [] []), (.mk (some x22x) (some (.mk x19x true)) true [] false [true, true, true, 
  true, true, true] [] [x19x, x20x, x21x] (.ixs 1 (.t x20x) (.t x21x)) false [] [] []), (.mk (some x23x) (some (.mk x19x true)) false [] false [true, true, true, true, true, true, 
  true] [] [x19x, x22x] (.ld 1 false (.t x22x)) false [] [] []), (.mk (some x24x) (some (.mk x19x true)) true [] false [false, false, false, false, true, true, true, true] [] 
  [x19x, x0x] (.mv (.t x0x)) false [] [] []), (.mk (some x25x) (some (.mk x19x true)) true [] false [false, false, false, false, false, true, true, true, true] [] [x19x, x7x] (.mv 
  (.t x7x)) false [] [] []), (.mk (some x26x) (some (.mk x19x true)) true [] false [true, false, false, false, false, false, true, true, true, true] [] [x19x, x25x] (.bin .sub (.t 
  x25x) (.c (.n 1))) false [] [] []), (.mk (some x27x) (some (.mk x19x true)) true [] false [true, true, true, false, false, false, false, true, true, true, true] [] [x19x, x24x, 
  x26x] (.ixs 1 (.t x24x) (.t x26x)) false [] [] []), (.mk (some x28x) (some (.mk x19x true)) false [] false [true, true, true, true, false, false, false, false, true, true, true, 
  true] [] [x19x, x27x] (.ld 1 false (.t x27x)) false [] [] []), (.mk (some x29x) (some (.mk x19x true)) false [] false [true, true, true, true, true, true, true, true, true, true, 
  true, true, true] [] [x19x, x23x, x28x] (.call 139 (.cons (.t x23x) (.cons (.t x28x) .nil))) false [] [] []), (.mk (some x30x) none true [] false [true, true, true, true, true, 
  true, true, true, true, true, true, true, true, true] [] [x19x, x29x] (.pick (.t x19x) (.t x29x) (.c (.b false))) false [] [] [])]) (.cond (.t x30x) .skip (.exit 2))) (.seq 
  (.block 3 (.draw [(.mk (some x33x) none true [] false [] [] [x0x] (.mv (.t x0x)) false [] [] []), (.mk (some x34x) none true [] false [false] [] [x7x] (.mv (.t x7x)) false [] [] 
  []), (.mk (some x35x) none true [] false [false, false] [x47x] [x0x] (.mv (.t x0x)) false [] [] []), (.mk (some x36x) none true [] false [false, false, false] [x47x] [x7x] (.mv 
  (.t x7x)) false [] [] []), (.mk (some x37x) none true [] false [true, false, false, false] [x47x] [x36x] (.bin .sub (.t x36x) (.c (.n 1))) false [] [] []), (.mk (some x38x) none 
  true [] false [false, false, false, false, false] [] [x0x] (.mv (.t x0x)) false [] [] []), (.mk (some x39x) none true [] false [false, false, false, false, false, false] [] [x7x] 
  (.mv (.t x7x)) false [] [] []), (.mk (some x40x) none true [] false [true, false, false, false, false, false, false] [] [x39x] (.bin .sub (.t x39x) (.c (.n 1))) false [] [] []), 
  (.mk (some x41x) none true [] false [true, true, true, false, false, false, false, false] [] [x38x, x40x] (.ixs 1 (.t x38x) (.t x40x)) false [] [] []), (.mk (some x42x) none 
  false [] false [true, true, true, true, false, false, false, false, false] [] [x41x] (.ld 1 false (.t x41x)) false [] [] []), (.mk (some x43x) none true [] false [false, false, 
  false, false, false, false, false, false, false, false] [] [x0x] (.mv (.t x0x)) false [] [] []), (.mk (some x44x) none true [] false [false, false, false, false, false, false, 
  false, false, false, false, false] [] [x7x] (.mv (.t x7x)) false [] [] []), (.mk (some x45x) none true [] false [true, true, false, false, false, false, false, false, false, 
  false, false, false] [] [x43x, x44x] (.ixs 1 (.t x43x) (.t x44x)) false [] [] []), (.mk (some x46x) none false [] false [true, true, true, false, false, false, false, false, 
  false, false, false, false, false] [] [x45x] (.ld 1 false (.t x45x)) false [] [] []), (.mk (some x47x) none true [] false [true, true, true, true, true, true, true, true, true, 
  false, false, false, true, true] [] [x33x, x34x] (.ixs 1 (.t x33x) (.t x34x)) false [] [] []), (.mk none none false [x47x] false [true, true, true, true, true, true, true, true, 
  true, true, false, false, false, true, true] [] [x47x, x42x] (.st 1 (.t x47x) (.t x42x)) false [] [] []), (.mk (some x48x) none true [] false [true, true, true, true, true, true, 
  true, true, true, true, true, true, true, true, true, true] [] [x35x, x37x] (.ixs 1 (.t x35x) (.t x37x)) false [] [] []), (.mk none none false [x48x] false [true, true, true, 
  true, true, true, true, true, true, true, true, true, true, true, true, true, true] [] [x48x, x46x] (.st 1 (.t x48x) (.t x46x)) false [] [] [])])) (.reg (.cons (some x31x) none 
  (.mv (.t x7x)) (.cons (some x32x) none (.bin .sub (.t x31x) (.c (.n 1))) (.cons (some x7x) none (.mv (.t x32x)) .nil)))))))))) (.reg (.cons (some x13x) none (.mv (.t x6x)) (.cons 
  (some x14x) none (.bin .add (.t x13x) (.c (.n 1))) (.cons (some x6x) none (.mv (.t x14x)) .nil))))))))) [])
theorem cc133 : compF Try.prog drops false false Try.f133 = some i133 := by kernel_rfl
noncomputable def i139 : FnI := (.mk true true (.seq (.reg (.cons (some x4x) none (.mv (.c (.b false))) .nil)) (.seq (.reg (.cons (some x5x) none (.mv (.t x0x)) (.cons (some x6x) none (.call 150 (.cons (.t x5x) 
  .nil)) (.cons (some x7x) none (.mv (.t x6x)) (.cons (some x8x) (some (.mk x7x true)) (.mv (.t x1x)) (.cons (some x9x) (some (.mk x7x true)) (.call 150 (.cons (.t x8x) .nil)) 
  (.cons (some x10x) (some (.mk x7x true)) (.not (.t x9x)) (.cons (some x11x) none (.pick (.t x7x) (.t x10x) (.c (.b false))) (.cons (some x12x) none (.mv (.t x11x)) (.cons (some 
  x13x) (some (.mk x12x false)) (.mv (.t x0x)) (.cons (some x14x) (some (.mk x12x false)) (.mv (.t x1x)) (.cons (some x15x) (some (.mk x12x false)) (.sbi .lss (.t x13x) (.t x14x)) 
  (.cons (some x16x) none (.pick (.t x12x) (.c (.b true)) (.t x15x)) (.cons (some x4x) none (.mv (.t x16x)) .nil)))))))))))))) .ret)) [(.tmp x4x)])
theorem cc139 : compF Try.prog drops true true Try.f139 = some i139 := by kernel_rfl
noncomputable def i142 : FnI := (.mk true true (.seq (.reg (.cons (some x2x) none (.mv (.c (.n 0))) .nil)) (.seq (.seq (.reg (.cons (some x3x) none (.mv (.t x0x)) (.cons (some x4x) none (.bin .geq (.t x3x) (.c 
  (.i .u32 (.ofNat 65536)))) .nil))) (.cond (.t x4x) (.seq (.reg (.cons (some x5x) none (.mv (.t x0x)) (.cons (some x6x) none (.bin .shr (.t x5x) (.c (.i .u64 (.ofNat 16)))) (.cons 
  (some x0x) none (.mv (.t x6x)) .nil)))) (.reg (.cons (some x2x) none (.mv (.c (.n 16))) .nil))) .skip)) (.seq (.seq (.reg (.cons (some x7x) none (.mv (.t x0x)) (.cons (some x8x) 
  none (.bin .geq (.t x7x) (.c (.i .u32 (.ofNat 256)))) .nil))) (.cond (.t x8x) (.seq (.reg (.cons (some x9x) none (.mv (.t x0x)) (.cons (some x10x) none (.bin .shr (.t x9x) (.c 
  (.i .u64 (.ofNat 8)))) (.cons (some x0x) none (.mv (.t x10x)) .nil)))) (.reg (.cons (some x11x) none (.mv (.t x2x)) (.cons (some x12x) none (.bin .add (.t x11x) (.c (.n 8))) 
  (.cons (some x2x) none (.mv (.t x12x)) .nil))))) .skip)) (.seq (.reg (.cons (some x13x) none (.mv (.t x2x)) (.cons (some x14x) none (.mv (.t x0x)) (.cons (some x15x) none (.conv 
  .u8 (.t x14x)) (.cons (some x16x) none (.six (.c (.s [0, 1, 2, 2, 3, 3, 3, 3, 4, 4, 4, 4, 4, 4, 4, 4, 5, 5, 5, 5, 5, 5, 5, 5, 5, 5, 5, 5, 5, 5, 5, 5, 6, 6, 6, 6, 6, 6, 6, 6, 6, 
  6, 6, 6, 6, 6, 6, 6, 6, 6, 6, 6, 6, 6, 6, 6, 6, 6, 6, 6, 6, 6, 6, 6, 7, 7, 7, 7, 7, 7, 7, 7, 7, 7, 7, 7, 7, 7, 7, 7, 7, 7, 7, 7, 7, 7, 7, 7, 7, 7, 7, 7, 7, 7, 7, 7, 7, 7, 7, 7, 
  7, 7, 7, 7, 7, 7, 7, 7, 7, 7, 7, 7, 7, 7, 7, 7, 7, 7, 7, 7, 7, 7, 7, 7, 7, 7, 7, 7, 8, 8, 8, 8, 8, 8, 8, 8, 8, 8, 8, 8, 8, 8, 8, 8, 8, 8, 8, 8, 8, 8, 8, 8, 8, 8, 8, 8, 8, 8, 8, 
  8, 8, 8, 8, 8, 8, 8, 8, 8, 8, 8, 8, 8, 8, 8, 8, 8, 8, 8, 8, 8, 8, 8, 8, 8, 8, 8, 8, 8, 8, 8, 8, 8, 8, 8, 8, 8, 8, 8, 8, 8, 8, 8, 8, 8, 8, 8, 8, 8, 8, 8, 8, 8, 8, 8, 8, 8, 8, 8, 
  8, 8, 8, 8, 8, 8, 8, 8, 8, 8, 8, 8, 8, 8, 8, 8, 8, 8, 8, 8, 8, 8, 8, 8, 8, 8, 8, 8, 8, 8, 8, 8, 8, 8, 8, 8, 8, 8])) (.t x15x)) (.cons (some x17x) none (.conv .i64 (.t x16x)) 
  (.cons (some x18x) none (.bin .add (.t x13x) (.t x17x)) (.cons (some x2x) none (.mv (.t x18x)) .nil)))))))) .ret)))) [(.tmp x2x)])
theorem cc142 : compF Try.prog drops true true Try.f142 = some i142 := by kernel_rfl
noncomputable def i143 : FnI := (.mk true true (.seq (.reg (.cons (some x2x) none (.mv (.c (.n 0))) .nil)) (.seq (.seq (.reg (.cons (some x3x) none (.mv (.t x0x)) (.cons (some x4x) none (.bin .geq (.t x3x) (.c 
  (.i .u64 (.ofNat 4294967296)))) .nil))) (.cond (.t x4x) (.seq (.reg (.cons (some x5x) none (.mv (.t x0x)) (.cons (some x6x) none (.bin .shr (.t x5x) (.c (.i .u64 (.ofNat 32)))) 
  (.cons (some x0x) none (.mv (.t x6x)) .nil)))) (.reg (.cons (some x2x) none (.mv (.c (.n 32))) .nil))) .skip)) (.seq (.seq (.reg (.cons (some x7x) none (.mv (.t x0x)) (.cons 
  (some x8x) none (.bin .geq (.t x7x) (.c (.i .u64 (.ofNat 65536)))) .nil))) (.cond (.t x8x) (.seq (.reg (.cons (some x9x) none (.mv (.t x0x)) (.cons (some x10x) none (.bin .shr 
  (.t x9x) (.c (.i .u64 (.ofNat 16)))) (.cons (some x0x) none (.mv (.t x10x)) .nil)))) (.reg (.cons (some x11x) none (.mv (.t x2x)) (.cons (some x12x) none (.bin .add (.t x11x) (.c 
  (.n 16))) (.cons (some x2x) none (.mv (.t x12x)) .nil))))) .skip)) (.seq (.seq (.reg (.cons (some x13x) none (.mv (.t x0x)) (.cons (some x14x) none (.bin .geq (.t x13x) (.c (.i 
  .u64 (.ofNat 256)))) .nil))) (.cond (.t x14x) (.seq (.reg (.cons (some x15x) none (.mv (.t x0x)) (.cons (some x16x) none (.bin .shr (.t x15x) (.c (.i .u64 (.ofNat 8)))) (.cons 
  (some x0x) none (.mv (.t x16x)) .nil)))) (.reg (.cons (some x17x) none (.mv (.t x2x)) (.cons (some x18x) none (.bin .add (.t x17x) (.c (.n 8))) (.cons (some x2x) none (.mv (.t 
  x18x)) .nil))))) .skip)) (.seq (.reg (.cons (some x19x) none (.mv (.t x2x)) (.cons (some x20x) none (.mv (.t x0x)) (.cons (some x21x) none (.conv .u8 (.t x20x)) (.cons (some 
  x22x) none (.six (.c (.s [0, 1, 2, 2, 3, 3, 3, 3, 4, 4, 4, 4, 4, 4, 4, 4, 5, 5, 5, 5, 5, 5, 5, 5, 5, 5, 5, 5, 5, 5, 5, 5, 6, 6, 6, 6, 6, 6, 6, 6, 6, 6, 6, 6, 6, 6, 6, 6, 6, 6, 6, 
  6, 6, 6, 6, 6, 6, 6, 6, 6, 6, 6, 6, 6, 7, 7, 7, 7, 7, 7, 7, 7, 7, 7, 7, 7, 7, 7, 7, 7, 7, 7, 7, 7, 7, 7, 7, 7, 7, 7, 7, 7, 7, 7, 7, 7, 7, 7, 7, 7, 7, 7, 7, 7, 7, 7, 7, 7, 7, 7, 
  7, 7, 7, 7, 7, 7, 7, 7, 7, 7, 7, 7, 7, 7, 7, 7, 7, 7, 8, 8, 8, 8, 8, 8, 8, 8, 8, 8, 8, 8, 8, 8, 8, 8, 8, 8, 8, 8, 8, 8, 8, 8, 8, 8, 8, 8, 8, 8, 8, 8, 8, 8, 8, 8, 8, 8, 8, 8, 8, 
  8, 8, 8, 8, 8, 8, 8, 8, 8, 8, 8, 8, 8, 8, 8, 8, 8, 8, 8, 8, 8, 8, 8, 8, 8, 8, 8, 8, 8, 8, 8, 8, 8, 8, 8, 8, 8, 8, 8, 8, 8, 8, 8, 8, 8, 8, 8, 8, 8, 8, 8, 8, 8, 8, 8, 8, 8, 8, 8, 
  8, 8, 8, 8, 8, 8, 8, 8, 8, 8, 8, 8, 8, 8, 8, 8, 8, 8, 8, 8, 8, 8, 8, 8, 8, 8, 8, 8])) (.t x21x)) (.cons (some x23x) none (.conv .i64 (.t x22x)) (.cons (some x24x) none (.bin .add 
  (.t x19x) (.t x23x)) (.cons (some x2x) none (.mv (.t x24x)) .nil)))))))) .ret))))) [(.tmp x2x)])
theorem cc143 : compF Try.prog drops true true Try.f143 = some i143 := by kernel_rfl
noncomputable def i150 : FnI := (.mk true true (.seq (.reg (.cons (some x2x) none (.mv (.c (.b false))) .nil)) (.seq (.reg (.cons (some x3x) none (.mv (.t x0x)) (.cons (some x4x) none (.mv (.t x0x)) (.cons (some 
  x5x) none (.sbi .neq (.t x3x) (.t x4x)) (.cons (some x2x) none (.mv (.t x5x)) .nil))))) .ret)) [(.tmp x2x)])
theorem cc150 : compF Try.prog drops true true Try.f150 = some i150 := by kernel_rfl
noncomputable def fs150 : List (Nat × FnI) := (150, i150) :: []
theorem l150 : Listed Try.prog fs150 := listed_cons Try.func150 cc150 listed_nil (by decide)
noncomputable def fs143 : List (Nat × FnI) := (143, i143) :: fs150
theorem l143 : Listed Try.prog fs143 := listed_cons Try.func143 cc143 l150 (by decide)
noncomputable def fs142 : List (Nat × FnI) := (142, i142) :: fs143
theorem l142 : Listed Try.prog fs142 := listed_cons Try.func142 cc142 l143 (by decide)
noncomputable def fs139 : List (Nat × FnI) := (139, i139) :: fs142
theorem l139 : Listed Try.prog fs139 := listed_cons Try.func139 cc139 l142 (by decide)
noncomputable def fs133 : List (Nat × FnI) := (133, i133) :: fs139
theorem l133 : Listed Try.prog fs133 := listed_cons Try.func133 cc133 l139 (by decide)
noncomputable def fs132 : List (Nat × FnI) := (132, i132) :: fs133
theorem l132 : Listed Try.prog fs132 := listed_cons Try.func132 cc132 l133 (by decide)
noncomputable def fs131 : List (Nat × FnI) := (131, i131) :: fs132
theorem l131 : Listed Try.prog fs131 := listed_cons Try.func131 cc131 l132 (by decide)
noncomputable def fs128 : List (Nat × FnI) := (128, i128) :: fs131
theorem l128 : Listed Try.prog fs128 := listed_cons Try.func128 cc128 l131 (by decide)
noncomputable def fs127 : List (Nat × FnI) := (127, i127) :: fs128
theorem l127 : Listed Try.prog fs127 := listed_cons Try.func127 cc127 l128 (by decide)
noncomputable def fs126 : List (Nat × FnI) := (126, i126) :: fs127
theorem l126 : Listed Try.prog fs126 := listed_cons Try.func126 cc126 l127 (by decide)
noncomputable def fs118 : List (Nat × FnI) := (118, i118) :: fs126
theorem l118 : Listed Try.prog fs118 := listed_cons Try.func118 cc118 l126 (by decide)
noncomputable def fs117 : List (Nat × FnI) := (117, i117) :: fs118
theorem l117 : Listed Try.prog fs117 := listed_cons Try.func117 cc117 l118 (by decide)
noncomputable def fs116 : List (Nat × FnI) := (116, i116) :: fs117
theorem l116 : Listed Try.prog fs116 := listed_cons Try.func116 cc116 l117 (by decide)
noncomputable def fs115 : List (Nat × FnI) := (115, i115) :: fs116
theorem l115 : Listed Try.prog fs115 := listed_cons Try.func115 cc115 l116 (by decide)
noncomputable def fs112 : List (Nat × FnI) := (112, i112) :: fs115
theorem l112 : Listed Try.prog fs112 := listed_cons Try.func112 cc112 l115 (by decide)
noncomputable def fs109 : List (Nat × FnI) := (109, i109) :: fs112
theorem l109 : Listed Try.prog fs109 := listed_cons Try.func109 cc109 l112 (by decide)
noncomputable def fs108 : List (Nat × FnI) := (108, i108) :: fs109
theorem l108 : Listed Try.prog fs108 := listed_cons Try.func108 cc108 l109 (by decide)
noncomputable def fs107 : List (Nat × FnI) := (107, i107) :: fs108
theorem l107 : Listed Try.prog fs107 := listed_cons Try.func107 cc107 l108 (by decide)
noncomputable def fs106 : List (Nat × FnI) := (106, i106) :: fs107
theorem l106 : Listed Try.prog fs106 := listed_cons Try.func106 cc106 l107 (by decide)
noncomputable def fs105 : List (Nat × FnI) := (105, i105) :: fs106
theorem l105 : Listed Try.prog fs105 := listed_cons Try.func105 cc105 l106 (by decide)
noncomputable def fs104 : List (Nat × FnI) := (104, i104) :: fs105
theorem l104 : Listed Try.prog fs104 := listed_cons Try.func104 cc104 l105 (by decide)
noncomputable def fs103 : List (Nat × FnI) := (103, i103) :: fs104
theorem l103 : Listed Try.prog fs103 := listed_cons Try.func103 cc103 l104 (by decide)
noncomputable def fs102 : List (Nat × FnI) := (102, i102) :: fs103
theorem l102 : Listed Try.prog fs102 := listed_cons Try.func102 cc102 l103 (by decide)
noncomputable def fs101 : List (Nat × FnI) := (101, i101) :: fs102
theorem l101 : Listed Try.prog fs101 := listed_cons Try.func101 cc101 l102 (by decide)
noncomputable def fs100 : List (Nat × FnI) := (100, i100) :: fs101
theorem l100 : Listed Try.prog fs100 := listed_cons Try.func100 cc100 l101 (by decide)
noncomputable def fs99 : List (Nat × FnI) := (99, i99) :: fs100
theorem l99 : Listed Try.prog fs99 := listed_cons Try.func99 cc99 l100 (by decide)
noncomputable def fs98 : List (Nat × FnI) := (98, i98) :: fs99
theorem l98 : Listed Try.prog fs98 := listed_cons Try.func98 cc98 l99 (by decide)
noncomputable def fs97 : List (Nat × FnI) := (97, i97) :: fs98
theorem l97 : Listed Try.prog fs97 := listed_cons Try.func97 cc97 l98 (by decide)
noncomputable def fs96 : List (Nat × FnI) := (96, i96) :: fs97
theorem l96 : Listed Try.prog fs96 := listed_cons Try.func96 cc96 l97 (by decide)
noncomputable def fs95 : List (Nat × FnI) := (95, i95) :: fs96
theorem l95 : Listed Try.prog fs95 := listed_cons Try.func95 cc95 l96 (by decide)
noncomputable def fs94 : List (Nat × FnI) := (94, i94) :: fs95
theorem l94 : Listed Try.prog fs94 := listed_cons Try.func94 cc94 l95 (by decide)
noncomputable def fs91 : List (Nat × FnI) := (91, i91) :: fs94
theorem l91 : Listed Try.prog fs91 := listed_cons Try.func91 cc91 l94 (by decide)
noncomputable def fs89 : List (Nat × FnI) := (89, i89) :: fs91
theorem l89 : Listed Try.prog fs89 := listed_cons Try.func89 cc89 l91 (by decide)
noncomputable def fs86 : List (Nat × FnI) := (86, i86) :: fs89
theorem l86 : Listed Try.prog fs86 := listed_cons Try.func86 cc86 l89 (by decide)
noncomputable def fs85 : List (Nat × FnI) := (85, i85) :: fs86
theorem l85 : Listed Try.prog fs85 := listed_cons Try.func85 cc85 l86 (by decide)
noncomputable def fs84 : List (Nat × FnI) := (84, i84) :: fs85
theorem l84 : Listed Try.prog fs84 := listed_cons Try.func84 cc84 l85 (by decide)
noncomputable def fs83 : List (Nat × FnI) := (83, i83) :: fs84
theorem l83 : Listed Try.prog fs83 := listed_cons Try.func83 cc83 l84 (by decide)
noncomputable def fs82 : List (Nat × FnI) := (82, i82) :: fs83
theorem l82 : Listed Try.prog fs82 := listed_cons Try.func82 cc82 l83 (by decide)
noncomputable def fs81 : List (Nat × FnI) := (81, i81) :: fs82
theorem l81 : Listed Try.prog fs81 := listed_cons Try.func81 cc81 l82 (by decide)
noncomputable def fs80 : List (Nat × FnI) := (80, i80) :: fs81
theorem l80 : Listed Try.prog fs80 := listed_cons Try.func80 cc80 l81 (by decide)
noncomputable def fs79 : List (Nat × FnI) := (79, i79) :: fs80
theorem l79 : Listed Try.prog fs79 := listed_cons Try.func79 cc79 l80 (by decide)
noncomputable def fs78 : List (Nat × FnI) := (78, i78) :: fs79
theorem l78 : Listed Try.prog fs78 := listed_cons Try.func78 cc78 l79 (by decide)
noncomputable def fs77 : List (Nat × FnI) := (77, i77) :: fs78
theorem l77 : Listed Try.prog fs77 := listed_cons Try.func77 cc77 l78 (by decide)
noncomputable def fs76 : List (Nat × FnI) := (76, i76) :: fs77
theorem l76 : Listed Try.prog fs76 := listed_cons Try.func76 cc76 l77 (by decide)
noncomputable def fs75 : List (Nat × FnI) := (75, i75) :: fs76
theorem l75 : Listed Try.prog fs75 := listed_cons Try.func75 cc75 l76 (by decide)
noncomputable def fs74 : List (Nat × FnI) := (74, i74) :: fs75
theorem l74 : Listed Try.prog fs74 := listed_cons Try.func74 cc74 l75 (by decide)
noncomputable def fs73 : List (Nat × FnI) := (73, i73) :: fs74
theorem l73 : Listed Try.prog fs73 := listed_cons Try.func73 cc73 l74 (by decide)
noncomputable def fs72 : List (Nat × FnI) := (72, i72) :: fs73
theorem l72 : Listed Try.prog fs72 := listed_cons Try.func72 cc72 l73 (by decide)
noncomputable def fs71 : List (Nat × FnI) := (71, i71) :: fs72
theorem l71 : Listed Try.prog fs71 := listed_cons Try.func71 cc71 l72 (by decide)
noncomputable def fs70 : List (Nat × FnI) := (70, i70) :: fs71
theorem l70 : Listed Try.prog fs70 := listed_cons Try.func70 cc70 l71 (by decide)
noncomputable def fs69 : List (Nat × FnI) := (69, i69) :: fs70
theorem l69 : Listed Try.prog fs69 := listed_cons Try.func69 cc69 l70 (by decide)
noncomputable def fs68 : List (Nat × FnI) := (68, i68) :: fs69
theorem l68 : Listed Try.prog fs68 := listed_cons Try.func68 cc68 l69 (by decide)
noncomputable def fs67 : List (Nat × FnI) := (67, i67) :: fs68
theorem l67 : Listed Try.prog fs67 := listed_cons Try.func67 cc67 l68 (by decide)
noncomputable def fs66 : List (Nat × FnI) := (66, i66) :: fs67
theorem l66 : Listed Try.prog fs66 := listed_cons Try.func66 cc66 l67 (by decide)
noncomputable def fs65 : List (Nat × FnI) := (65, i65) :: fs66
theorem l65 : Listed Try.prog fs65 := listed_cons Try.func65 cc65 l66 (by decide)
noncomputable def fs64 : List (Nat × FnI) := (64, i64) :: fs65
theorem l64 : Listed Try.prog fs64 := listed_cons Try.func64 cc64 l65 (by decide)
noncomputable def fs63 : List (Nat × FnI) := (63, i63) :: fs64
theorem l63 : Listed Try.prog fs63 := listed_cons Try.func63 cc63 l64 (by decide)
noncomputable def fs62 : List (Nat × FnI) := (62, i62) :: fs63
theorem l62 : Listed Try.prog fs62 := listed_cons Try.func62 cc62 l63 (by decide)
noncomputable def fs61 : List (Nat × FnI) := (61, i61) :: fs62
theorem l61 : Listed Try.prog fs61 := listed_cons Try.func61 cc61 l62 (by decide)
noncomputable def fs59 : List (Nat × FnI) := (59, i59) :: fs61
theorem l59 : Listed Try.prog fs59 := listed_cons Try.func59 cc59 l61 (by decide)
noncomputable def fs58 : List (Nat × FnI) := (58, i58) :: fs59
theorem l58 : Listed Try.prog fs58 := listed_cons Try.func58 cc58 l59 (by decide)
noncomputable def fs56 : List (Nat × FnI) := (56, i56) :: fs58
theorem l56 : Listed Try.prog fs56 := listed_cons Try.func56 cc56 l58 (by decide)
noncomputable def fs55 : List (Nat × FnI) := (55, i55) :: fs56
theorem l55 : Listed Try.prog fs55 := listed_cons Try.func55 cc55 l56 (by decide)
noncomputable def fs54 : List (Nat × FnI) := (54, i54) :: fs55
theorem l54 : Listed Try.prog fs54 := listed_cons Try.func54 cc54 l55 (by decide)
noncomputable def fs53 : List (Nat × FnI) := (53, i53) :: fs54
theorem l53 : Listed Try.prog fs53 := listed_cons Try.func53 cc53 l54 (by decide)
noncomputable def fs52 : List (Nat × FnI) := (52, i52) :: fs53
theorem l52 : Listed Try.prog fs52 := listed_cons Try.func52 cc52 l53 (by decide)
noncomputable def fs51 : List (Nat × FnI) := (51, i51) :: fs52
theorem l51 : Listed Try.prog fs51 := listed_cons Try.func51 cc51 l52 (by decide)
noncomputable def fs50 : List (Nat × FnI) := (50, i50) :: fs51
theorem l50 : Listed Try.prog fs50 := listed_cons Try.func50 cc50 l51 (by decide)
noncomputable def fs48 : List (Nat × FnI) := (48, i48) :: fs50
theorem l48 : Listed Try.prog fs48 := listed_cons Try.func48 cc48 l50 (by decide)
noncomputable def fs47 : List (Nat × FnI) := (47, i47) :: fs48
theorem l47 : Listed Try.prog fs47 := listed_cons Try.func47 cc47 l48 (by decide)
noncomputable def fs46 : List (Nat × FnI) := (46, i46) :: fs47
theorem l46 : Listed Try.prog fs46 := listed_cons Try.func46 cc46 l47 (by decide)
noncomputable def fs45 : List (Nat × FnI) := (45, i45) :: fs46
theorem l45 : Listed Try.prog fs45 := listed_cons Try.func45 cc45 l46 (by decide)
noncomputable def fs44 : List (Nat × FnI) := (44, i44) :: fs45
theorem l44 : Listed Try.prog fs44 := listed_cons Try.func44 cc44 l45 (by decide)
noncomputable def fs43 : List (Nat × FnI) := (43, i43) :: fs44
theorem l43 : Listed Try.prog fs43 := listed_cons Try.func43 cc43 l44 (by decide)
noncomputable def fs42 : List (Nat × FnI) := (42, i42) :: fs43
theorem l42 : Listed Try.prog fs42 := listed_cons Try.func42 cc42 l43 (by decide)
noncomputable def fs41 : List (Nat × FnI) := (41, i41) :: fs42
theorem l41 : Listed Try.prog fs41 := listed_cons Try.func41 cc41 l42 (by decide)
noncomputable def fs40 : List (Nat × FnI) := (40, i40) :: fs41
theorem l40 : Listed Try.prog fs40 := listed_cons Try.func40 cc40 l41 (by decide)
noncomputable def fs39 : List (Nat × FnI) := (39, i39) :: fs40
theorem l39 : Listed Try.prog fs39 := listed_cons Try.func39 cc39 l40 (by decide)
noncomputable def fs38 : List (Nat × FnI) := (38, i38) :: fs39
theorem l38 : Listed Try.prog fs38 := listed_cons Try.func38 cc38 l39 (by decide)
noncomputable def fs37 : List (Nat × FnI) := (37, i37) :: fs38
theorem l37 : Listed Try.prog fs37 := listed_cons Try.func37 cc37 l38 (by decide)
noncomputable def fs36 : List (Nat × FnI) := (36, i36) :: fs37
theorem l36 : Listed Try.prog fs36 := listed_cons Try.func36 cc36 l37 (by decide)
noncomputable def fs35 : List (Nat × FnI) := (35, i35) :: fs36
theorem l35 : Listed Try.prog fs35 := listed_cons Try.func35 cc35 l36 (by decide)
noncomputable def fs34 : List (Nat × FnI) := (34, i34) :: fs35
theorem l34 : Listed Try.prog fs34 := listed_cons Try.func34 cc34 l35 (by decide)
noncomputable def fs33 : List (Nat × FnI) := (33, i33) :: fs34
theorem l33 : Listed Try.prog fs33 := listed_cons Try.func33 cc33 l34 (by decide)
noncomputable def fs32 : List (Nat × FnI) := (32, i32) :: fs33
theorem l32 : Listed Try.prog fs32 := listed_cons Try.func32 cc32 l33 (by decide)
noncomputable def fs31 : List (Nat × FnI) := (31, i31) :: fs32
theorem l31 : Listed Try.prog fs31 := listed_cons Try.func31 cc31 l32 (by decide)
noncomputable def fs30 : List (Nat × FnI) := (30, i30) :: fs31
theorem l30 : Listed Try.prog fs30 := listed_cons Try.func30 cc30 l31 (by decide)
noncomputable def fs29 : List (Nat × FnI) := (29, i29) :: fs30
theorem l29 : Listed Try.prog fs29 := listed_cons Try.func29 cc29 l30 (by decide)
noncomputable def fs28 : List (Nat × FnI) := (28, i28) :: fs29
theorem l28 : Listed Try.prog fs28 := listed_cons Try.func28 cc28 l29 (by decide)
noncomputable def fs27 : List (Nat × FnI) := (27, i27) :: fs28
theorem l27 : Listed Try.prog fs27 := listed_cons Try.func27 cc27 l28 (by decide)
noncomputable def fs26 : List (Nat × FnI) := (26, i26) :: fs27
theorem l26 : Listed Try.prog fs26 := listed_cons Try.func26 cc26 l27 (by decide)
noncomputable def fs25 : List (Nat × FnI) := (25, i25) :: fs26
theorem l25 : Listed Try.prog fs25 := listed_cons Try.func25 cc25 l26 (by decide)
noncomputable def fs24 : List (Nat × FnI) := (24, i24) :: fs25
theorem l24 : Listed Try.prog fs24 := listed_cons Try.func24 cc24 l25 (by decide)
noncomputable def fs23 : List (Nat × FnI) := (23, i23) :: fs24
theorem l23 : Listed Try.prog fs23 := listed_cons Try.func23 cc23 l24 (by decide)
noncomputable def fs22 : List (Nat × FnI) := (22, i22) :: fs23
theorem l22 : Listed Try.prog fs22 := listed_cons Try.func22 cc22 l23 (by decide)
noncomputable def fs21 : List (Nat × FnI) := (21, i21) :: fs22
theorem l21 : Listed Try.prog fs21 := listed_cons Try.func21 cc21 l22 (by decide)
noncomputable def fs20 : List (Nat × FnI) := (20, i20) :: fs21
theorem l20 : Listed Try.prog fs20 := listed_cons Try.func20 cc20 l21 (by decide)
noncomputable def fs19 : List (Nat × FnI) := (19, i19) :: fs20
theorem l19 : Listed Try.prog fs19 := listed_cons Try.func19 cc19 l20 (by decide)
noncomputable def fs18 : List (Nat × FnI) := (18, i18) :: fs19
theorem l18 : Listed Try.prog fs18 := listed_cons Try.func18 cc18 l19 (by decide)
noncomputable def fs17 : List (Nat × FnI) := (17, i17) :: fs18
theorem l17 : Listed Try.prog fs17 := listed_cons Try.func17 cc17 l18 (by decide)
noncomputable def fs16 : List (Nat × FnI) := (16, i16) :: fs17
theorem l16 : Listed Try.prog fs16 := listed_cons Try.func16 cc16 l17 (by decide)
noncomputable def fs15 : List (Nat × FnI) := (15, i15) :: fs16
theorem l15 : Listed Try.prog fs15 := listed_cons Try.func15 cc15 l16 (by decide)
noncomputable def fs14 : List (Nat × FnI) := (14, i14) :: fs15
theorem l14 : Listed Try.prog fs14 := listed_cons Try.func14 cc14 l15 (by decide)
noncomputable def fs13 : List (Nat × FnI) := (13, i13) :: fs14
theorem l13 : Listed Try.prog fs13 := listed_cons Try.func13 cc13 l14 (by decide)
noncomputable def fs12 : List (Nat × FnI) := (12, i12) :: fs13
theorem l12 : Listed Try.prog fs12 := listed_cons Try.func12 cc12 l13 (by decide)
noncomputable def fs11 : List (Nat × FnI) := (11, i11) :: fs12
theorem l11 : Listed Try.prog fs11 := listed_cons Try.func11 cc11 l12 (by decide)
noncomputable def fs10 : List (Nat × FnI) := (10, i10) :: fs11
theorem l10 : Listed Try.prog fs10 := listed_cons Try.func10 cc10 l11 (by decide)
noncomputable def fs9 : List (Nat × FnI) := (9, i9) :: fs10
theorem l9 : Listed Try.prog fs9 := listed_cons Try.func9 cc9 l10 (by decide)
noncomputable def fs8 : List (Nat × FnI) := (8, i8) :: fs9
theorem l8 : Listed Try.prog fs8 := listed_cons Try.func8 cc8 l9 (by decide)
noncomputable def fs7 : List (Nat × FnI) := (7, i7) :: fs8
theorem l7 : Listed Try.prog fs7 := listed_cons Try.func7 cc7 l8 (by decide)
noncomputable def fs6 : List (Nat × FnI) := (6, i6) :: fs7
theorem l6 : Listed Try.prog fs6 := listed_cons Try.func6 cc6 l7 (by decide)
noncomputable def fs5 : List (Nat × FnI) := (5, i5) :: fs6
theorem l5 : Listed Try.prog fs5 := listed_cons Try.func5 cc5 l6 (by decide)
noncomputable def fs4 : List (Nat × FnI) := (4, i4) :: fs5
theorem l4 : Listed Try.prog fs4 := listed_cons Try.func4 cc4 l5 (by decide)
noncomputable def FS : List (Nat × FnI) := fs4
theorem listed : Listed Try.prog FS := l4
noncomputable def cmp : Nat → Code → Option IC := fun N c => compC Try.prog drops N c
noncomputable def PRT : FT := FT.of FS
noncomputable def EQ (W : FF → FF) (d : Nat) : FF := evQ cmp PRT W d
noncomputable def EF (d : Nat) : FF := EQ (fun G => G) d
theorem follows : Try.prog.follows .mixedOrders = true := by kernel_rfl
theorem EQ_ok {W : FF → FF} (hM : ∀ G, FF.mono G → (W G).mono) (hW : ∀ G, FOK Try.prog G → FOK Try.prog (W G)) (d : Nat) : FOK Try.prog (EQ W d) := evQ_sound follows listed hM hW d
theorem EQ_mono {W : FF → FF} (hM : ∀ G, FF.mono G → (W G).mono) (d : Nat) : (EQ W d).mono := evQ_mono _ _ hM d
theorem EF_ok (d : Nat) : FOK Try.prog (EF d) := EQ_ok (fun _ h => h) (fun _ h => h) d
theorem EF_mono (d : Nat) : (EF d).mono := EQ_mono (fun _ h => h) d
def zs64 : List Int := [0, 1, 56, 2, 57, 49, 28, 3, 61, 58, 42, 50, 38, 29, 17, 4, 62, 47, 59, 36, 45, 43, 51, 22, 53, 39, 33, 30, 24, 18, 12, 5, 63, 55, 48, 27, 60, 41, 37, 16, 46, 35, 44, 21, 52, 32, 23, 11, 54, 26, 40, 15, 34, 20, 31, 10, 25, 14, 19, 9, 13, 8, 7, 6]
noncomputable def tbH (el : TypeId) : Hp := tabH [(1, el, kL .u8 zs64)]
end Go.Proofs.Ytnmbhgchffebmaa.Ev
