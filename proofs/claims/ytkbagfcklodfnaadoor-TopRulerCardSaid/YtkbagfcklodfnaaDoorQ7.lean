/- The texts TwL. -/
import Derived.Test.YtkbagfcklodfnaaDoorQ6
import Derived.Test.YtkbagfcklodfnaaDoorProg
import Derived.KernelRfl
/- The compiled code of the functions that packets, tills, clasps, curls and bunches reach, in full. -/
namespace Go.Proofs.YtkbagfcklodfnaaDoor.Ev
set_option linter.unusedVariables false
set_option maxRecDepth 100000
open Go Go.Proofs Go.RowKit
def drops : List Nat := [3, 4, 5, 8, 9, 10, 11, 12, 13, 14, 17, 18, 19, 21, 23, 24, 26, 27, 28, 29, 31, 32, 34, 35, 36, 37, 39, 40, 41, 43, 44, 45, 46, 47, 48, 50, 51, 53, 54, 55, 57, 58, 59, 60, 62, 66, 67, 68, 69, 70, 71, 72, 75, 79, 80, 81, 83, 84, 85, 87, 88, 89, 91, 100, 102, 104, 1000007, 1000073, 1000074, 1000082, 1000098, 1000099, 2000000, 3000002]
def x0x : Pos := .h
def x1x : Pos := (.o .h)
def x2x : Pos := (.i .h)
def x3x : Pos := (.o (.o .h))
def x4x : Pos := (.i (.o .h))
def x5x : Pos := (.o (.i .h))
def x6x : Pos := (.i (.i .h))
def x7x : Pos := (.o (.o (.o .h)))
def x8x : Pos := (.i (.o (.o .h)))
def x9x : Pos := (.o (.i (.o .h)))
def x10x : Pos := (.i (.i (.o .h)))
def x11x : Pos := (.o (.o (.i .h)))
def x12x : Pos := (.i (.o (.i .h)))
def x13x : Pos := (.o (.i (.i .h)))
def x14x : Pos := (.i (.i (.i .h)))
def x15x : Pos := (.o (.o (.o (.o .h))))
def x16x : Pos := (.i (.o (.o (.o .h))))
def x17x : Pos := (.o (.i (.o (.o .h))))
def x18x : Pos := (.i (.i (.o (.o .h))))
def x19x : Pos := (.o (.o (.i (.o .h))))
def x20x : Pos := (.i (.o (.i (.o .h))))
def x21x : Pos := (.o (.i (.i (.o .h))))
def x22x : Pos := (.i (.i (.i (.o .h))))
def x23x : Pos := (.o (.o (.o (.i .h))))
def x24x : Pos := (.i (.o (.o (.i .h))))
def x25x : Pos := (.o (.i (.o (.i .h))))
def x26x : Pos := (.i (.i (.o (.i .h))))
def x27x : Pos := (.o (.o (.i (.i .h))))
def x28x : Pos := (.i (.o (.i (.i .h))))
def x29x : Pos := (.o (.i (.i (.i .h))))
def x30x : Pos := (.i (.i (.i (.i .h))))
def x31x : Pos := (.o (.o (.o (.o (.o .h)))))
def x32x : Pos := (.i (.o (.o (.o (.o .h)))))
def x33x : Pos := (.o (.i (.o (.o (.o .h)))))
def x34x : Pos := (.i (.i (.o (.o (.o .h)))))
def x35x : Pos := (.o (.o (.i (.o (.o .h)))))
def x36x : Pos := (.i (.o (.i (.o (.o .h)))))
def x37x : Pos := (.o (.i (.i (.o (.o .h)))))
def x38x : Pos := (.i (.i (.i (.o (.o .h)))))
def x39x : Pos := (.o (.o (.o (.i (.o .h)))))
def x40x : Pos := (.i (.o (.o (.i (.o .h)))))
def x41x : Pos := (.o (.i (.o (.i (.o .h)))))
def x42x : Pos := (.i (.i (.o (.i (.o .h)))))
def x43x : Pos := (.o (.o (.i (.i (.o .h)))))
def x44x : Pos := (.i (.o (.i (.i (.o .h)))))
def x45x : Pos := (.o (.i (.i (.i (.o .h)))))
def x46x : Pos := (.i (.i (.i (.i (.o .h)))))
def x47x : Pos := (.o (.o (.o (.o (.i .h)))))
def x48x : Pos := (.i (.o (.o (.o (.i .h)))))
def x49x : Pos := (.o (.i (.o (.o (.i .h)))))
def x50x : Pos := (.i (.i (.o (.o (.i .h)))))
def x51x : Pos := (.o (.o (.i (.o (.i .h)))))
def x52x : Pos := (.i (.o (.i (.o (.i .h)))))
def x53x : Pos := (.o (.i (.i (.o (.i .h)))))
def x54x : Pos := (.i (.i (.i (.o (.i .h)))))
def x55x : Pos := (.o (.o (.o (.i (.i .h)))))
def x56x : Pos := (.i (.o (.o (.i (.i .h)))))
def x57x : Pos := (.o (.i (.o (.i (.i .h)))))
def x58x : Pos := (.i (.i (.o (.i (.i .h)))))
def x59x : Pos := (.o (.o (.i (.i (.i .h)))))
def x60x : Pos := (.i (.o (.i (.i (.i .h)))))
def x61x : Pos := (.o (.i (.i (.i (.i .h)))))
def x62x : Pos := (.i (.i (.i (.i (.i .h)))))
def x63x : Pos := (.o (.o (.o (.o (.o (.o .h))))))
def x64x : Pos := (.i (.o (.o (.o (.o (.o .h))))))
def x65x : Pos := (.o (.i (.o (.o (.o (.o .h))))))
def x66x : Pos := (.i (.i (.o (.o (.o (.o .h))))))
def x67x : Pos := (.o (.o (.i (.o (.o (.o .h))))))
def x68x : Pos := (.i (.o (.i (.o (.o (.o .h))))))
def x69x : Pos := (.o (.i (.i (.o (.o (.o .h))))))
def x70x : Pos := (.i (.i (.i (.o (.o (.o .h))))))
def x71x : Pos := (.o (.o (.o (.i (.o (.o .h))))))
def x72x : Pos := (.i (.o (.o (.i (.o (.o .h))))))
def x73x : Pos := (.o (.i (.o (.i (.o (.o .h))))))
def x74x : Pos := (.i (.i (.o (.i (.o (.o .h))))))
def x75x : Pos := (.o (.o (.i (.i (.o (.o .h))))))
def x76x : Pos := (.i (.o (.i (.i (.o (.o .h))))))
def x77x : Pos := (.o (.i (.i (.i (.o (.o .h))))))
def x78x : Pos := (.i (.i (.i (.i (.o (.o .h))))))
def x79x : Pos := (.o (.o (.o (.o (.i (.o .h))))))
noncomputable def i6 : FnI := (.mk true false (.seq (.reg (.cons (some x2x) none (.mv (.c .ns)) .nil)) (.seq (.reg (.cons (some x3x) none (.mv (.t x0x)) (.cons (some x2x) none (.mv (.t x3x)) .nil))) .ret)) 
  [(.tmp x2x)])
theorem cc6 : compF Tryd.prog drops true false Tryd.f6 = some i6 := by kernel_rfl
noncomputable def i7 : FnI := (.mk false false (.seq (.seq (.reg (.cons (some x13x) none (.mv (.t x1x)) (.cons (some x14x) none (.bin .eql (.t x13x) (.c (.n 0))) .nil))) (.cond (.t x14x) (.seq (.reg (.cons 
  (some x16x) none (.mv (.t x0x)) (.cons (some x17x) none (.ld 1 false (.t x4x)) (.cons (some x18x) none (.call 8 (.cons (.t x16x) (.cons (.t x17x) .nil))) (.cons (some x15x) none 
  (.mv (.t x18x)) (.cons (some x19x) none (.ext 0 (.t x15x)) (.cons (some x20x) none (.ext 1 (.t x15x)) (.cons (some x11x) none (.mv (.t x19x)) (.cons (some x12x) none (.mv (.t 
  x20x)) .nil))))))))) (.seq (.seq (.reg (.cons (some x21x) none (.mv (.t x12x)) (.cons (some x22x) none (.bin .eql (.t x21x) (.c (.n 12))) .nil))) (.cond (.t x22x) (.reg (.cons 
  (some x23x) none (.ld 1 false (.t x5x)) (.cons (some x24x) none (.bin .add (.t x23x) (.c (.n 1))) (.cons none none (.st 1 (.t x5x) (.t x24x)) .nil)))) .skip)) .ret)) .skip)) 
  (.seq (.seq (.reg (.cons (some x25x) none (.mv (.t x2x)) (.cons (some x26x) none (.bin .gtr (.t x25x) (.c (.n 0))) .nil))) (.cond (.t x26x) (.reg (.cons (some x27x) none (.ld 1 
  false (.t x6x)) (.cons (some x28x) none (.mv (.t x0x)) (.cons (some x29x) none (.sbi .add (.t x28x) (.c (.s [99]))) (.cons (some x30x) none (.mv (.t x1x)) (.cons (some x31x) none 
  (.bin .sub (.t x30x) (.c (.n 1))) (.cons (some x32x) none (.mv (.t x2x)) (.cons (some x33x) none (.bin .sub (.t x32x) (.c (.n 1))) (.cons (some x34x) none (.mv (.t x3x)) (.cons 
  (some x35x) none (.callv (.t x27x) (.cons (.t x29x) (.cons (.t x31x) (.cons (.t x33x) (.cons (.t x34x) .nil))))) .nil)))))))))) .skip)) (.seq (.reg (.cons (some x36x) none (.mv 
  (.t x3x)) (.cons (some x37x) none (.bin .gtr (.t x36x) (.c (.n 0))) (.cons (some x38x) none (.mv (.t x37x)) (.cons (some x39x) (some (.mk x38x true)) (.mv (.t x1x)) (.cons (some 
  x40x) (some (.mk x38x true)) (.bin .gtr (.t x39x) (.c (.n 1))) (.cons (some x41x) none (.pick (.t x38x) (.t x40x) (.c (.b false))) .nil))))))) (.cond (.t x41x) (.reg (.cons (some 
  x42x) none (.ld 1 false (.t x6x)) (.cons (some x43x) none (.mv (.t x0x)) (.cons (some x44x) none (.sbi .add (.t x43x) (.c (.s [110]))) (.cons (some x45x) none (.mv (.t x1x)) 
  (.cons (some x46x) none (.bin .sub (.t x45x) (.c (.n 2))) (.cons (some x47x) none (.mv (.t x2x)) (.cons (some x48x) none (.mv (.t x3x)) (.cons (some x49x) none (.bin .sub (.t 
  x48x) (.c (.n 1))) (.cons (some x50x) none (.callv (.t x42x) (.cons (.t x44x) (.cons (.t x46x) (.cons (.t x47x) (.cons (.t x49x) .nil))))) .nil)))))))))) .skip)))) [])
theorem cc7 : compF Tryd.prog drops false false Tryd.f7 = some i7 := by kernel_rfl
noncomputable def i8 : FnI := (.mk true true (.seq (.reg (.cons (some x4x) none (.mv (.c (.n 0))) (.cons (some x5x) none (.mv (.c (.n 0))) .nil))) (.seq (.seq (.reg (.cons (some x8x) none (.mv (.t x0x)) (.cons 
  (some x9x) none (.mv (.t x1x)) (.cons (some x10x) none (.call 28 (.cons (.t x8x) (.cons (.t x9x) .nil))) (.cons (some x6x) none (.mv (.t x10x)) .nil))))) (.seq (.reg (.cons (some 
  x11x) none (.mv (.t x6x)) (.cons (some x12x) none (.bin .neq (.t x11x) (.c (.n 0))) .nil))) (.cond (.t x12x) (.seq (.reg (.cons (some x13x) none (.mv (.t x6x)) (.cons (some x4x) 
  none (.mv (.c (.n 0))) (.cons (some x5x) none (.mv (.t x13x)) .nil)))) .ret) .skip))) (.seq (.reg (.cons (some x14x) none (.mv (.t x0x)) (.cons (some x15x) none (.mv (.t x1x)) 
  (.cons (some x16x) none (.call 30 (.cons (.t x14x) (.cons (.t x15x) .nil))) (.cons (some x17x) none (.call 29 (.cons (.t x16x) (.cons (.c (.fn 31 .nil .nil)) .nil))) (.cons (some 
  x7x) none (.mv (.t x17x)) .nil)))))) (.seq (.seq (.reg (.cons (some x18x) none (.mv (.t x7x)) (.cons (some x19x) none (.bin .lss (.t x18x) (.c (.n 0))) .nil))) (.cond (.t x19x) 
  (.seq (.reg (.cons (some x4x) none (.mv (.c (.n 0))) (.cons (some x5x) none (.mv (.c (.n 12))) .nil))) .ret) .skip)) (.seq (.reg (.cons (some x20x) none (.mv (.t x7x)) (.cons 
  (some x4x) none (.mv (.t x20x)) (.cons (some x5x) none (.mv (.c (.n 0))) .nil)))) .ret))))) [(.tmp x4x), (.tmp x5x)])
theorem cc8 : compF Tryd.prog drops true true Tryd.f8 = some i8 := by kernel_rfl
noncomputable def i9 : FnI := (.mk true true (.seq (.reg (.cons (some x6x) none (.mv (.c (.n 0))) (.cons (some x7x) none (.mv (.c (.n 0))) .nil))) (.seq (.seq (.reg (.cons (some x9x) none (.mv (.t x0x)) (.cons 
  (some x10x) none (.mv (.t x1x)) (.cons (some x11x) none (.mv (.t x2x)) (.cons (some x12x) none (.call 32 (.cons (.t x9x) (.cons (.t x10x) (.cons (.t x11x) .nil)))) (.cons (some 
  x8x) none (.mv (.t x12x)) .nil)))))) (.seq (.reg (.cons (some x13x) none (.mv (.t x8x)) (.cons (some x14x) none (.bin .neq (.t x13x) (.c (.n 0))) .nil))) (.cond (.t x14x) (.seq 
  (.reg (.cons (some x15x) none (.mv (.t x8x)) (.cons (some x6x) none (.mv (.c (.n 0))) (.cons (some x7x) none (.mv (.t x15x)) .nil)))) .ret) .skip))) (.seq (.reg (.cons (some 
  x16x) none (.mv (.t x0x)) (.cons (some x17x) none (.mv (.t x1x)) (.cons (some x18x) none (.mv (.t x2x)) (.cons (some x19x) none (.call 33 (.cons (.t x16x) (.cons (.t x17x) (.cons 
  (.t x18x) .nil)))) (.cons (some x20x) none (.mv (.t x2x)) (.cons (some x21x) none (.ixs 1 (.t x19x) (.t x20x)) (.cons (some x22x) none (.ld 1 false (.t x21x)) (.cons (some x6x) 
  none (.mv (.t x22x)) (.cons (some x7x) none (.mv (.c (.n 0))) .nil)))))))))) .ret))) [(.tmp x6x), (.tmp x7x)])
theorem cc9 : compF Tryd.prog drops true true Tryd.f9 = some i9 := by kernel_rfl
noncomputable def i10 : FnI := (.mk true true (.seq (.reg (.cons (some x8x) none (.mv (.c (.n 0))) .nil)) (.seq (.seq (.reg (.cons (some x12x) none (.mv (.t x0x)) (.cons (some x13x) none (.mv (.t x1x)) (.cons 
  (some x14x) none (.mv (.t x2x)) (.cons (some x15x) none (.call 32 (.cons (.t x12x) (.cons (.t x13x) (.cons (.t x14x) .nil)))) (.cons (some x9x) none (.mv (.t x15x)) .nil)))))) 
  (.seq (.reg (.cons (some x16x) none (.mv (.t x9x)) (.cons (some x17x) none (.bin .neq (.t x16x) (.c (.n 0))) .nil))) (.cond (.t x17x) (.seq (.reg (.cons (some x18x) none (.mv (.t 
  x9x)) (.cons (some x8x) none (.mv (.t x18x)) .nil))) .ret) .skip))) (.seq (.seq (.reg (.cons (some x19x) none (.mv (.t x3x)) (.cons (some x20x) none (.len (.t x19x)) (.cons (some 
  x21x) none (.mv (.t x0x)) (.cons (some x22x) none (.len (.t x21x)) (.cons (some x23x) none (.bin .neq (.t x20x) (.t x22x)) .nil)))))) (.cond (.t x23x) (.seq (.reg (.cons (some 
  x8x) none (.mv (.c (.n 5))) .nil)) .ret) .skip)) (.seq (.seq (.reg (.cons (some x24x) none (.mv (.t x3x)) (.cons (some x25x) none (.len (.t x24x)) (.cons (some x26x) none (.mv 
  (.c (.n 0))) .nil)))) (.block 0 (.loop (.seq (.reg (.cons (some x27x) none (.bin .lss (.t x26x) (.t x25x)) .nil)) (.seq (.cond (.t x27x) .skip (.exit 0)) (.seq (.block 1 (.seq 
  (.reg (.cons (some x28x) none (.mv (.t x26x)) (.cons (some x29x) none (.ixs 1 (.t x24x) (.t x26x)) (.cons (some x30x) none (.ld 1 false (.t x29x)) (.cons (some x10x) none (.mv 
  (.t x28x)) (.cons (some x11x) none (.mv (.t x30x)) .nil)))))) (.seq (.reg (.cons (some x31x) none (.mv (.t x11x)) (.cons (some x32x) none (.bin .lss (.t x31x) (.c (.n 0))) (.cons 
  (some x33x) none (.mv (.t x32x)) (.cons (some x34x) (some (.mk x33x false)) (.mv (.t x11x)) (.cons (some x35x) (some (.mk x33x false)) (.mv (.t x1x)) (.cons (some x36x) (some 
  (.mk x33x false)) (.mv (.t x10x)) (.cons (some x37x) (some (.mk x33x false)) (.ixs 1 (.t x35x) (.t x36x)) (.cons (some x38x) (some (.mk x33x false)) (.ld 1 false (.t x37x)) 
  (.cons (some x39x) (some (.mk x33x false)) (.bin .gtr (.t x34x) (.t x38x)) (.cons (some x40x) none (.pick (.t x33x) (.c (.b true)) (.t x39x)) .nil))))))))))) (.cond (.t x40x) 
  (.seq (.reg (.cons (some x8x) none (.mv (.c (.n 1))) .nil)) .ret) .skip)))) (.reg (.cons (some x41x) none (.bin .add (.t x26x) (.c (.n 1))) (.cons (some x26x) none (.mv (.t 
  x41x)) .nil))))))))) (.seq (.seq (.reg (.cons (some x42x) none (.mv (.t x0x)) (.cons (some x43x) none (.mv (.t x3x)) (.cons (some x44x) none (.call 34 (.cons (.t x42x) (.cons (.t 
  x43x) .nil))) (.cons (some x45x) none (.mv (.t x2x)) (.cons (some x46x) none (.bin .neq (.t x44x) (.t x45x)) .nil)))))) (.cond (.t x46x) (.seq (.reg (.cons (some x8x) none (.mv 
  (.c (.n 17))) .nil)) .ret) .skip)) (.seq (.reg (.cons (some x8x) none (.mv (.c (.n 0))) .nil)) .ret)))))) [(.tmp x8x)])
theorem cc10 : compF Tryd.prog drops true true Tryd.f10 = some i10 := by kernel_rfl
noncomputable def i11 : FnI := (.mk true true (.seq (.reg (.cons (some x6x) none (.mv (.c (.n 0))) (.cons (some x7x) none (.mv (.c (.n 0))) .nil))) (.seq (.reg (.cons (some x11x) none (.mv (.t x0x)) (.cons (some 
  x12x) none (.mv (.t x1x)) (.cons (some x13x) none (.mv (.t x2x)) (.cons (some x14x) none (.call 35 (.cons (.t x11x) (.cons (.t x12x) (.cons (.t x13x) .nil)))) (.cons (some x10x) 
  none (.mv (.t x14x)) (.cons (some x15x) none (.ext 0 (.t x10x)) (.cons (some x16x) none (.ext 1 (.t x10x)) (.cons (some x8x) none (.alloc 63 (.cons (.n 0) (.cons (.n 0) (.cons 
  (.n 0) .nil))) 3) (.cons none none (.st 3 (.t x8x) (.t x15x)) (.cons (some x9x) none (.mv (.t x16x)) .nil))))))))))) (.seq (.seq (.reg (.cons (some x17x) none (.mv (.t x9x)) 
  (.cons (some x18x) none (.bin .neq (.t x17x) (.c (.n 0))) .nil))) (.cond (.t x18x) (.seq (.reg (.cons (some x19x) none (.mv (.t x9x)) (.cons (some x6x) none (.mv (.c (.n 0))) 
  (.cons (some x7x) none (.mv (.t x19x)) .nil)))) .ret) .skip)) (.seq (.reg (.cons (some x20x) none (.ld 3 true (.t x8x)) (.cons (some x21x) none (.call 36 (.cons (.t x20x) .nil)) 
  (.cons (some x6x) none (.mv (.t x21x)) (.cons (some x7x) none (.mv (.c (.n 0))) .nil))))) .ret)))) [(.tmp x6x), (.tmp x7x)])
theorem cc11 : compF Tryd.prog drops true true Tryd.f11 = some i11 := by kernel_rfl
noncomputable def i12 : FnI := (.mk true true (.seq (.reg (.cons (some x8x) none (.mv (.c (.n 0))) (.cons (some x9x) none (.mv (.c (.n 0))) (.cons (some x10x) none (.mv (.c (.n 0))) .nil)))) (.seq (.seq (.reg 
  (.cons (some x13x) none (.mv (.t x0x)) (.cons (some x14x) none (.mv (.t x1x)) (.cons (some x15x) none (.mv (.t x2x)) (.cons (some x16x) none (.call 32 (.cons (.t x13x) (.cons (.t 
  x14x) (.cons (.t x15x) .nil)))) (.cons (some x11x) none (.mv (.t x16x)) .nil)))))) (.seq (.reg (.cons (some x17x) none (.mv (.t x11x)) (.cons (some x18x) none (.bin .neq (.t 
  x17x) (.c (.n 0))) .nil))) (.cond (.t x18x) (.seq (.reg (.cons (some x19x) none (.mv (.t x11x)) (.cons (some x8x) none (.mv (.c (.n 0))) (.cons (some x9x) none (.mv (.c (.n 0))) 
  (.cons (some x10x) none (.mv (.t x19x)) .nil))))) .ret) .skip))) (.seq (.seq (.reg (.cons (some x20x) none (.mv (.t x0x)) (.cons (some x21x) none (.mv (.t x3x)) (.cons (some 
  x22x) none (.call 37 (.cons (.t x20x) (.cons (.t x21x) .nil))) (.cons (some x23x) none (.not (.t x22x)) .nil))))) (.cond (.t x23x) (.seq (.reg (.cons (some x8x) none (.mv (.c (.n 
  0))) (.cons (some x9x) none (.mv (.c (.n 0))) (.cons (some x10x) none (.mv (.c (.n 2))) .nil)))) .ret) .skip)) (.seq (.reg (.cons (some x24x) none (.mv (.t x0x)) (.cons (some 
  x25x) none (.mv (.t x1x)) (.cons (some x26x) none (.mv (.t x2x)) (.cons (some x27x) none (.mv (.t x3x)) (.cons (some x28x) none (.call 38 (.cons (.t x24x) (.cons (.t x25x) (.cons 
  (.t x26x) (.cons (.t x27x) .nil))))) (.cons (some x12x) none (.mv (.t x28x)) .nil))))))) (.seq (.seq (.reg (.cons (some x29x) none (.mv (.t x12x)) (.cons (some x30x) none (.len 
  (.t x29x)) (.cons (some x31x) none (.bin .eql (.t x30x) (.c (.n 0))) .nil)))) (.cond (.t x31x) (.seq (.reg (.cons (some x8x) none (.mv (.c (.n 0))) (.cons (some x9x) none (.mv 
  (.c (.n 0))) (.cons (some x10x) none (.mv (.c (.n 12))) .nil)))) .ret) .skip)) (.seq (.draw [(.mk (some x32x) none true [] false [] [] [x12x] (.mv (.t x12x)) false [] [] []), 
  (.mk (some x33x) none true [] false [true] [] [x32x] (.ixs 1 (.t x32x) (.c (.n 0))) false [] [] []), (.mk (some x34x) none false [] false [true, true] [] [x33x] (.ld 1 false (.t 
  x33x)) false [] [] []), (.mk (some x35x) none true [] false [false, false, false] [] [x12x] (.mv (.t x12x)) false [] [] []), (.mk (some x36x) none true [] false [false, false, 
  false, false] [] [x12x] (.mv (.t x12x)) false [] [] []), (.mk (some x37x) none true [] false [true, false, false, false, false] [] [x36x] (.len (.t x36x)) false [] [] []), (.mk 
  (some x38x) none true [] false [true, true, false, false, false, false] [] [x37x] (.bin .sub (.t x37x) (.c (.n 1))) false [] [] []), (.mk (some x39x) none true [] false [true, 
  true, true, true, false, false, false] [] [x35x, x38x] (.ixs 1 (.t x35x) (.t x38x)) false [] [] []), (.mk (some x40x) none false [] false [true, true, true, true, true, false, 
  false, false] [] [x39x] (.ld 1 false (.t x39x)) false [] [] []), (.mk (some x8x) none true [] false [false, false, false, false, false, false, true, true, true] [] [x34x] (.mv 
  (.t x34x)) false [] [] []), (.mk (some x9x) none true [] false [true, true, true, true, true, true, true, true, true, true] [] [x40x] (.mv (.t x40x)) false [] [] []), (.mk (some 
  x10x) none true [] false [true, true, true, true, true, true, true, true, true, true, true] [] [] (.mv (.c (.n 0))) false [] [] [])]) .ret)))))) [(.tmp x8x), (.tmp x9x), (.tmp 
  x10x)])
theorem cc12 : compF Tryd.prog drops true true Tryd.f12 = some i12 := by kernel_rfl
noncomputable def i13 : FnI := (.mk true true (.seq (.reg (.cons (some x0x) none (.mv (.c (.b false))) .nil)) (.seq (.reg (.cons (some x4x) none (.call 11 (.cons (.c (.n 3)) (.cons (.c (.n 3)) (.cons (.c (.n 0)) 
  .nil)))) (.cons (some x3x) none (.mv (.t x4x)) (.cons (some x5x) none (.ext 0 (.t x3x)) (.cons (some x6x) none (.ext 1 (.t x3x)) (.cons (some x1x) none (.mv (.t x5x)) (.cons 
  (some x2x) none (.mv (.t x6x)) .nil))))))) (.seq (.reg (.cons (some x7x) none (.mv (.t x2x)) (.cons (some x8x) none (.bin .eql (.t x7x) (.c (.n 0))) (.cons (some x9x) none (.mv 
  (.t x8x)) (.cons (some x10x) (some (.mk x9x true)) (.mv (.t x1x)) (.cons (some x11x) (some (.mk x9x true)) (.bin .eql (.t x10x) (.c (.n 5))) (.cons (some x12x) none (.pick (.t 
  x9x) (.t x11x) (.c (.b false))) (.cons (some x13x) none (.mv (.t x12x)) (.cons (some x14x) (some (.mk x13x true)) (.call 39 .nil) (.cons (some x15x) none (.pick (.t x13x) (.t 
  x14x) (.c (.b false))) (.cons (some x0x) none (.mv (.t x15x)) .nil))))))))))) .ret))) [(.tmp x0x)])
theorem cc13 : compF Tryd.prog drops true true Tryd.f13 = some i13 := by kernel_rfl
noncomputable def i14 : FnI := (.mk true true (.seq (.reg (.cons (some x5x) none (.mv (.c (.s []))) (.cons (some x6x) none (.mv (.c (.b false))) .nil))) (.seq (.reg (.cons (some x17x) none (.ld 1 false (.t x2x)) 
  (.cons (some x18x) none (.mv (.t x0x)) (.cons (some x19x) none (.call 15 (.cons (.t x17x) (.cons (.t x18x) .nil))) (.cons (some x16x) none (.mv (.t x19x)) (.cons (some x20x) none 
  (.ext 0 (.t x16x)) (.cons (some x21x) none (.ext 1 (.t x16x)) (.cons (some x7x) none (.mv (.t x20x)) (.cons (some x8x) none (.mv (.t x21x)) .nil))))))))) (.seq (.reg (.cons (some 
  x23x) none (.ld 1 false (.t x2x)) (.cons (some x24x) none (.mv (.t x1x)) (.cons (some x25x) none (.call 15 (.cons (.t x23x) (.cons (.t x24x) .nil))) (.cons (some x22x) none (.mv 
  (.t x25x)) (.cons (some x26x) none (.ext 0 (.t x22x)) (.cons (some x27x) none (.ext 1 (.t x22x)) (.cons (some x9x) none (.mv (.t x26x)) (.cons (some x10x) none (.mv (.t x27x)) 
  .nil))))))))) (.seq (.reg (.cons (some x29x) none (.mv (.t x7x)) (.cons (some x30x) none (.mv (.t x9x)) (.cons (some x31x) none (.call 16 (.cons (.t x29x) (.cons (.t x30x) 
  .nil))) (.cons (some x28x) none (.mv (.t x31x)) (.cons (some x32x) none (.ext 0 (.t x28x)) (.cons (some x33x) none (.ext 1 (.t x28x)) (.cons (some x11x) none (.mv (.t x32x)) 
  (.cons (some x12x) none (.mv (.t x33x)) .nil))))))))) (.seq (.reg (.cons (some x13x) none (.mv (.c (.s []))) .nil)) (.seq (.seq (.reg (.cons (some x34x) none (.mv (.t x11x)) 
  (.cons (some x35x) none (.len (.t x34x)) (.cons (some x36x) none (.mv (.c (.n 0))) .nil)))) (.block 0 (.loop (.seq (.reg (.cons (some x37x) none (.bin .lss (.t x36x) (.t x35x)) 
  .nil)) (.seq (.cond (.t x37x) .skip (.exit 0)) (.seq (.block 1 (.seq (.reg (.cons (some x38x) none (.ixs 1 (.t x34x) (.t x36x)) (.cons (some x39x) none (.ld 1 false (.t x38x)) 
  (.cons (some x15x) none (.mv (.t x39x)) .nil)))) (.seq (.seq (.reg (.cons (some x40x) none (.mv (.t x15x)) (.cons (some x41x) none (.bin .lss (.t x40x) (.c (.n 0))) (.cons (some 
  x42x) none (.mv (.t x41x)) (.cons (some x43x) (some (.mk x42x false)) (.mv (.t x15x)) (.cons (some x44x) (some (.mk x42x false)) (.bin .gtr (.t x43x) (.c (.n 3))) (.cons (some 
  x45x) none (.pick (.t x42x) (.c (.b true)) (.t x44x)) .nil))))))) (.cond (.t x45x) (.seq (.reg (.cons (some x5x) none (.mv (.c (.s []))) (.cons (some x6x) none (.mv (.c (.b 
  false))) .nil))) .ret) .skip)) (.reg (.cons (some x46x) none (.mv (.t x13x)) (.cons (some x47x) none (.mv (.t x15x)) (.cons (some x48x) none (.mv (.t x15x)) (.cons (some x49x) 
  none (.bin .add (.t x48x) (.c (.n 1))) (.cons (some x50x) none (.ssl (.c (.s [97, 98, 99, 100])) (some (.t x47x)) (some (.t x49x))) (.cons (some x51x) none (.sbi .add (.t x46x) 
  (.t x50x)) (.cons (some x13x) none (.mv (.t x51x)) .nil))))))))))) (.reg (.cons (some x52x) none (.bin .add (.t x36x) (.c (.n 1))) (.cons (some x36x) none (.mv (.t x52x)) 
  .nil))))))))) (.seq (.reg (.cons (some x53x) none (.mv (.t x13x)) (.cons (some x54x) none (.mv (.t x8x)) (.cons (some x55x) none (.bin .eql (.t x54x) (.c (.n 0))) (.cons (some 
  x56x) none (.mv (.t x55x)) (.cons (some x57x) (some (.mk x56x true)) (.mv (.t x10x)) (.cons (some x58x) (some (.mk x56x true)) (.bin .eql (.t x57x) (.c (.n 0))) (.cons (some 
  x59x) none (.pick (.t x56x) (.t x58x) (.c (.b false))) (.cons (some x60x) none (.mv (.t x59x)) (.cons (some x61x) (some (.mk x60x true)) (.mv (.t x12x)) (.cons (some x62x) (some 
  (.mk x60x true)) (.bin .eql (.t x61x) (.c (.n 0))) (.cons (some x63x) none (.pick (.t x60x) (.t x62x) (.c (.b false))) (.cons (some x5x) none (.mv (.t x53x)) (.cons (some x6x) 
  none (.mv (.t x63x)) .nil)))))))))))))) .ret))))))) [(.tmp x5x), (.tmp x6x)])
theorem cc14 : compF Tryd.prog drops true true Tryd.f14 = some i14 := by kernel_rfl
noncomputable def i15 : FnI := (.mk true false (.seq (.reg (.cons (some x4x) none (.mv (.c .ns)) (.cons (some x5x) none (.mv (.c (.n 0))) .nil))) (.seq (.seq (.reg (.cons (some x6x) none (.mv (.t x0x)) (.cons 
  (some x7x) none (.bin .lss (.t x6x) (.c (.n 1))) (.cons (some x8x) none (.mv (.t x7x)) (.cons (some x9x) (some (.mk x8x false)) (.mv (.t x0x)) (.cons (some x10x) (some (.mk x8x 
  false)) (.bin .gtr (.t x9x) (.c (.n 16))) (.cons (some x11x) none (.pick (.t x8x) (.c (.b true)) (.t x10x)) (.cons (some x12x) none (.mv (.t x11x)) (.cons (some x13x) (some (.mk 
  x12x false)) (.mv (.t x1x)) (.cons (some x14x) (some (.mk x12x false)) (.bin .lss (.t x13x) (.c (.n 0))) (.cons (some x15x) none (.pick (.t x12x) (.c (.b true)) (.t x14x)) (.cons 
  (some x16x) none (.mv (.t x15x)) (.cons (some x17x) (some (.mk x16x false)) (.mv (.t x1x)) (.cons (some x18x) (some (.mk x16x false)) (.mv (.t x0x)) (.cons (some x19x) (some (.mk 
  x16x false)) (.call 40 (.cons (.t x18x) .nil)) (.cons (some x20x) (some (.mk x16x false)) (.bin .gtr (.t x17x) (.t x19x)) (.cons (some x21x) none (.pick (.t x16x) (.c (.b true)) 
  (.t x20x)) .nil))))))))))))))))) (.cond (.t x21x) (.seq (.reg (.cons (some x4x) none (.mv (.c .ns)) (.cons (some x5x) none (.mv (.c (.n 1))) .nil))) .ret) .skip)) (.seq (.reg 
  (.cons (some x22x) none (.mv (.t x0x)) (.cons (some x23x) none (.mv (.t x1x)) (.cons (some x24x) none (.call 41 (.cons (.t x22x) (.cons (.t x23x) .nil))) (.cons (some x25x) none 
  (.call 42 (.cons (.t x24x) .nil)) (.cons (some x4x) none (.mv (.t x25x)) (.cons (some x5x) none (.mv (.c (.n 0))) .nil))))))) .ret))) [(.tmp x4x), (.tmp x5x)])
theorem cc15 : compF Tryd.prog drops true false Tryd.f15 = some i15 := by kernel_rfl
noncomputable def i16 : FnI := (.mk true false (.seq (.reg (.cons (some x4x) none (.mv (.c .ns)) (.cons (some x5x) none (.mv (.c (.n 0))) .nil))) (.seq (.reg (.cons (some x11x) none (.mv (.t x0x)) (.cons (some 
  x12x) none (.mv (.t x1x)) (.cons (some x13x) none (.call 43 (.cons (.t x11x) (.cons (.t x12x) .nil))) (.cons (some x10x) none (.mv (.t x13x)) (.cons (some x14x) none (.ext 0 (.t 
  x10x)) (.cons (some x15x) none (.ext 1 (.t x10x)) (.cons (some x6x) none (.alloc 76 (.cons (.n 0) (.cons (.n 0) (.cons (.n 0) .nil))) 3) (.cons none none (.st 3 (.t x6x) (.t 
  x14x)) (.cons (some x7x) none (.mv (.t x15x)) .nil)))))))))) (.seq (.seq (.reg (.cons (some x16x) none (.mv (.t x7x)) (.cons (some x17x) none (.bin .neq (.t x16x) (.c (.n 0))) 
  .nil))) (.cond (.t x17x) (.seq (.reg (.cons (some x18x) none (.mv (.t x7x)) (.cons (some x4x) none (.mv (.c .ns)) (.cons (some x5x) none (.mv (.t x18x)) .nil)))) .ret) .skip)) 
  (.seq (.seq (.reg (.cons (some x19x) none (.ld 3 true (.t x6x)) (.cons (some x20x) none (.call 44 (.cons (.t x19x) .nil)) (.cons (some x21x) none (.bin .gtr (.t x20x) (.c (.n 
  1000))) .nil)))) (.cond (.t x21x) (.seq (.reg (.cons (some x4x) none (.mv (.c .ns)) (.cons (some x5x) none (.mv (.c (.n 3))) .nil))) .ret) .skip)) (.seq (.reg (.cons (some x22x) 
  none (.ld 3 true (.t x6x)) (.cons (some x23x) none (.call 44 (.cons (.t x22x) .nil)) (.cons (some x24x) none (.mks 3 1 8 1 (.cons (.n 0) .nil) (.t x23x) (.t x23x)) (.cons (some 
  x8x) none (.mv (.t x24x)) .nil))))) (.seq (.seq (.reg (.cons (some x25x) none (.mv (.t x8x)) (.cons (some x26x) none (.len (.t x25x)) (.cons (some x27x) none (.mv (.c (.n 0))) 
  .nil)))) (.block 0 (.loop (.seq (.reg (.cons (some x28x) none (.bin .lss (.t x27x) (.t x26x)) .nil)) (.seq (.cond (.t x28x) .skip (.exit 0)) (.seq (.block 1 (.seq (.reg (.cons 
  (some x29x) none (.mv (.t x27x)) (.cons (some x9x) none (.mv (.t x29x)) .nil))) (.reg (.cons (some x30x) none (.mv (.t x8x)) (.cons (some x31x) none (.mv (.t x9x)) (.cons (some 
  x32x) none (.ld 3 true (.t x6x)) (.cons (some x33x) none (.mv (.t x9x)) (.cons (some x34x) none (.call 45 (.cons (.t x32x) (.cons (.t x33x) .nil))) (.cons (some x35x) none (.ixs 
  1 (.t x30x) (.t x31x)) (.cons none none (.st 1 (.t x35x) (.t x34x)) .nil)))))))))) (.reg (.cons (some x36x) none (.bin .add (.t x27x) (.c (.n 1))) (.cons (some x27x) none (.mv 
  (.t x36x)) .nil))))))))) (.seq (.reg (.cons (some x37x) none (.mv (.t x8x)) (.cons (some x4x) none (.mv (.t x37x)) (.cons (some x5x) none (.mv (.c (.n 0))) .nil)))) .ret))))))) 
  [(.tmp x4x), (.tmp x5x)])
theorem cc16 : compF Tryd.prog drops true false Tryd.f16 = some i16 := by kernel_rfl
noncomputable def i17 : FnI := (.mk true true (.seq (.reg (.cons (some x2x) none (.mv (.c (.b false))) (.cons (some x3x) none (.mv (.c (.n 0))) .nil))) (.seq (.seq (.reg (.cons (some x5x) none (.mv (.t x0x)) 
  (.cons (some x6x) none (.call 46 (.cons (.t x5x) .nil)) (.cons (some x4x) none (.mv (.t x6x)) .nil)))) (.seq (.reg (.cons (some x7x) none (.mv (.t x4x)) (.cons (some x8x) none 
  (.bin .neq (.t x7x) (.c (.n 0))) .nil))) (.cond (.t x8x) (.seq (.reg (.cons (some x9x) none (.mv (.t x4x)) (.cons (some x2x) none (.mv (.c (.b false))) (.cons (some x3x) none 
  (.mv (.t x9x)) .nil)))) .ret) .skip))) (.seq (.reg (.cons (some x10x) none (.mv (.t x0x)) (.cons (some x11x) none (.call 47 (.cons (.t x10x) .nil)) (.cons (some x2x) none (.mv 
  (.t x11x)) (.cons (some x3x) none (.mv (.c (.n 0))) .nil))))) .ret))) [(.tmp x2x), (.tmp x3x)])
theorem cc17 : compF Tryd.prog drops true true Tryd.f17 = some i17 := by kernel_rfl
noncomputable def i18 : FnI := (compF Tryd.prog drops true true Tryd.f18).getD (.mk false false .skip [])
theorem cc18 : compF Tryd.prog drops true true Tryd.f18 = some i18 := by kernel_rfl
noncomputable def i19 : FnI := (.mk true true (.seq (.reg (.cons (some x4x) none (.mv (.c (.s []))) (.cons (some x5x) none (.mv (.c (.n 0))) .nil))) (.seq (.seq (.reg (.cons (some x7x) none (.mv (.t x0x)) (.cons 
  (some x8x) none (.mv (.t x1x)) (.cons (some x9x) none (.call 48 (.cons (.t x7x) (.cons (.t x8x) .nil))) (.cons (some x6x) none (.mv (.t x9x)) .nil))))) (.seq (.reg (.cons (some 
  x10x) none (.mv (.t x6x)) (.cons (some x11x) none (.bin .neq (.t x10x) (.c (.n 0))) .nil))) (.cond (.t x11x) (.seq (.reg (.cons (some x12x) none (.mv (.t x6x)) (.cons (some x4x) 
  none (.mv (.c (.s []))) (.cons (some x5x) none (.mv (.t x12x)) .nil)))) .ret) .skip))) (.seq (.reg (.cons (some x13x) none (.mv (.t x0x)) (.cons (some x14x) none (.mv (.t x1x)) 
  (.cons (some x15x) none (.call 50 (.cons (.t x14x) .nil)) (.cons (some x16x) none (.call 51 (.cons (.t x13x) (.cons (.t x15x) .nil))) (.cons (some x4x) none (.mv (.t x16x)) 
  (.cons (some x5x) none (.mv (.c (.n 0))) .nil))))))) .ret))) [(.tmp x4x), (.tmp x5x)])
theorem cc19 : compF Tryd.prog drops true true Tryd.f19 = some i19 := by kernel_rfl
noncomputable def i21 : FnI := (.mk true true (.seq (.reg (.cons (some x0x) none (.mv (.c (.b false))) .nil)) (.seq (.reg (.cons (some x4x) none (.call 18 (.cons (.c (.s [97, 98])) (.cons (.c (.n 3)) (.cons (.c 
  (.n 8)) .nil)))) (.cons (some x3x) none (.mv (.t x4x)) (.cons (some x5x) none (.ext 0 (.t x3x)) (.cons (some x6x) none (.ext 1 (.t x3x)) (.cons (some x1x) none (.mv (.t x5x)) 
  (.cons (some x2x) none (.mv (.t x6x)) .nil))))))) (.seq (.reg (.cons (some x7x) none (.mv (.t x2x)) (.cons (some x8x) none (.bin .eql (.t x7x) (.c (.n 0))) (.cons (some x9x) none 
  (.mv (.t x8x)) (.cons (some x10x) (some (.mk x9x true)) (.mv (.t x1x)) (.cons (some x11x) (some (.mk x9x true)) (.sbi .eql (.t x10x) (.c (.s [97, 98, 97, 99, 97, 98, 99, 97]))) 
  (.cons (some x12x) none (.pick (.t x9x) (.t x11x) (.c (.b false))) (.cons (some x13x) none (.mv (.t x12x)) (.cons (some x14x) (some (.mk x13x true)) (.call 13 .nil) (.cons (some 
  x15x) none (.pick (.t x13x) (.t x14x) (.c (.b false))) (.cons (some x0x) none (.mv (.t x15x)) .nil))))))))))) .ret))) [(.tmp x0x)])
theorem cc21 : compF Tryd.prog drops true true Tryd.f21 = some i21 := by kernel_rfl
noncomputable def i22 : FnI := (.mk true false (.seq (.reg (.cons (some x2x) none (.mv (.c .ns)) .nil)) (.seq (.reg (.cons (some x3x) none (.mv (.c .ns)) .nil)) (.seq (.seq (.reg (.cons (some x7x) none (.mv (.t 
  x0x)) (.cons (some x8x) none (.slen (.t x7x)) (.cons (some x9x) none (.mv (.c (.n 0))) .nil)))) (.block 0 (.loop (.seq (.reg (.cons (some x10x) none (.bin .lss (.t x9x) (.t x8x)) 
  .nil)) (.seq (.cond (.t x10x) .skip (.exit 0)) (.seq (.block 1 (.seq (.reg (.cons (some x11x) none (.mv (.t x9x)) (.cons (some x4x) none (.mv (.t x11x)) .nil))) (.seq (.seq (.reg 
  (.cons (some x12x) none (.mv (.t x0x)) (.cons (some x13x) none (.mv (.t x4x)) (.cons (some x14x) none (.six (.t x12x) (.t x13x)) (.cons (some x15x) none (.bin .neq (.t x14x) (.c 
  (.i .u8 (.ofNat 110)))) .nil))))) (.cond (.t x15x) (.exit 1) .skip)) (.seq (.reg (.cons (some x5x) none (.mv (.c (.n 0))) .nil)) (.seq (.seq (.reg (.cons (some x16x) none (.mv 
  (.t x4x)) (.cons (some x17x) none (.bin .add (.t x16x) (.c (.n 1))) (.cons (some x6x) none (.mv (.t x17x)) .nil)))) (.block 2 (.loop (.seq (.seq (.reg (.cons (some x18x) none 
  (.mv (.t x6x)) (.cons (some x19x) none (.mv (.t x0x)) (.cons (some x20x) none (.slen (.t x19x)) (.cons (some x21x) none (.bin .lss (.t x18x) (.t x20x)) .nil))))) (.cond (.t x21x) 
  .skip (.exit 2))) (.seq (.block 3 (.seq (.reg (.cons (some x24x) none (.mv (.t x0x)) (.cons (some x25x) none (.mv (.t x6x)) (.cons (some x26x) none (.six (.t x24x) (.t x25x)) 
  (.cons (some x27x) none (.bin .eql (.t x26x) (.c (.i .u8 (.ofNat 99)))) .nil))))) (.cond (.t x27x) (.reg (.cons (some x28x) none (.mv (.t x5x)) (.cons (some x29x) none (.bin .add 
  (.t x28x) (.c (.n 1))) (.cons (some x5x) none (.mv (.t x29x)) .nil)))) .skip))) (.reg (.cons (some x22x) none (.mv (.t x6x)) (.cons (some x23x) none (.bin .add (.t x22x) (.c (.n 
  1))) (.cons (some x6x) none (.mv (.t x23x)) .nil))))))))) (.seq (.reg (.cons (some x30x) none (.mv (.t x5x)) (.cons (some x31x) none (.bin .gtr (.t x30x) (.c (.n 0))) .nil))) 
  (.cond (.t x31x) (.reg (.cons (some x32x) none (.mv (.t x3x)) (.cons (some x33x) none (.mv (.t x5x)) (.cons (some x34x) none (.bsl 3 1 1 (.cons (.n 0) .nil) (.cons 0 1 (.t x33x) 
  .nil)) (.cons (some x35x) none (.app 3 1 8 (.t x32x) (.t x34x)) (.cons (some x3x) none (.mv (.t x35x)) .nil)))))) .skip))))))) (.reg (.cons (some x36x) none (.bin .add (.t x9x) 
  (.c (.n 1))) (.cons (some x9x) none (.mv (.t x36x)) .nil))))))))) (.seq (.reg (.cons (some x37x) none (.mv (.t x3x)) (.cons (some x2x) none (.mv (.t x37x)) .nil))) .ret)))) 
  [(.tmp x2x)])
theorem cc22 : compF Tryd.prog drops true false Tryd.f22 = some i22 := by kernel_rfl
noncomputable def i23 : FnI := (.mk true true (.seq (.reg (.cons (some x8x) none (.mv (.c (.s []))) (.cons (some x9x) none (.mv (.c (.n 0))) .nil))) (.seq (.reg (.cons (some x13x) none (.mv (.t x0x)) (.cons 
  (some x14x) none (.mv (.t x1x)) (.cons (some x15x) none (.mv (.t x2x)) (.cons (some x16x) none (.call 35 (.cons (.t x13x) (.cons (.t x14x) (.cons (.t x15x) .nil)))) (.cons (some 
  x12x) none (.mv (.t x16x)) (.cons (some x17x) none (.ext 0 (.t x12x)) (.cons (some x18x) none (.ext 1 (.t x12x)) (.cons (some x10x) none (.alloc 63 (.cons (.n 0) (.cons (.n 0) 
  (.cons (.n 0) .nil))) 3) (.cons none none (.st 3 (.t x10x) (.t x17x)) (.cons (some x11x) none (.mv (.t x18x)) .nil))))))))))) (.seq (.seq (.reg (.cons (some x19x) none (.mv (.t 
  x11x)) (.cons (some x20x) none (.bin .neq (.t x19x) (.c (.n 0))) .nil))) (.cond (.t x20x) (.seq (.reg (.cons (some x21x) none (.mv (.t x11x)) (.cons (some x8x) none (.mv (.c (.s 
  []))) (.cons (some x9x) none (.mv (.t x21x)) .nil)))) .ret) .skip)) (.seq (.seq (.reg (.cons (some x22x) none (.mv (.t x3x)) (.cons (some x23x) none (.bin .lss (.t x22x) (.c (.n 
  0))) (.cons (some x24x) none (.mv (.t x23x)) (.cons (some x25x) (some (.mk x24x false)) (.mv (.t x3x)) (.cons (some x26x) (some (.mk x24x false)) (.ld 3 true (.t x10x)) (.cons 
  (some x27x) (some (.mk x24x false)) (.call 36 (.cons (.t x26x) .nil)) (.cons (some x28x) (some (.mk x24x false)) (.bin .geq (.t x25x) (.t x27x)) (.cons (some x29x) none (.pick 
  (.t x24x) (.c (.b true)) (.t x28x)) .nil))))))))) (.cond (.t x29x) (.seq (.reg (.cons (some x8x) none (.mv (.c (.s []))) (.cons (some x9x) none (.mv (.c (.n 1))) .nil))) .ret) 
  .skip)) (.seq (.reg (.cons (some x30x) none (.ld 3 true (.t x10x)) (.cons (some x31x) none (.mv (.t x3x)) (.cons (some x32x) none (.call 53 (.cons (.t x30x) (.cons (.t x31x) 
  .nil))) (.cons (some x8x) none (.mv (.t x32x)) (.cons (some x9x) none (.mv (.c (.n 0))) .nil)))))) .ret))))) [(.tmp x8x), (.tmp x9x)])
theorem cc23 : compF Tryd.prog drops true true Tryd.f23 = some i23 := by kernel_rfl
noncomputable def i24 : FnI := (.mk true true (.seq (.reg (.cons (some x2x) none (.mv (.c (.n 0))) (.cons (some x3x) none (.mv (.c (.n 0))) .nil))) (.seq (.seq (.reg (.cons (some x5x) none (.mv (.t x0x)) (.cons 
  (some x6x) none (.call 54 (.cons (.t x5x) .nil)) (.cons (some x4x) none (.mv (.t x6x)) .nil)))) (.seq (.reg (.cons (some x7x) none (.mv (.t x4x)) (.cons (some x8x) none (.bin 
  .neq (.t x7x) (.c (.n 0))) .nil))) (.cond (.t x8x) (.seq (.reg (.cons (some x9x) none (.mv (.t x4x)) (.cons (some x2x) none (.mv (.c (.n 0))) (.cons (some x3x) none (.mv (.t 
  x9x)) .nil)))) .ret) .skip))) (.seq (.reg (.cons (some x10x) none (.mv (.t x0x)) (.cons (some x11x) none (.call 55 (.cons (.t x10x) .nil)) (.cons (some x2x) none (.mv (.t x11x)) 
  (.cons (some x3x) none (.mv (.c (.n 0))) .nil))))) .ret))) [(.tmp x2x), (.tmp x3x)])
theorem cc24 : compF Tryd.prog drops true true Tryd.f24 = some i24 := by kernel_rfl
noncomputable def i25 : FnI := (.mk true false (.seq (.reg (.cons (some x2x) none (.mv (.c .ns)) (.cons (some x3x) none (.mv (.c (.n 0))) .nil))) (.seq (.seq (.reg (.cons (some x5x) none (.mv (.t x0x)) (.cons 
  (some x6x) none (.call 54 (.cons (.t x5x) .nil)) (.cons (some x4x) none (.mv (.t x6x)) .nil)))) (.seq (.reg (.cons (some x7x) none (.mv (.t x4x)) (.cons (some x8x) none (.bin 
  .neq (.t x7x) (.c (.n 0))) .nil))) (.cond (.t x8x) (.seq (.reg (.cons (some x9x) none (.mv (.t x4x)) (.cons (some x2x) none (.mv (.c .ns)) (.cons (some x3x) none (.mv (.t x9x)) 
  .nil)))) .ret) .skip))) (.seq (.reg (.cons (some x10x) none (.mv (.t x0x)) (.cons (some x11x) none (.call 56 (.cons (.t x10x) .nil)) (.cons (some x2x) none (.mv (.t x11x)) (.cons 
  (some x3x) none (.mv (.c (.n 0))) .nil))))) .ret))) [(.tmp x2x), (.tmp x3x)])
theorem cc25 : compF Tryd.prog drops true false Tryd.f25 = some i25 := by kernel_rfl
noncomputable def i26 : FnI := (.mk true true (.seq (.reg (.cons (some x4x) none (.mv (.c (.b false))) .nil)) (.seq (.seq (.reg (.cons (some x6x) none (.mv (.t x0x)) (.cons (some x7x) none (.len (.t x6x)) (.cons 
  (some x8x) none (.mv (.t x1x)) (.cons (some x9x) none (.len (.t x8x)) (.cons (some x10x) none (.bin .neq (.t x7x) (.t x9x)) .nil)))))) (.cond (.t x10x) (.seq (.reg (.cons (some 
  x4x) none (.mv (.c (.b false))) .nil)) .ret) .skip)) (.seq (.seq (.reg (.cons (some x11x) none (.mv (.t x0x)) (.cons (some x12x) none (.len (.t x11x)) (.cons (some x13x) none 
  (.mv (.c (.n 0))) .nil)))) (.block 0 (.loop (.seq (.reg (.cons (some x14x) none (.bin .lss (.t x13x) (.t x12x)) .nil)) (.seq (.cond (.t x14x) .skip (.exit 0)) (.seq (.block 1 
  (.seq (.reg (.cons (some x15x) none (.mv (.t x13x)) (.cons (some x5x) none (.mv (.t x15x)) .nil))) (.seq (.draw [(.mk (some x16x) none true [] false [] [] [x0x] (.mv (.t x0x)) 
  false [] [] []), (.mk (some x17x) none true [] false [false] [] [x5x] (.mv (.t x5x)) false [] [] []), (.mk (some x18x) none true [] false [true, true] [] [x16x, x17x] (.ixs 1 (.t 
  x16x) (.t x17x)) false [] [] []), (.mk (some x19x) none false [] false [true, true, true] [] [x18x] (.ld 1 false (.t x18x)) false [] [] []), (.mk (some x20x) none true [] false 
  [false, false, false, false] [] [x1x] (.mv (.t x1x)) false [] [] []), (.mk (some x21x) none true [] false [false, false, false, false, false] [] [x5x] (.mv (.t x5x)) false [] [] 
  []), (.mk (some x22x) none true [] false [true, true, false, false, false, false] [] [x20x, x21x] (.ixs 1 (.t x20x) (.t x21x)) false [] [] []), (.mk (some x23x) none false [] 
  false [true, true, true, false, false, false, false] [] [x22x] (.ld 1 false (.t x22x)) false [] [] []), (.mk (some x24x) none true [] false [true, true, true, true, true, true, 
  true, true] [] [x19x, x23x] (.bin .neq (.t x19x) (.t x23x)) false [] [] [])]) (.cond (.t x24x) (.seq (.reg (.cons (some x4x) none (.mv (.c (.b false))) .nil)) .ret) .skip)))) 
  (.reg (.cons (some x25x) none (.bin .add (.t x13x) (.c (.n 1))) (.cons (some x13x) none (.mv (.t x25x)) .nil))))))))) (.seq (.reg (.cons (some x4x) none (.mv (.c (.b true))) 
  .nil)) .ret)))) [(.tmp x4x)])
theorem cc26 : compF Tryd.prog drops true true Tryd.f26 = some i26 := by kernel_rfl
noncomputable def i27 : FnI := (.mk true true (.seq (.reg (.cons (some x0x) none (.mv (.c (.b false))) .nil)) (.seq (.reg (.cons (some x4x) none (.call 57 (.cons (.c (.n 5)) .nil)) (.cons (some x3x) none (.mv 
  (.t x4x)) (.cons (some x5x) none (.ext 0 (.t x3x)) (.cons (some x6x) none (.ext 1 (.t x3x)) (.cons (some x1x) none (.mv (.t x5x)) (.cons (some x2x) none (.mv (.t x6x)) 
  .nil))))))) (.seq (.reg (.cons (some x7x) none (.mv (.t x2x)) (.cons (some x8x) none (.bin .eql (.t x7x) (.c (.n 0))) (.cons (some x9x) none (.mv (.t x8x)) (.cons (some x10x) 
  (some (.mk x9x true)) (.mv (.t x1x)) (.cons (some x11x) (some (.mk x9x true)) (.bin .eql (.t x10x) (.c (.n 7))) (.cons (some x12x) none (.pick (.t x9x) (.t x11x) (.c (.b false))) 
  (.cons (some x13x) none (.mv (.t x12x)) (.cons (some x14x) (some (.mk x13x true)) (.call 21 .nil) (.cons (some x15x) none (.pick (.t x13x) (.t x14x) (.c (.b false))) (.cons (some 
  x0x) none (.mv (.t x15x)) .nil))))))))))) .ret))) [(.tmp x0x)])
theorem cc27 : compF Tryd.prog drops true true Tryd.f27 = some i27 := by kernel_rfl
noncomputable def i28 : FnI := (.mk true true (.seq (.reg (.cons (some x4x) none (.mv (.c (.n 0))) .nil)) (.seq (.seq (.reg (.cons (some x6x) none (.mv (.t x0x)) (.cons (some x7x) none (.call 58 (.cons (.t x6x) 
  .nil)) (.cons (some x5x) none (.mv (.t x7x)) .nil)))) (.seq (.reg (.cons (some x8x) none (.mv (.t x5x)) (.cons (some x9x) none (.bin .neq (.t x8x) (.c (.n 0))) .nil))) (.cond (.t 
  x9x) (.seq (.reg (.cons (some x10x) none (.mv (.t x5x)) (.cons (some x4x) none (.mv (.t x10x)) .nil))) .ret) .skip))) (.seq (.seq (.reg (.cons (some x11x) none (.mv (.t x1x)) 
  (.cons (some x12x) none (.bin .lss (.t x11x) (.c (.n 0))) (.cons (some x13x) none (.mv (.t x12x)) (.cons (some x14x) (some (.mk x13x false)) (.mv (.t x1x)) (.cons (some x15x) 
  (some (.mk x13x false)) (.bin .gtr (.t x14x) (.c (.n 20))) (.cons (some x16x) none (.pick (.t x13x) (.c (.b true)) (.t x15x)) .nil))))))) (.cond (.t x16x) (.seq (.reg (.cons 
  (some x4x) none (.mv (.c (.n 1))) .nil)) .ret) .skip)) (.seq (.reg (.cons (some x4x) none (.mv (.c (.n 0))) .nil)) .ret)))) [(.tmp x4x)])
theorem cc28 : compF Tryd.prog drops true true Tryd.f28 = some i28 := by kernel_rfl
noncomputable def i29 : FnI := (.mk true true (.seq (.reg (.cons (some x4x) none (.mv (.c (.n 0))) .nil)) (.seq (.seq (.reg (.cons (some x6x) none (.mv (.t x0x)) (.cons (some x7x) none (.len (.t x6x)) (.cons 
  (some x8x) none (.mv (.c (.n 0))) .nil)))) (.block 0 (.loop (.seq (.reg (.cons (some x9x) none (.bin .lss (.t x8x) (.t x7x)) .nil)) (.seq (.cond (.t x9x) .skip (.exit 0)) (.seq 
  (.block 1 (.seq (.reg (.cons (some x10x) none (.mv (.t x8x)) (.cons (some x5x) none (.mv (.t x10x)) .nil))) (.seq (.reg (.cons (some x11x) none (.mv (.t x1x)) (.cons (some x12x) 
  none (.mv (.t x0x)) (.cons (some x13x) none (.mv (.t x5x)) (.cons (some x14x) none (.ixs 1 (.t x12x) (.t x13x)) (.cons (some x15x) none (.ld 1 false (.t x14x)) (.cons (some x16x) 
  none (.callv (.t x11x) (.cons (.t x15x) .nil)) .nil))))))) (.cond (.t x16x) (.seq (.reg (.cons (some x17x) none (.mv (.t x5x)) (.cons (some x4x) none (.mv (.t x17x)) .nil))) 
  .ret) .skip)))) (.reg (.cons (some x18x) none (.bin .add (.t x8x) (.c (.n 1))) (.cons (some x8x) none (.mv (.t x18x)) .nil))))))))) (.seq (.reg (.cons (some x4x) none (.mv (.c 
  (.i .i64 (.negSucc 0)))) .nil)) .ret))) [(.tmp x4x)])
theorem cc29 : compF Tryd.prog drops true true Tryd.f29 = some i29 := by kernel_rfl
noncomputable def i30 : FnI := (.mk true false (.seq (.reg (.cons (some x4x) none (.mv (.c .ns)) .nil)) (.seq (.reg (.cons (some x8x) none (.mv (.t x0x)) (.cons (some x9x) none (.slen (.t x8x)) (.cons (some 
  x10x) none (.mks 3 1 8 1 (.cons (.n 0) .nil) (.t x9x) (.t x9x)) (.cons (some x5x) none (.mv (.t x10x)) .nil))))) (.seq (.reg (.cons (some x11x) none (.mv (.t x1x)) (.cons (some 
  x6x) none (.mv (.t x11x)) .nil))) (.seq (.seq (.reg (.cons (some x12x) none (.mv (.t x5x)) (.cons (some x13x) none (.len (.t x12x)) (.cons (some x14x) none (.mv (.c (.n 0))) 
  .nil)))) (.block 0 (.loop (.seq (.reg (.cons (some x15x) none (.bin .lss (.t x14x) (.t x13x)) .nil)) (.seq (.cond (.t x15x) .skip (.exit 0)) (.seq (.block 1 (.seq (.reg (.cons 
  (some x16x) none (.mv (.t x14x)) (.cons (some x7x) none (.mv (.t x16x)) .nil))) (.seq (.seq (.reg (.cons (some x17x) none (.mv (.t x0x)) (.cons (some x18x) none (.mv (.t x7x)) 
  (.cons (some x19x) none (.six (.t x17x) (.t x18x)) (.cons (some x20x) none (.bin .eql (.t x19x) (.c (.i .u8 (.ofNat 99)))) .nil))))) (.cond (.t x20x) (.reg (.cons (some x21x) 
  none (.mv (.t x6x)) (.cons (some x22x) none (.bin .add (.t x21x) (.c (.n 1))) (.cons (some x6x) none (.mv (.t x22x)) .nil)))) (.reg (.cons (some x23x) none (.mv (.t x6x)) (.cons 
  (some x24x) none (.bin .sub (.t x23x) (.c (.n 1))) (.cons (some x6x) none (.mv (.t x24x)) .nil)))))) (.reg (.cons (some x25x) none (.mv (.t x5x)) (.cons (some x26x) none (.mv (.t 
  x7x)) (.cons (some x27x) none (.mv (.t x6x)) (.cons (some x28x) none (.ixs 1 (.t x25x) (.t x26x)) (.cons none none (.st 1 (.t x28x) (.t x27x)) .nil))))))))) (.reg (.cons (some 
  x29x) none (.bin .add (.t x14x) (.c (.n 1))) (.cons (some x14x) none (.mv (.t x29x)) .nil))))))))) (.seq (.reg (.cons (some x30x) none (.mv (.t x5x)) (.cons (some x4x) none (.mv 
  (.t x30x)) .nil))) .ret))))) [(.tmp x4x)])
theorem cc30 : compF Tryd.prog drops true false Tryd.f30 = some i30 := by kernel_rfl
noncomputable def i31 : FnI := (.mk true true (.seq (.reg (.cons (some x2x) none (.mv (.c (.b false))) .nil)) (.seq (.reg (.cons (some x3x) none (.mv (.t x0x)) (.cons (some x4x) none (.bin .lss (.t x3x) (.c (.n 
  0))) (.cons (some x2x) none (.mv (.t x4x)) .nil)))) .ret)) [(.tmp x2x)])
theorem cc31 : compF Tryd.prog drops true true Tryd.f31 = some i31 := by kernel_rfl
noncomputable def i32 : FnI := (.mk true true (.seq (.reg (.cons (some x6x) none (.mv (.c (.n 0))) .nil)) (.seq (.seq (.reg (.cons (some x8x) none (.mv (.t x0x)) (.cons (some x9x) none (.mv (.t x1x)) (.cons 
  (some x10x) none (.call 59 (.cons (.t x8x) (.cons (.t x9x) .nil))) (.cons (some x7x) none (.mv (.t x10x)) .nil))))) (.seq (.reg (.cons (some x11x) none (.mv (.t x7x)) (.cons 
  (some x12x) none (.bin .neq (.t x11x) (.c (.n 0))) .nil))) (.cond (.t x12x) (.seq (.reg (.cons (some x13x) none (.mv (.t x7x)) (.cons (some x6x) none (.mv (.t x13x)) .nil))) 
  .ret) .skip))) (.seq (.reg (.cons (some x14x) none (.mv (.t x2x)) (.cons (some x15x) none (.call 60 (.cons (.t x14x) .nil)) (.cons (some x6x) none (.mv (.t x15x)) .nil)))) 
  .ret))) [(.tmp x6x)])
theorem cc32 : compF Tryd.prog drops true true Tryd.f32 = some i32 := by kernel_rfl
noncomputable def i33 : FnI := (.mk true false (.seq (.reg (.cons (some x6x) none (.mv (.c .ns)) .nil)) (.seq (.reg (.cons (some x10x) none (.mv (.t x2x)) (.cons (some x11x) none (.bin .add (.t x10x) (.c (.n 
  1))) (.cons (some x12x) none (.mks 3 1 8 1 (.cons (.n 0) .nil) (.t x11x) (.t x11x)) (.cons (some x7x) none (.mv (.t x12x)) .nil))))) (.seq (.reg (.cons (some x13x) none (.mv (.t 
  x7x)) (.cons (some x14x) none (.ixs 1 (.t x13x) (.c (.n 0))) (.cons none none (.st 1 (.t x14x) (.c (.n 1))) .nil)))) (.seq (.seq (.reg (.cons (some x15x) none (.mv (.t x0x)) 
  (.cons (some x16x) none (.len (.t x15x)) (.cons (some x17x) none (.mv (.c (.n 0))) .nil)))) (.block 0 (.loop (.seq (.reg (.cons (some x18x) none (.bin .lss (.t x17x) (.t x16x)) 
  .nil)) (.seq (.cond (.t x18x) .skip (.exit 0)) (.seq (.block 1 (.seq (.reg (.cons (some x19x) none (.mv (.t x17x)) (.cons (some x20x) none (.ixs 1 (.t x15x) (.t x17x)) (.cons 
  (some x21x) none (.ld 1 false (.t x20x)) (.cons (some x8x) none (.mv (.t x19x)) (.cons (some x9x) none (.mv (.t x21x)) .nil)))))) (.reg (.cons (some x22x) none (.mv (.t x7x)) 
  (.cons (some x23x) none (.mv (.t x9x)) (.cons (some x24x) none (.mv (.t x1x)) (.cons (some x25x) none (.mv (.t x8x)) (.cons (some x26x) none (.ixs 1 (.t x24x) (.t x25x)) (.cons 
  (some x27x) none (.ld 1 false (.t x26x)) (.cons (some x28x) none (.call 61 (.cons (.t x22x) (.cons (.t x23x) (.cons (.t x27x) .nil)))) (.cons (some x7x) none (.mv (.t x28x)) 
  .nil))))))))))) (.reg (.cons (some x29x) none (.bin .add (.t x17x) (.c (.n 1))) (.cons (some x17x) none (.mv (.t x29x)) .nil))))))))) (.seq (.reg (.cons (some x30x) none (.mv (.t 
  x7x)) (.cons (some x6x) none (.mv (.t x30x)) .nil))) .ret))))) [(.tmp x6x)])
theorem cc33 : compF Tryd.prog drops true false Tryd.f33 = some i33 := by kernel_rfl
noncomputable def i34 : FnI := (.mk true true (.seq (.reg (.cons (some x4x) none (.mv (.c (.n 0))) .nil)) (.seq (.reg (.cons (some x5x) none (.mv (.c (.n 0))) .nil)) (.seq (.seq (.reg (.cons (some x8x) none (.mv 
  (.t x0x)) (.cons (some x9x) none (.len (.t x8x)) (.cons (some x10x) none (.mv (.c (.n 0))) .nil)))) (.block 0 (.loop (.seq (.reg (.cons (some x11x) none (.bin .lss (.t x10x) (.t 
  x9x)) .nil)) (.seq (.cond (.t x11x) .skip (.exit 0)) (.seq (.block 1 (.seq (.reg (.cons (some x12x) none (.mv (.t x10x)) (.cons (some x13x) none (.ixs 1 (.t x8x) (.t x10x)) 
  (.cons (some x14x) none (.ld 1 false (.t x13x)) (.cons (some x6x) none (.mv (.t x12x)) (.cons (some x7x) none (.mv (.t x14x)) .nil)))))) (.reg (.cons (some x15x) none (.mv (.t 
  x5x)) (.cons (some x16x) none (.mv (.t x7x)) (.cons (some x17x) none (.mv (.t x1x)) (.cons (some x18x) none (.mv (.t x6x)) (.cons (some x19x) none (.ixs 1 (.t x17x) (.t x18x)) 
  (.cons (some x20x) none (.ld 1 false (.t x19x)) (.cons (some x21x) none (.bin .mul (.t x16x) (.t x20x)) (.cons (some x22x) none (.bin .add (.t x15x) (.t x21x)) (.cons (some x5x) 
  none (.mv (.t x22x)) .nil)))))))))))) (.reg (.cons (some x23x) none (.bin .add (.t x10x) (.c (.n 1))) (.cons (some x10x) none (.mv (.t x23x)) .nil))))))))) (.seq (.reg (.cons 
  (some x24x) none (.mv (.t x5x)) (.cons (some x4x) none (.mv (.t x24x)) .nil))) .ret)))) [(.tmp x4x)])
theorem cc34 : compF Tryd.prog drops true true Tryd.f34 = some i34 := by kernel_rfl
noncomputable def i35 : FnI := (.mk true true (.seq (.reg (.cons (some x6x) none (.alloc 63 (.cons (.n 0) (.cons (.n 0) (.cons (.n 0) .nil))) 3) (.cons (some x7x) none (.mv (.c (.n 0))) .nil))) (.seq (.seq (.reg 
  (.cons (some x8x) none (.mv (.t x0x)) (.cons (some x9x) none (.bin .lss (.t x8x) (.c (.n 0))) (.cons (some x10x) none (.mv (.t x9x)) (.cons (some x11x) (some (.mk x10x false)) 
  (.mv (.t x0x)) (.cons (some x12x) (some (.mk x10x false)) (.bin .gtr (.t x11x) (.c (.n 16))) (.cons (some x13x) none (.pick (.t x10x) (.c (.b true)) (.t x12x)) (.cons (some x14x) 
  none (.mv (.t x13x)) (.cons (some x15x) (some (.mk x14x false)) (.mv (.t x1x)) (.cons (some x16x) (some (.mk x14x false)) (.bin .lss (.t x15x) (.c (.n 0))) (.cons (some x17x) 
  none (.pick (.t x14x) (.c (.b true)) (.t x16x)) (.cons (some x18x) none (.mv (.t x17x)) (.cons (some x19x) (some (.mk x18x false)) (.mv (.t x1x)) (.cons (some x20x) (some (.mk 
  x18x false)) (.mv (.t x0x)) (.cons (some x21x) (some (.mk x18x false)) (.bin .sub (.c (.n 16)) (.t x20x)) (.cons (some x22x) (some (.mk x18x false)) (.bin .gtr (.t x19x) (.t 
  x21x)) (.cons (some x23x) none (.pick (.t x18x) (.c (.b true)) (.t x22x)) .nil))))))))))))))))) (.cond (.t x23x) (.seq (.reg (.cons (some x24x) none (.build (.cons (.n 0) (.cons 
  (.n 0) (.cons (.n 0) .nil))) .nil) (.cons none none (.st 3 (.t x6x) (.t x24x)) (.cons (some x7x) none (.mv (.c (.n 1))) .nil)))) .ret) .skip)) (.seq (.seq (.reg (.cons (some 
  x25x) none (.mv (.t x2x)) (.cons (some x26x) none (.bin .lss (.t x25x) (.c (.n 0))) (.cons (some x27x) none (.mv (.t x26x)) (.cons (some x28x) (some (.mk x27x false)) (.mv (.t 
  x2x)) (.cons (some x29x) (some (.mk x27x false)) (.bin .gtr (.t x28x) (.c (.n 20))) (.cons (some x30x) none (.pick (.t x27x) (.c (.b true)) (.t x29x)) .nil))))))) (.cond (.t 
  x30x) (.seq (.reg (.cons (some x31x) none (.build (.cons (.n 0) (.cons (.n 0) (.cons (.n 0) .nil))) .nil) (.cons none none (.st 3 (.t x6x) (.t x31x)) (.cons (some x7x) none (.mv 
  (.c (.n 1))) .nil)))) .ret) .skip)) (.seq (.reg (.cons (some x32x) none (.mv (.t x0x)) (.cons (some x33x) none (.mv (.t x1x)) (.cons (some x34x) none (.mv (.t x2x)) (.cons (some 
  x35x) none (.build (.cons (.n 0) (.cons (.n 0) (.cons (.n 0) .nil))) (.cons 0 1 (.t x32x) (.cons 1 1 (.t x33x) (.cons 2 1 (.t x34x) .nil)))) (.cons none none (.st 3 (.t x6x) (.t 
  x35x)) (.cons (some x7x) none (.mv (.c (.n 0))) .nil))))))) .ret)))) [(.cell x6x 3 true), (.tmp x7x)])
theorem cc35 : compF Tryd.prog drops true true Tryd.f35 = some i35 := by kernel_rfl
noncomputable def i36 : FnI := (.mk true true (.seq (.reg (.cons (some x1x) none (.box 63 (.t x0x)) (.cons (some x2x) none (.mv (.c (.n 0))) .nil))) (.seq (.seq (.reg (.cons (some x4x) none (.fad 0 (.t x1x)) 
  (.cons (some x5x) none (.ld 1 false (.t x4x)) (.cons (some x6x) none (.bin .lss (.t x5x) (.c (.n 0))) (.cons (some x7x) none (.mv (.t x6x)) (.cons (some x8x) (some (.mk x7x 
  false)) (.fad 1 (.t x1x)) (.cons (some x9x) (some (.mk x7x false)) (.ld 1 false (.t x8x)) (.cons (some x10x) (some (.mk x7x false)) (.fad 0 (.t x1x)) (.cons (some x11x) (some 
  (.mk x7x false)) (.ld 1 false (.t x10x)) (.cons (some x12x) (some (.mk x7x false)) (.fad 2 (.t x1x)) (.cons (some x13x) (some (.mk x7x false)) (.ld 1 false (.t x12x)) (.cons 
  (some x14x) (some (.mk x7x false)) (.bin .add (.t x11x) (.t x13x)) (.cons (some x15x) (some (.mk x7x false)) (.bin .gtr (.t x9x) (.t x14x)) (.cons (some x16x) none (.pick (.t 
  x7x) (.c (.b true)) (.t x15x)) .nil)))))))))))))) (.cond (.t x16x) (.seq (.reg (.cons (some x2x) none (.mv (.c (.n 0))) .nil)) .ret) .skip)) (.seq (.reg (.cons (some x17x) none 
  (.fad 0 (.t x1x)) (.cons (some x18x) none (.ld 1 false (.t x17x)) (.cons (some x19x) none (.fad 1 (.t x1x)) (.cons (some x20x) none (.ld 1 false (.t x19x)) (.cons (some x21x) 
  none (.bin .add (.t x18x) (.t x20x)) (.cons (some x3x) none (.mv (.t x21x)) .nil))))))) (.seq (.draw [(.mk (some x22x) none true [] false [] [] [x3x] (.mv (.t x3x)) false [] [] 
  []), (.mk (some x23x) none true [] false [false] [] [x1x] (.fad 1 (.t x1x)) false [] [] []), (.mk (some x24x) none false [] false [true, false] [] [x23x] (.ld 1 false (.t x23x)) 
  false [] [] []), (.mk (some x25x) none false [] false [true, true, true] [] [x22x, x24x] (.call 62 (.cons (.t x22x) (.cons (.t x24x) .nil))) false [] [] []), (.mk (some x26x) 
  none true [] false [false, false, false, false] [] [x3x] (.mv (.t x3x)) false [] [] []), (.mk (some x27x) none true [] false [false, false, false, false, false] [] [x1x] (.fad 1 
  (.t x1x)) false [] [] []), (.mk (some x28x) none false [] false [true, false, false, false, false, false] [] [x27x] (.ld 1 false (.t x27x)) false [] [] []), (.mk (some x29x) none 
  true [] false [false, false, false, false, false, false, false] [] [x1x] (.fad 2 (.t x1x)) false [] [] []), (.mk (some x30x) none false [] false [true, false, false, false, 
  false, false, false, false] [] [x29x] (.ld 1 false (.t x29x)) false [] [] []), (.mk (some x31x) none true [] false [true, true, true, true, false, false, false, false, false] [] 
  [x28x, x30x] (.bin .sub (.t x28x) (.t x30x)) false [] [] []), (.mk (some x32x) none true [] false [true, true, true, true, true, false, false, false, false, false] [] [x31x] 
  (.bin .sub (.t x31x) (.c (.n 1))) false [] [] []), (.mk (some x33x) none false [] false [true, true, true, true, true, true, true, true, true, true, true] [] [x26x, x32x] (.call 
  62 (.cons (.t x26x) (.cons (.t x32x) .nil))) false [] [] []), (.mk (some x34x) none true [] false [true, true, true, true, true, true, true, true, true, true, true, true] [] 
  [x25x, x33x] (.bin .sub (.t x25x) (.t x33x)) false [] [] []), (.mk (some x2x) none true [] false [true, true, true, true, true, true, true, true, true, true, true, true, true] [] 
  [x34x] (.mv (.t x34x)) false [] [] [])]) .ret)))) [(.tmp x2x)])
theorem cc36 : compF Tryd.prog drops true true Tryd.f36 = some i36 := by kernel_rfl
noncomputable def i37 : FnI := (.mk true true (.seq (.reg (.cons (some x4x) none (.mv (.c (.b false))) .nil)) (.seq (.reg (.cons (some x5x) none (.mv (.t x1x)) (.cons (some x6x) none (.bin .geq (.t x5x) (.c (.n 
  0))) (.cons (some x7x) none (.mv (.t x6x)) (.cons (some x8x) (some (.mk x7x true)) (.mv (.t x1x)) (.cons (some x9x) (some (.mk x7x true)) (.mv (.t x0x)) (.cons (some x10x) (some 
  (.mk x7x true)) (.len (.t x9x)) (.cons (some x11x) (some (.mk x7x true)) (.bin .lss (.t x8x) (.t x10x)) (.cons (some x12x) none (.pick (.t x7x) (.t x11x) (.c (.b false))) (.cons 
  (some x4x) none (.mv (.t x12x)) .nil)))))))))) .ret)) [(.tmp x4x)])
theorem cc37 : compF Tryd.prog drops true true Tryd.f37 = some i37 := by kernel_rfl
noncomputable def i38 : FnI := (.mk true false (.seq (.reg (.cons (some x8x) none (.mv (.c .ns)) .nil)) (.seq (.reg (.cons (some x13x) none (.mv (.t x1x)) (.cons (some x14x) none (.call 63 (.cons (.t x13x) 
  .nil)) (.cons (some x9x) none (.mv (.t x14x)) .nil)))) (.seq (.reg (.cons (some x15x) none (.mv (.t x9x)) (.cons (some x16x) none (.mv (.t x3x)) (.cons (some x17x) none (.ixs 1 
  (.t x15x) (.t x16x)) (.cons none none (.st 1 (.t x17x) (.c (.n 0))) .nil))))) (.seq (.reg (.cons (some x18x) none (.mv (.t x0x)) (.cons (some x19x) none (.mv (.t x9x)) (.cons 
  (some x20x) none (.mv (.t x2x)) (.cons (some x21x) none (.call 64 (.cons (.t x18x) (.cons (.t x19x) (.cons (.t x20x) .nil)))) (.cons (some x10x) none (.mv (.t x21x)) .nil)))))) 
  (.seq (.reg (.cons (some x11x) none (.mv (.c .ns)) .nil)) (.seq (.seq (.reg (.cons (some x22x) none (.mv (.t x1x)) (.cons (some x23x) none (.mv (.t x3x)) (.cons (some x24x) none 
  (.ixs 1 (.t x22x) (.t x23x)) (.cons (some x25x) none (.ld 1 false (.t x24x)) (.cons (some x26x) none (.bin .add (.t x25x) (.c (.n 1))) (.cons (some x27x) none (.mv (.c (.n 0))) 
  .nil))))))) (.block 0 (.loop (.seq (.reg (.cons (some x28x) none (.bin .lss (.t x27x) (.t x26x)) .nil)) (.seq (.cond (.t x28x) .skip (.exit 0)) (.seq (.block 1 (.seq (.reg (.cons 
  (some x29x) none (.mv (.t x27x)) (.cons (some x12x) none (.mv (.t x29x)) .nil))) (.seq (.reg (.cons (some x30x) none (.mv (.t x10x)) (.cons (some x31x) none (.mv (.t x2x)) (.cons 
  (some x32x) none (.mv (.t x12x)) (.cons (some x33x) none (.mv (.t x0x)) (.cons (some x34x) none (.mv (.t x3x)) (.cons (some x35x) none (.ixs 1 (.t x33x) (.t x34x)) (.cons (some 
  x36x) none (.ld 1 false (.t x35x)) (.cons (some x37x) none (.bin .mul (.t x32x) (.t x36x)) (.cons (some x38x) none (.bin .sub (.t x31x) (.t x37x)) (.cons (some x39x) none (.callv 
  (.t x30x) (.cons (.t x38x) .nil)) .nil))))))))))) (.cond (.t x39x) (.reg (.cons (some x40x) none (.mv (.t x11x)) (.cons (some x41x) none (.mv (.t x12x)) (.cons (some x42x) none 
  (.bsl 3 1 1 (.cons (.n 0) .nil) (.cons 0 1 (.t x41x) .nil)) (.cons (some x43x) none (.app 3 1 8 (.t x40x) (.t x42x)) (.cons (some x11x) none (.mv (.t x43x)) .nil)))))) .skip)))) 
  (.reg (.cons (some x44x) none (.bin .add (.t x27x) (.c (.n 1))) (.cons (some x27x) none (.mv (.t x44x)) .nil))))))))) (.seq (.reg (.cons (some x45x) none (.mv (.t x11x)) (.cons 
  (some x8x) none (.mv (.t x45x)) .nil))) .ret))))))) [(.tmp x8x)])
theorem cc38 : compF Tryd.prog drops true false Tryd.f38 = some i38 := by kernel_rfl
noncomputable def i39 : FnI := (.mk true true (.seq (.reg (.cons (some x0x) none (.mv (.c (.b false))) .nil)) (.seq (.reg (.cons (some x6x) none (.bsl 3 1 2 (.cons (.n 0) (.cons (.n 0) .nil)) (.cons 0 1 (.c (.n 
  2)) (.cons 1 1 (.c (.n 5)) .nil))) (.cons (some x7x) none (.call 6 (.cons (.t x6x) .nil)) (.cons (some x8x) none (.bsl 3 1 2 (.cons (.n 0) (.cons (.n 0) .nil)) (.cons 0 1 (.c (.n 
  3)) (.cons 1 1 (.c (.n 2)) .nil))) (.cons (some x9x) none (.call 6 (.cons (.t x8x) .nil)) (.cons (some x10x) none (.call 65 (.cons (.t x7x) (.cons (.t x9x) (.cons (.c (.n 11)) 
  .nil)))) (.cons (some x5x) none (.mv (.t x10x)) (.cons (some x11x) none (.ext 0 (.t x5x)) (.cons (some x12x) none (.ext 1 (.t x5x)) (.cons (some x1x) none (.mv (.t x11x)) (.cons 
  (some x2x) none (.mv (.t x12x)) .nil))))))))))) (.seq (.reg (.cons (some x14x) none (.bsl 3 1 3 (.cons (.n 0) (.cons (.n 0) (.cons (.n 0) .nil))) (.cons 0 1 (.c (.n 1)) (.cons 1 
  1 (.c (.n 1)) (.cons 2 1 (.c (.n 1)) .nil)))) (.cons (some x15x) none (.call 6 (.cons (.t x14x) .nil)) (.cons (some x16x) none (.bsl 3 1 3 (.cons (.n 0) (.cons (.n 0) (.cons (.n 
  0) .nil))) (.cons 0 1 (.c (.n 0)) (.cons 1 1 (.c (.n 0)) (.cons 2 1 (.c (.n 0)) .nil)))) (.cons (some x17x) none (.call 6 (.cons (.t x16x) .nil)) (.cons (some x18x) none (.call 
  16 (.cons (.t x15x) (.cons (.t x17x) .nil))) (.cons (some x13x) none (.mv (.t x18x)) (.cons (some x19x) none (.ext 0 (.t x13x)) (.cons (some x20x) none (.ext 1 (.t x13x)) (.cons 
  (some x3x) none (.mv (.t x19x)) (.cons (some x4x) none (.mv (.t x20x)) .nil))))))))))) (.seq (.reg (.cons (some x21x) none (.mv (.t x2x)) (.cons (some x22x) none (.bin .eql (.t 
  x21x) (.c (.n 0))) (.cons (some x23x) none (.mv (.t x22x)) (.cons (some x24x) (some (.mk x23x true)) (.mv (.t x4x)) (.cons (some x25x) (some (.mk x23x true)) (.bin .eql (.t x24x) 
  (.c (.n 0))) (.cons (some x26x) none (.pick (.t x23x) (.t x25x) (.c (.b false))) (.cons (some x27x) none (.mv (.t x26x)) (.cons (some x28x) (some (.mk x27x true)) (.mv (.t x1x)) 
  (.cons (some x29x) (some (.mk x27x true)) (.bsl 3 1 2 (.cons (.n 0) (.cons (.n 0) .nil)) (.cons 0 1 (.c (.n 3)) (.cons 1 1 (.c (.n 1)) .nil))) (.cons (some x30x) (some (.mk x27x 
  true)) (.call 6 (.cons (.t x29x) .nil)) (.cons (some x31x) (some (.mk x27x true)) (.call 26 (.cons (.t x28x) (.cons (.t x30x) .nil))) (.cons (some x32x) none (.pick (.t x27x) (.t 
  x31x) (.c (.b false))) (.cons (some x33x) none (.mv (.t x32x)) (.cons (some x34x) (some (.mk x33x true)) (.mv (.t x3x)) (.cons (some x35x) (some (.mk x33x true)) (.bsl 3 1 5 
  (.cons (.n 0) (.cons (.n 0) (.cons (.n 0) (.cons (.n 0) (.cons (.n 0) .nil))))) (.cons 0 1 (.c (.n 0)) (.cons 1 1 (.c (.n 2)) (.cons 2 1 (.c (.n 0)) (.cons 3 1 (.c (.n 1)) (.cons 
  4 1 (.c (.n 0)) .nil)))))) (.cons (some x36x) (some (.mk x33x true)) (.call 6 (.cons (.t x35x) .nil)) (.cons (some x37x) (some (.mk x33x true)) (.call 26 (.cons (.t x34x) (.cons 
  (.t x36x) .nil))) (.cons (some x38x) none (.pick (.t x33x) (.t x37x) (.c (.b false))) (.cons (some x0x) none (.mv (.t x38x)) .nil)))))))))))))))))))) .ret)))) [(.tmp x0x)])
theorem cc39 : compF Tryd.prog drops true true Tryd.f39 = some i39 := by kernel_rfl
noncomputable def i40 : FnI := (.mk true true (.seq (.reg (.cons (some x2x) none (.mv (.c (.n 0))) .nil)) (.seq (.reg (.cons (some x3x) none (.mv (.t x0x)) (.cons (some x4x) none (.bin .shl (.c (.n 1)) (.t x3x)) 
  (.cons (some x5x) none (.bin .sub (.t x4x) (.c (.n 1))) (.cons (some x2x) none (.mv (.t x5x)) .nil))))) .ret)) [(.tmp x2x)])
theorem cc40 : compF Tryd.prog drops true true Tryd.f40 = some i40 := by kernel_rfl
noncomputable def i41 : FnI := (.mk true true (.seq (.reg (.cons (some x4x) none (.alloc 72 (.cons (.n 0) (.cons (.b false) (.cons (.b false) (.cons (.b false) (.cons (.b false) (.cons (.b false) (.cons (.b 
  false) (.cons (.b false) (.cons (.b false) (.cons (.b false) (.cons (.b false) (.cons (.b false) (.cons (.b false) (.cons (.b false) (.cons (.b false) (.cons (.b false) (.cons 
  (.b false) .nil))))))))))))))))) 17) .nil)) (.seq (.reg (.cons (some x7x) none (.mv (.t x0x)) (.cons (some x8x) none (.build (.cons (.n 0) (.cons (.b false) (.cons (.b false) 
  (.cons (.b false) (.cons (.b false) (.cons (.b false) (.cons (.b false) (.cons (.b false) (.cons (.b false) (.cons (.b false) (.cons (.b false) (.cons (.b false) (.cons (.b 
  false) (.cons (.b false) (.cons (.b false) (.cons (.b false) (.cons (.b false) .nil))))))))))))))))) (.cons 0 1 (.t x7x) .nil)) (.cons (some x5x) none (.alloc 72 (.cons (.n 0) 
  (.cons (.b false) (.cons (.b false) (.cons (.b false) (.cons (.b false) (.cons (.b false) (.cons (.b false) (.cons (.b false) (.cons (.b false) (.cons (.b false) (.cons (.b 
  false) (.cons (.b false) (.cons (.b false) (.cons (.b false) (.cons (.b false) (.cons (.b false) (.cons (.b false) .nil))))))))))))))))) 17) (.cons none none (.st 17 (.t x5x) (.t 
  x8x)) .nil))))) (.seq (.seq (.reg (.cons (some x9x) none (.mv (.t x0x)) (.cons (some x10x) none (.mv (.c (.n 0))) .nil))) (.block 0 (.loop (.seq (.reg (.cons (some x11x) none 
  (.bin .lss (.t x10x) (.t x9x)) .nil)) (.seq (.cond (.t x11x) .skip (.exit 0)) (.seq (.block 1 (.seq (.reg (.cons (some x12x) none (.mv (.t x10x)) (.cons (some x6x) none (.mv (.t 
  x12x)) .nil))) (.draw [(.mk (some x13x) none true [] false [] [] [x6x] (.mv (.t x6x)) false [] [] []), (.mk (some x14x) none true [] false [false] [] [x1x] (.mv (.t x1x)) false 
  [] [] []), (.mk (some x15x) none true [] false [false, false] [] [x6x] (.mv (.t x6x)) false [] [] []), (.mk (some x16x) none true [] false [true, true, false] [] [x14x, x15x] 
  (.bin .shr (.t x14x) (.t x15x)) false [] [] []), (.mk (some x17x) none true [] false [true, true, true, false] [] [x16x] (.bin .and (.t x16x) (.c (.n 1))) false [] [] []), (.mk 
  (some x18x) none true [] false [false, false, false, false, false] [] [x1x] (.mv (.t x1x)) false [] [] []), (.mk (some x19x) none true [] false [false, false, false, false, 
  false, false] [] [x6x] (.mv (.t x6x)) false [] [] []), (.mk (some x20x) none true [] false [true, false, false, false, false, false, false] [] [x19x] (.bin .add (.t x19x) (.c (.n 
  1))) false [] [] []), (.mk (some x21x) none true [] false [true, true, true, false, false, false, false, false] [] [x18x, x20x] (.bin .shr (.t x18x) (.t x20x)) false [] [] []), 
  (.mk (some x22x) none true [] false [true, true, true, true, false, false, false, false, false] [] [x21x] (.bin .and (.t x21x) (.c (.n 1))) false [] [] []), (.mk (some x23x) none 
  true [] false [true, true, true, true, true, true, true, true, true, false] [] [x17x, x22x] (.bin .neq (.t x17x) (.t x22x)) false [] [] []), (.mk (some x24x) none true [] false 
  [false, false, false, false, false, false, false, false, false, false, false] [] [x5x] (.fad 1 (.t x5x)) false [] [] []), (.mk (some x25x) none true [] false [true, true, true, 
  true, true, true, true, true, true, true, true, true] [] [x24x, x13x] (.ixa 16 1 (.t x24x) (.t x13x)) false [] [] []), (.mk none none false [x25x] false [true, true, true, true, 
  true, true, true, true, true, true, true, true, true] [] [x25x, x23x] (.st 1 (.t x25x) (.t x23x)) false [] [] [])]))) (.reg (.cons (some x26x) none (.bin .add (.t x10x) (.c (.n 
  1))) (.cons (some x10x) none (.mv (.t x26x)) .nil))))))))) (.seq (.reg (.cons (some x27x) none (.ld 17 true (.t x5x)) (.cons none none (.st 17 (.t x4x) (.t x27x)) .nil))) 
  .ret)))) [(.cell x4x 17 true)])
theorem cc41 : compF Tryd.prog drops true true Tryd.f41 = some i41 := by kernel_rfl
noncomputable def i42 : FnI := (.mk true false (.seq (.reg (.cons (some x1x) none (.box 72 (.t x0x)) (.cons (some x2x) none (.mv (.c .ns)) .nil))) (.seq (.reg (.cons (some x5x) none (.fad 0 (.t x1x)) (.cons 
  (some x6x) none (.ld 1 false (.t x5x)) (.cons (some x7x) none (.mks 3 1 8 1 (.cons (.n 0) .nil) (.t x6x) (.t x6x)) (.cons (some x3x) none (.mv (.t x7x)) .nil))))) (.seq (.seq 
  (.reg (.cons (some x8x) none (.mv (.t x3x)) (.cons (some x9x) none (.len (.t x8x)) (.cons (some x10x) none (.mv (.c (.n 0))) .nil)))) (.block 0 (.loop (.seq (.reg (.cons (some 
  x11x) none (.bin .lss (.t x10x) (.t x9x)) .nil)) (.seq (.cond (.t x11x) .skip (.exit 0)) (.seq (.block 1 (.seq (.reg (.cons (some x12x) none (.mv (.t x10x)) (.cons (some x4x) 
  none (.mv (.t x12x)) .nil))) (.seq (.reg (.cons (some x13x) none (.mv (.t x4x)) (.cons (some x14x) none (.fad 1 (.t x1x)) (.cons (some x15x) none (.ixa 16 1 (.t x14x) (.t x13x)) 
  (.cons (some x16x) none (.ld 1 false (.t x15x)) .nil))))) (.cond (.t x16x) (.reg (.cons (some x17x) none (.mv (.t x3x)) (.cons (some x18x) none (.mv (.t x4x)) (.cons (some x19x) 
  none (.ixs 1 (.t x17x) (.t x18x)) (.cons none none (.st 1 (.t x19x) (.c (.n 1))) .nil))))) .skip)))) (.reg (.cons (some x20x) none (.bin .add (.t x10x) (.c (.n 1))) (.cons (some 
  x10x) none (.mv (.t x20x)) .nil))))))))) (.seq (.reg (.cons (some x21x) none (.mv (.t x3x)) (.cons (some x2x) none (.mv (.t x21x)) .nil))) .ret)))) [(.tmp x2x)])
theorem cc42 : compF Tryd.prog drops true false Tryd.f42 = some i42 := by kernel_rfl
noncomputable def i43 : FnI := (.mk true true (.seq (.reg (.cons (some x4x) none (.alloc 76 (.cons (.n 0) (.cons (.n 0) (.cons (.n 0) .nil))) 3) (.cons (some x5x) none (.mv (.c (.n 0))) .nil))) (.seq (.reg 
  (.cons (some x10x) none (.mv (.t x0x)) (.cons (some x11x) none (.mv (.t x1x)) (.cons (some x12x) none (.call 66 (.cons (.t x10x) (.cons (.t x11x) .nil))) (.cons (some x9x) none 
  (.mv (.t x12x)) (.cons (some x13x) none (.ext 0 (.t x9x)) (.cons (some x14x) none (.ext 1 (.t x9x)) (.cons (some x15x) none (.ext 2 (.t x9x)) (.cons (some x6x) none (.alloc 72 
  (.cons (.n 0) (.cons (.b false) (.cons (.b false) (.cons (.b false) (.cons (.b false) (.cons (.b false) (.cons (.b false) (.cons (.b false) (.cons (.b false) (.cons (.b false) 
  (.cons (.b false) (.cons (.b false) (.cons (.b false) (.cons (.b false) (.cons (.b false) (.cons (.b false) (.cons (.b false) .nil))))))))))))))))) 17) (.cons (some x7x) none 
  (.alloc 72 (.cons (.n 0) (.cons (.b false) (.cons (.b false) (.cons (.b false) (.cons (.b false) (.cons (.b false) (.cons (.b false) (.cons (.b false) (.cons (.b false) (.cons 
  (.b false) (.cons (.b false) (.cons (.b false) (.cons (.b false) (.cons (.b false) (.cons (.b false) (.cons (.b false) (.cons (.b false) .nil))))))))))))))))) 17) (.cons none 
  none (.st 17 (.t x6x) (.t x13x)) (.cons none none (.st 17 (.t x7x) (.t x14x)) (.cons (some x8x) none (.mv (.t x15x)) .nil))))))))))))) (.seq (.draw [(.mk (some x16x) none true [] 
  false [] [] [x6x] (.fad 0 (.t x6x)) false [] [] []), (.mk (some x17x) none false [] false [true] [] [x16x] (.ld 1 false (.t x16x)) false [] [] []), (.mk (some x18x) none false [] 
  false [false, false] [] [x6x] (.ld 17 true (.t x6x)) false [] [] []), (.mk (some x19x) none false [] false [true, false, false] [] [x18x] (.call 67 (.cons (.t x18x) .nil)) false 
  [] [] []), (.mk (some x20x) none false [] false [false, false, false, false] [] [x7x] (.ld 17 true (.t x7x)) false [] [] []), (.mk (some x21x) none false [] false [true, true, 
  true, false, false] [] [x20x] (.call 67 (.cons (.t x20x) .nil)) false [] [] []), (.mk (some x22x) none true [] false [true, true, true, true, true, true] [] [x17x, x19x, x21x] 
  (.build (.cons (.n 0) (.cons (.n 0) (.cons (.n 0) .nil))) (.cons 0 1 (.t x17x) (.cons 1 1 (.t x19x) (.cons 2 1 (.t x21x) .nil)))) false [] [] []), (.mk (some x23x) none true [] 
  false [false, false, false, false, false, false, false] [x4x] [x8x] (.mv (.t x8x)) false [] [] []), (.mk none none false [x4x] false [false, true, true, true, true, true, true, 
  true] [] [x4x, x22x] (.st 3 (.t x4x) (.t x22x)) false [] [] []), (.mk (some x5x) none true [] false [true, true, true, true, true, true, true, true, true] [] [x23x] (.mv (.t 
  x23x)) false [] [] [])]) .ret))) [(.cell x4x 3 true), (.tmp x5x)])
theorem cc43 : compF Tryd.prog drops true true Tryd.f43 = some i43 := by kernel_rfl
noncomputable def i44 : FnI := (.mk true true (.seq (.reg (.cons (some x1x) none (.box 76 (.t x0x)) (.cons (some x2x) none (.mv (.c (.n 0))) .nil))) (.seq (.reg (.cons (some x3x) none (.fad 1 (.t x1x)) (.cons 
  (some x4x) none (.ld 1 false (.t x3x)) (.cons (some x5x) none (.fad 2 (.t x1x)) (.cons (some x6x) none (.ld 1 false (.t x5x)) (.cons (some x7x) none (.mm true (.t x4x) (.cons (.t 
  x6x) .nil)) (.cons (some x8x) none (.fad 1 (.t x1x)) (.cons (some x9x) none (.ld 1 false (.t x8x)) (.cons (some x10x) none (.fad 2 (.t x1x)) (.cons (some x11x) none (.ld 1 false 
  (.t x10x)) (.cons (some x12x) none (.mm false (.t x9x) (.cons (.t x11x) .nil)) (.cons (some x13x) none (.bin .sub (.t x7x) (.t x12x)) (.cons (some x2x) none (.mv (.t x13x)) 
  .nil))))))))))))) .ret)) [(.tmp x2x)])
theorem cc44 : compF Tryd.prog drops true true Tryd.f44 = some i44 := by kernel_rfl
noncomputable def i45 : FnI := (.mk true true (.seq (.reg (.cons (some x2x) none (.box 76 (.t x0x)) (.cons (some x4x) none (.mv (.c (.n 0))) .nil))) (.seq (.draw [(.mk (some x5x) none false [] false [] [] [x2x] 
  (.ld 3 true (.t x2x)) false [] [] []), (.mk (some x6x) none true [] false [false] [] [x1x] (.mv (.t x1x)) false [] [] []), (.mk (some x7x) none false [] false [true, true] [] 
  [x5x, x6x] (.call 69 (.cons (.t x5x) (.cons (.t x6x) .nil))) false [] [] []), (.mk (some x8x) none false [] false [false, false, false] [] [x2x] (.ld 3 true (.t x2x)) false [] [] 
  []), (.mk (some x9x) none true [] false [false, false, false, false] [] [x1x] (.mv (.t x1x)) false [] [] []), (.mk (some x10x) none true [] false [true, false, false, false, 
  false] [] [x9x] (.bin .add (.t x9x) (.c (.n 1))) false [] [] []), (.mk (some x11x) none false [] false [true, true, true, true, true, true] [] [x8x, x10x] (.call 69 (.cons (.t 
  x8x) (.cons (.t x10x) .nil))) false [] [] []), (.mk (some x12x) none true [] false [true, true, true, true, true, true, true] [] [x7x, x11x] (.mm true (.t x7x) (.cons (.t x11x) 
  .nil)) false [] [] []), (.mk (some x13x) none true [] false [true, true, true, true, true, true, true, true] [] [x12x] (.conv .u64 (.t x12x)) false [] [] []), (.mk (some x14x) 
  none false [] false [true, true, true, true, true, true, true, true, true] [] [x13x] (.call 68 (.cons (.t x13x) .nil)) false [] [] []), (.mk (some x4x) none true [] false [true, 
  true, true, true, true, true, true, true, true, true] [] [x14x] (.mv (.t x14x)) false [] [] [])]) .ret)) [(.tmp x4x)])
theorem cc45 : compF Tryd.prog drops true true Tryd.f45 = some i45 := by kernel_rfl
noncomputable def i46 : FnI := (.mk true true (.seq (.reg (.cons (some x2x) none (.mv (.c (.n 0))) .nil)) (.seq (.seq (.reg (.cons (some x3x) none (.mv (.t x0x)) (.cons (some x4x) none (.slen (.t x3x)) (.cons 
  (some x5x) none (.bin .gtr (.t x4x) (.c (.n 600))) .nil)))) (.cond (.t x5x) (.seq (.reg (.cons (some x2x) none (.mv (.c (.n 3))) .nil)) .ret) .skip)) (.seq (.seq (.reg (.cons 
  (some x6x) none (.mv (.t x0x)) (.cons (some x7x) none (.call 70 (.cons (.t x6x) (.cons (.c (.s [97, 98, 99, 100])) .nil))) (.cons (some x8x) none (.not (.t x7x)) .nil)))) (.cond 
  (.t x8x) (.seq (.reg (.cons (some x2x) none (.mv (.c (.n 10))) .nil)) .ret) .skip)) (.seq (.reg (.cons (some x2x) none (.mv (.c (.n 0))) .nil)) .ret)))) [(.tmp x2x)])
theorem cc46 : compF Tryd.prog drops true true Tryd.f46 = some i46 := by kernel_rfl
noncomputable def i47 : FnI := (.mk true true (.seq (.reg (.cons (some x2x) none (.mv (.c (.b false))) .nil)) (.seq (.reg (.cons (some x6x) none (.mv (.t x0x)) (.cons (some x7x) none (.call 71 (.cons (.t x6x) 
  .nil)) (.cons (some x5x) none (.mv (.t x7x)) (.cons (some x8x) none (.ext 0 (.t x5x)) (.cons (some x9x) none (.ext 1 (.t x5x)) (.cons (some x3x) none (.mv (.t x8x)) (.cons (some 
  x4x) none (.mv (.t x9x)) .nil)))))))) (.seq (.reg (.cons (some x10x) none (.mv (.t x4x)) (.cons (some x11x) none (.bin .eql (.t x10x) (.c (.n 0))) (.cons (some x2x) none (.mv (.t 
  x11x)) .nil)))) .ret))) [(.tmp x2x)])
theorem cc47 : compF Tryd.prog drops true true Tryd.f47 = some i47 := by kernel_rfl
noncomputable def i48 : FnI := (.mk true true (.seq (.reg (.cons (some x4x) none (.mv (.c (.n 0))) .nil)) (.seq (.seq (.reg (.cons (some x6x) none (.mv (.t x0x)) (.cons (some x7x) none (.call 46 (.cons (.t x6x) 
  .nil)) (.cons (some x5x) none (.mv (.t x7x)) .nil)))) (.seq (.reg (.cons (some x8x) none (.mv (.t x5x)) (.cons (some x9x) none (.bin .neq (.t x8x) (.c (.n 0))) .nil))) (.cond (.t 
  x9x) (.seq (.reg (.cons (some x10x) none (.mv (.t x5x)) (.cons (some x4x) none (.mv (.t x10x)) .nil))) .ret) .skip))) (.seq (.seq (.reg (.cons (some x11x) none (.mv (.t x1x)) 
  (.cons (some x12x) none (.call 72 (.cons (.t x11x) .nil)) (.cons (some x13x) none (.not (.t x12x)) .nil)))) (.cond (.t x13x) (.seq (.reg (.cons (some x4x) none (.mv (.c (.n 1))) 
  .nil)) .ret) .skip)) (.seq (.seq (.reg (.cons (some x14x) none (.mv (.t x0x)) (.cons (some x15x) none (.mv (.t x1x)) (.cons (some x16x) none (.call 50 (.cons (.t x15x) .nil)) 
  (.cons (some x17x) none (.call 70 (.cons (.t x14x) (.cons (.t x16x) .nil))) (.cons (some x18x) none (.not (.t x17x)) .nil)))))) (.cond (.t x18x) (.seq (.reg (.cons (some x4x) 
  none (.mv (.c (.n 2))) .nil)) .ret) .skip)) (.seq (.seq (.reg (.cons (some x19x) none (.mv (.t x0x)) (.cons (some x20x) none (.call 47 (.cons (.t x19x) .nil)) (.cons (some x21x) 
  none (.not (.t x20x)) .nil)))) (.cond (.t x21x) (.seq (.reg (.cons (some x4x) none (.mv (.c (.n 14))) .nil)) .ret) .skip)) (.seq (.reg (.cons (some x4x) none (.mv (.c (.n 0))) 
  .nil)) .ret)))))) [(.tmp x4x)])
theorem cc48 : compF Tryd.prog drops true true Tryd.f48 = some i48 := by kernel_rfl
noncomputable def i49 : FnI := (.mk true false (.seq (.reg (.cons (some x3x) none (.box 9 (.t x0x)) (.cons (some x4x) none (.box 9 (.t x1x)) (.cons (some x5x) none (.box 3 (.t x2x)) (.cons (some x6x) none (.mv 
  (.c .nf)) .nil))))) (.seq (.reg (.cons (some x7x) none (.mkf 73 .nil (.cons (.t x3x) (.cons (.t x4x) (.cons (.t x5x) .nil)))) (.cons (some x6x) none (.mv (.t x7x)) .nil))) .ret)) 
  [(.tmp x6x)])
theorem cc49 : compF Tryd.prog drops true false Tryd.f49 = some i49 := by kernel_rfl
noncomputable def i50 : FnI := (.mk true true (.seq (.reg (.cons (some x2x) none (.mv (.c (.s []))) .nil)) (.seq (.reg (.cons (some x3x) none (.mv (.t x0x)) (.cons (some x4x) none (.ssl (.c (.s [97, 98, 99, 
  100])) none (some (.t x3x))) (.cons (some x2x) none (.mv (.t x4x)) .nil)))) .ret)) [(.tmp x2x)])
theorem cc50 : compF Tryd.prog drops true true Tryd.f50 = some i50 := by kernel_rfl
noncomputable def i51 : FnI := (.mk true true (.seq (.reg (.cons (some x4x) none (.mv (.c (.s []))) .nil)) (.seq (.reg (.cons (some x5x) none (.alloc 107 (.cons .np (.cons .ns .nil)) 2) .nil)) (.seq (.seq (.reg 
  (.cons (some x8x) none (.mv (.t x1x)) (.cons (some x9x) none (.rng (.t x8x)) .nil))) (.block 0 (.loop (.seq (.reg (.cons (some x10x) none (.nxt (.t x9x)) (.cons (some x11x) none 
  (.ext 0 (.t x10x)) .nil))) (.seq (.cond (.t x11x) .skip (.exit 0)) (.block 1 (.seq (.reg (.cons (some x12x) none (.ext 2 (.t x10x)) (.cons (some x7x) none (.mv (.t x12x)) .nil))) 
  (.seq (.reg (.cons (some x13x) none (.mv (.t x0x)) (.cons (some x14x) none (.mv (.t x7x)) (.cons (some x15x) none (.r2s (.t x14x)) (.cons (some x16x) none (.sbi .add (.t x13x) 
  (.t x15x)) (.cons (some x17x) none (.call 75 (.cons (.t x16x) .nil)) (.cons (some x18x) none (.bin .eql (.t x17x) (.c (.n 0))) .nil))))))) (.cond (.t x18x) (.reg (.cons (some 
  x19x) none (.mv (.t x7x)) (.cons (some x20x) none (.call 76 (.cons (.t x5x) (.cons (.t x19x) .nil))) .nil))) .skip))))))))) (.seq (.reg (.cons (some x21x) none (.call 77 (.cons 
  (.t x5x) .nil)) (.cons (some x4x) none (.mv (.t x21x)) .nil))) .ret)))) [(.tmp x4x)])
theorem cc51 : compF Tryd.prog drops true true Tryd.f51 = some i51 := by kernel_rfl
noncomputable def i53 : FnI := (.mk true true (.seq (.reg (.cons (some x2x) none (.box 63 (.t x0x)) (.cons (some x4x) none (.mv (.c (.s []))) .nil))) (.seq (.reg (.cons (some x5x) none (.mv (.c .ns)) .nil)) 
  (.seq (.block 0 (.loop (.seq (.seq (.reg (.cons (some x7x) none (.fad 0 (.t x2x)) (.cons (some x8x) none (.ld 1 false (.t x7x)) (.cons (some x9x) none (.fad 1 (.t x2x)) (.cons 
  (some x10x) none (.ld 1 false (.t x9x)) (.cons (some x11x) none (.bin .add (.t x8x) (.t x10x)) (.cons (some x12x) none (.bin .gtr (.t x11x) (.c (.n 0))) .nil))))))) (.cond (.t 
  x12x) .skip (.exit 0))) (.block 1 (.seq (.reg (.cons (some x13x) none (.ld 3 true (.t x2x)) (.cons (some x14x) none (.call 79 (.cons (.t x13x) .nil)) (.cons (some x15x) none 
  (.call 36 (.cons (.t x14x) .nil)) (.cons (some x6x) none (.mv (.t x15x)) .nil))))) (.seq (.seq (.reg (.cons (some x16x) none (.mv (.t x1x)) (.cons (some x17x) none (.mv (.t x6x)) 
  (.cons (some x18x) none (.bin .lss (.t x16x) (.t x17x)) .nil)))) (.cond (.t x18x) (.seq (.reg (.cons (some x19x) none (.mv (.t x5x)) (.cons (some x20x) none (.bsl 5 1 1 (.cons 
  (.i .u8 (.ofNat 0)) .nil) (.cons 0 1 (.c (.i .u8 (.ofNat 99))) .nil)) (.cons (some x21x) none (.app 5 1 1 (.t x19x) (.t x20x)) (.cons (some x5x) none (.mv (.t x21x)) .nil))))) 
  (.seq (.reg (.cons (some x22x) none (.ld 3 true (.t x2x)) (.cons (some x23x) none (.call 79 (.cons (.t x22x) .nil)) (.cons none none (.st 3 (.t x2x) (.t x23x)) .nil)))) (.exit 
  1))) .skip)) (.seq (.reg (.cons (some x24x) none (.mv (.t x5x)) (.cons (some x25x) none (.bsl 5 1 1 (.cons (.i .u8 (.ofNat 0)) .nil) (.cons 0 1 (.c (.i .u8 (.ofNat 110))) .nil)) 
  (.cons (some x26x) none (.app 5 1 1 (.t x24x) (.t x25x)) (.cons (some x5x) none (.mv (.t x26x)) .nil))))) (.seq (.reg (.cons (some x27x) none (.mv (.t x1x)) (.cons (some x28x) 
  none (.mv (.t x6x)) (.cons (some x29x) none (.bin .sub (.t x27x) (.t x28x)) (.cons (some x1x) none (.mv (.t x29x)) .nil))))) (.reg (.cons (some x30x) none (.ld 3 true (.t x2x)) 
  (.cons (some x31x) none (.call 80 (.cons (.t x30x) .nil)) (.cons none none (.st 3 (.t x2x) (.t x31x)) .nil)))))))))))) (.seq (.reg (.cons (some x32x) none (.mv (.t x5x)) (.cons 
  (some x33x) none (.b2s (.t x32x)) (.cons (some x4x) none (.mv (.t x33x)) .nil)))) .ret)))) [(.tmp x4x)])
theorem cc53 : compF Tryd.prog drops true true Tryd.f53 = some i53 := by kernel_rfl
noncomputable def i54 : FnI := (.mk true true (.seq (.reg (.cons (some x2x) none (.mv (.c (.n 0))) .nil)) (.seq (.seq (.reg (.cons (some x5x) none (.mv (.t x0x)) (.cons (some x6x) none (.len (.t x5x)) (.cons 
  (some x7x) none (.mv (.c (.n 0))) .nil)))) (.block 0 (.loop (.seq (.reg (.cons (some x8x) none (.bin .lss (.t x7x) (.t x6x)) .nil)) (.seq (.cond (.t x8x) .skip (.exit 0)) (.seq 
  (.block 1 (.seq (.reg (.cons (some x9x) none (.mv (.t x7x)) (.cons (some x10x) none (.ixs 1 (.t x5x) (.t x7x)) (.cons (some x11x) none (.ld 1 false (.t x10x)) (.cons (some x3x) 
  none (.mv (.t x9x)) (.cons (some x4x) none (.mv (.t x11x)) .nil)))))) (.seq (.seq (.reg (.cons (some x12x) none (.mv (.t x4x)) (.cons (some x13x) none (.bin .lss (.t x12x) (.c 
  (.n 1))) (.cons (some x14x) none (.mv (.t x13x)) (.cons (some x15x) (some (.mk x14x false)) (.mv (.t x4x)) (.cons (some x16x) (some (.mk x14x false)) (.bin .gtr (.t x15x) (.c (.n 
  30))) (.cons (some x17x) none (.pick (.t x14x) (.c (.b true)) (.t x16x)) .nil))))))) (.cond (.t x17x) (.seq (.reg (.cons (some x2x) none (.mv (.c (.n 1))) .nil)) .ret) .skip)) 
  (.seq (.reg (.cons (some x18x) none (.mv (.t x3x)) (.cons (some x19x) none (.bin .gtr (.t x18x) (.c (.n 0))) (.cons (some x20x) none (.mv (.t x19x)) (.cons (some x21x) (some (.mk 
  x20x true)) (.mv (.t x4x)) (.cons (some x22x) (some (.mk x20x true)) (.mv (.t x0x)) (.cons (some x23x) (some (.mk x20x true)) (.mv (.t x3x)) (.cons (some x24x) (some (.mk x20x 
  true)) (.bin .sub (.t x23x) (.c (.n 1))) (.cons (some x25x) (some (.mk x20x true)) (.ixs 1 (.t x22x) (.t x24x)) (.cons (some x26x) (some (.mk x20x true)) (.ld 1 false (.t x25x)) 
  (.cons (some x27x) (some (.mk x20x true)) (.bin .gtr (.t x21x) (.t x26x)) (.cons (some x28x) none (.pick (.t x20x) (.t x27x) (.c (.b false))) .nil)))))))))))) (.cond (.t x28x) 
  (.seq (.reg (.cons (some x2x) none (.mv (.c (.n 7))) .nil)) .ret) .skip))))) (.reg (.cons (some x29x) none (.bin .add (.t x7x) (.c (.n 1))) (.cons (some x7x) none (.mv (.t x29x)) 
  .nil))))))))) (.seq (.seq (.reg (.cons (some x30x) none (.mv (.t x0x)) (.cons (some x31x) none (.call 81 (.cons (.t x30x) .nil)) (.cons (some x32x) none (.bin .gtr (.t x31x) (.c 
  (.n 30))) .nil)))) (.cond (.t x32x) (.seq (.reg (.cons (some x2x) none (.mv (.c (.n 3))) .nil)) .ret) .skip)) (.seq (.reg (.cons (some x2x) none (.mv (.c (.n 0))) .nil)) .ret)))) 
  [(.tmp x2x)])
theorem cc54 : compF Tryd.prog drops true true Tryd.f54 = some i54 := by kernel_rfl
noncomputable def i55 : FnI := (.mk true true (.seq (.reg (.cons (some x2x) none (.mv (.c (.n 0))) .nil)) (.seq (.reg (.cons (some x8x) none .mkm (.cons (some x9x) none (.mv (.t x0x)) (.cons (some x10x) none 
  (.call 81 (.cons (.t x9x) .nil)) (.cons (some x3x) none (.mv (.t x8x)) (.cons (some x4x) none (.mv (.t x10x)) (.cons (some x5x) none (.mv (.c (.n 0))) .nil))))))) (.seq (.seq 
  (.reg (.cons (some x11x) none (.mv (.t x0x)) (.cons (some x12x) none (.len (.t x11x)) (.cons (some x13x) none (.mv (.c (.n 0))) .nil)))) (.block 0 (.loop (.seq (.reg (.cons (some 
  x14x) none (.bin .lss (.t x13x) (.t x12x)) .nil)) (.seq (.cond (.t x14x) .skip (.exit 0)) (.seq (.block 1 (.seq (.reg (.cons (some x15x) none (.ixs 1 (.t x11x) (.t x13x)) (.cons 
  (some x16x) none (.ld 1 false (.t x15x)) (.cons (some x7x) none (.mv (.t x16x)) .nil)))) (.seq (.reg (.cons (some x17x) none (.mv (.t x5x)) (.cons (some x18x) none (.mv (.t x3x)) 
  (.cons (some x19x) none (.mv (.t x4x)) (.cons (some x20x) none (.mv (.t x7x)) (.cons (some x21x) none (.bin .sub (.t x20x) (.c (.n 1))) (.cons (some x22x) none (.build (.cons (.n 
  0) (.cons (.n 0) .nil)) (.cons 0 1 (.t x19x) (.cons 1 1 (.t x21x) .nil))) (.cons (some x23x) none (.call 82 (.cons (.t x18x) (.cons (.t x22x) .nil))) (.cons (some x24x) none 
  (.bin .add (.t x17x) (.t x23x)) (.cons (some x5x) none (.mv (.t x24x)) .nil)))))))))) (.reg (.cons (some x25x) none (.mv (.t x4x)) (.cons (some x26x) none (.mv (.t x7x)) (.cons 
  (some x27x) none (.bin .sub (.t x25x) (.t x26x)) (.cons (some x4x) none (.mv (.t x27x)) .nil)))))))) (.reg (.cons (some x28x) none (.bin .add (.t x13x) (.c (.n 1))) (.cons (some 
  x13x) none (.mv (.t x28x)) .nil))))))))) (.seq (.reg (.cons (some x29x) none (.mv (.t x5x)) (.cons (some x2x) none (.mv (.t x29x)) .nil))) .ret)))) [(.tmp x2x)])
theorem cc55 : compF Tryd.prog drops true true Tryd.f55 = some i55 := by kernel_rfl
noncomputable def i56 : FnI := (.mk true false (.seq (.reg (.cons (some x2x) none (.mv (.c .ns)) .nil)) (.seq (.seq (.reg (.cons (some x7x) none (.mv (.t x0x)) (.cons (some x8x) none (.len (.t x7x)) (.cons (some 
  x9x) none (.bin .eql (.t x8x) (.c (.n 0))) .nil)))) (.cond (.t x9x) (.seq (.reg (.cons (some x2x) none (.mv (.c .ns)) .nil)) .ret) .skip)) (.seq (.reg (.cons (some x10x) none 
  (.mv (.t x0x)) (.cons (some x11x) none (.ixs 1 (.t x10x) (.c (.n 0))) (.cons (some x12x) none (.ld 1 false (.t x11x)) (.cons (some x13x) none (.mks 3 1 8 1 (.cons (.n 0) .nil) 
  (.t x12x) (.t x12x)) (.cons (some x3x) none (.mv (.t x13x)) .nil)))))) (.seq (.seq (.reg (.cons (some x14x) none (.mv (.t x0x)) (.cons (some x15x) none (.len (.t x14x)) (.cons 
  (some x16x) none (.mv (.c (.n 0))) .nil)))) (.block 0 (.loop (.seq (.reg (.cons (some x17x) none (.bin .lss (.t x16x) (.t x15x)) .nil)) (.seq (.cond (.t x17x) .skip (.exit 0)) 
  (.seq (.block 1 (.seq (.reg (.cons (some x18x) none (.ixs 1 (.t x14x) (.t x16x)) (.cons (some x19x) none (.ld 1 false (.t x18x)) (.cons (some x5x) none (.mv (.t x19x)) .nil)))) 
  (.seq (.reg (.cons (some x20x) none (.mv (.t x5x)) (.cons (some x21x) none (.mv (.c (.n 0))) .nil))) (.block 2 (.loop (.seq (.reg (.cons (some x22x) none (.bin .lss (.t x21x) (.t 
  x20x)) .nil)) (.seq (.cond (.t x22x) .skip (.exit 2)) (.seq (.block 3 (.seq (.reg (.cons (some x23x) none (.mv (.t x21x)) (.cons (some x6x) none (.mv (.t x23x)) .nil))) (.reg 
  (.cons (some x24x) none (.mv (.t x3x)) (.cons (some x25x) none (.mv (.t x6x)) (.cons (some x26x) none (.ixs 1 (.t x24x) (.t x25x)) (.cons (some x27x) none (.ld 1 false (.t x26x)) 
  (.cons (some x28x) none (.bin .add (.t x27x) (.c (.n 1))) (.cons (some x29x) none (.ixs 1 (.t x24x) (.t x25x)) (.cons none none (.st 1 (.t x29x) (.t x28x)) .nil)))))))))) (.reg 
  (.cons (some x30x) none (.bin .add (.t x21x) (.c (.n 1))) (.cons (some x21x) none (.mv (.t x30x)) .nil))))))))))) (.reg (.cons (some x31x) none (.bin .add (.t x16x) (.c (.n 1))) 
  (.cons (some x16x) none (.mv (.t x31x)) .nil))))))))) (.seq (.reg (.cons (some x32x) none (.mv (.t x3x)) (.cons (some x2x) none (.mv (.t x32x)) .nil))) .ret))))) [(.tmp x2x)])
theorem cc56 : compF Tryd.prog drops true false Tryd.f56 = some i56 := by kernel_rfl
noncomputable def i57 : FnI := (.mk true true (.seq (.reg (.cons (some x2x) none (.mv (.c (.n 0))) (.cons (some x3x) none (.mv (.c (.n 0))) .nil))) (.seq (.reg (.cons (some x4x) none (.mv (.t x0x)) (.cons (some 
  x5x) none (.call 83 (.cons (.t x4x) (.cons (.c (.n 30)) .nil))) (.cons (some x6x) none (.ext 0 (.t x5x)) (.cons (some x7x) none (.ext 1 (.t x5x)) (.cons (some x2x) none (.mv (.t 
  x6x)) (.cons (some x3x) none (.mv (.t x7x)) .nil))))))) .ret)) [(.tmp x2x), (.tmp x3x)])
theorem cc57 : compF Tryd.prog drops true true Tryd.f57 = some i57 := by kernel_rfl
noncomputable def i58 : FnI := (.mk true true (.seq (.reg (.cons (some x2x) none (.mv (.c (.n 0))) .nil)) (.seq (.seq (.reg (.cons (some x4x) none (.mv (.t x0x)) (.cons (some x5x) none (.slen (.t x4x)) (.cons 
  (some x6x) none (.bin .gtr (.t x5x) (.c (.n 16))) .nil)))) (.cond (.t x6x) (.seq (.reg (.cons (some x2x) none (.mv (.c (.n 3))) .nil)) .ret) .skip)) (.seq (.seq (.reg (.cons 
  (some x7x) none (.mv (.t x0x)) (.cons (some x8x) none (.slen (.t x7x)) (.cons (some x9x) none (.mv (.c (.n 0))) .nil)))) (.block 0 (.loop (.seq (.reg (.cons (some x10x) none 
  (.bin .lss (.t x9x) (.t x8x)) .nil)) (.seq (.cond (.t x10x) .skip (.exit 0)) (.seq (.block 1 (.seq (.reg (.cons (some x11x) none (.mv (.t x9x)) (.cons (some x3x) none (.mv (.t 
  x11x)) .nil))) (.seq (.reg (.cons (some x12x) none (.mv (.t x0x)) (.cons (some x13x) none (.mv (.t x3x)) (.cons (some x14x) none (.six (.t x12x) (.t x13x)) (.cons (some x15x) 
  none (.bin .neq (.t x14x) (.c (.i .u8 (.ofNat 99)))) (.cons (some x16x) none (.mv (.t x15x)) (.cons (some x17x) (some (.mk x16x true)) (.mv (.t x0x)) (.cons (some x18x) (some 
  (.mk x16x true)) (.mv (.t x3x)) (.cons (some x19x) (some (.mk x16x true)) (.six (.t x17x) (.t x18x)) (.cons (some x20x) (some (.mk x16x true)) (.bin .neq (.t x19x) (.c (.i .u8 
  (.ofNat 110)))) (.cons (some x21x) none (.pick (.t x16x) (.t x20x) (.c (.b false))) .nil))))))))))) (.cond (.t x21x) (.seq (.reg (.cons (some x2x) none (.mv (.c (.n 10))) .nil)) 
  .ret) .skip)))) (.reg (.cons (some x22x) none (.bin .add (.t x9x) (.c (.n 1))) (.cons (some x9x) none (.mv (.t x22x)) .nil))))))))) (.seq (.reg (.cons (some x2x) none (.mv (.c 
  (.n 0))) .nil)) .ret)))) [(.tmp x2x)])
theorem cc58 : compF Tryd.prog drops true true Tryd.f58 = some i58 := by kernel_rfl
noncomputable def i59 : FnI := (.mk true true (.seq (.reg (.cons (some x4x) none (.mv (.c (.n 0))) .nil)) (.seq (.seq (.reg (.cons (some x8x) none (.mv (.t x0x)) (.cons (some x9x) none (.call 84 (.cons (.t x8x) 
  .nil)) (.cons (some x5x) none (.mv (.t x9x)) .nil)))) (.seq (.reg (.cons (some x10x) none (.mv (.t x5x)) (.cons (some x11x) none (.bin .neq (.t x10x) (.c (.n 0))) .nil))) (.cond 
  (.t x11x) (.seq (.reg (.cons (some x12x) none (.mv (.t x5x)) (.cons (some x4x) none (.mv (.t x12x)) .nil))) .ret) .skip))) (.seq (.seq (.reg (.cons (some x13x) none (.mv (.t 
  x1x)) (.cons (some x14x) none (.len (.t x13x)) (.cons (some x15x) none (.mv (.t x0x)) (.cons (some x16x) none (.len (.t x15x)) (.cons (some x17x) none (.bin .neq (.t x14x) (.t 
  x16x)) .nil)))))) (.cond (.t x17x) (.seq (.reg (.cons (some x4x) none (.mv (.c (.n 5))) .nil)) .ret) .skip)) (.seq (.seq (.reg (.cons (some x18x) none (.mv (.t x1x)) (.cons (some 
  x19x) none (.len (.t x18x)) (.cons (some x20x) none (.mv (.c (.n 0))) .nil)))) (.block 0 (.loop (.seq (.reg (.cons (some x21x) none (.bin .lss (.t x20x) (.t x19x)) .nil)) (.seq 
  (.cond (.t x21x) .skip (.exit 0)) (.seq (.block 1 (.seq (.reg (.cons (some x22x) none (.ixs 1 (.t x18x) (.t x20x)) (.cons (some x23x) none (.ld 1 false (.t x22x)) (.cons (some 
  x7x) none (.mv (.t x23x)) .nil)))) (.seq (.reg (.cons (some x24x) none (.mv (.t x7x)) (.cons (some x25x) none (.bin .lss (.t x24x) (.c (.n 0))) (.cons (some x26x) none (.mv (.t 
  x25x)) (.cons (some x27x) (some (.mk x26x false)) (.mv (.t x7x)) (.cons (some x28x) (some (.mk x26x false)) (.bin .gtr (.t x27x) (.c (.n 40))) (.cons (some x29x) none (.pick (.t 
  x26x) (.c (.b true)) (.t x28x)) .nil))))))) (.cond (.t x29x) (.seq (.reg (.cons (some x4x) none (.mv (.c (.n 1))) .nil)) .ret) .skip)))) (.reg (.cons (some x30x) none (.bin .add 
  (.t x20x) (.c (.n 1))) (.cons (some x20x) none (.mv (.t x30x)) .nil))))))))) (.seq (.reg (.cons (some x4x) none (.mv (.c (.n 0))) .nil)) .ret))))) [(.tmp x4x)])
theorem cc59 : compF Tryd.prog drops true true Tryd.f59 = some i59 := by kernel_rfl
noncomputable def i60 : FnI := (.mk true true (.seq (.reg (.cons (some x2x) none (.mv (.c (.n 0))) .nil)) (.seq (.seq (.reg (.cons (some x3x) none (.mv (.t x0x)) (.cons (some x4x) none (.bin .lss (.t x3x) (.c 
  (.n 0))) (.cons (some x5x) none (.mv (.t x4x)) (.cons (some x6x) (some (.mk x5x false)) (.mv (.t x0x)) (.cons (some x7x) (some (.mk x5x false)) (.bin .gtr (.t x6x) (.c (.n 
  1000))) (.cons (some x8x) none (.pick (.t x5x) (.c (.b true)) (.t x7x)) .nil))))))) (.cond (.t x8x) (.seq (.reg (.cons (some x2x) none (.mv (.c (.n 1))) .nil)) .ret) .skip)) 
  (.seq (.reg (.cons (some x2x) none (.mv (.c (.n 0))) .nil)) .ret))) [(.tmp x2x)])
theorem cc60 : compF Tryd.prog drops true true Tryd.f60 = some i60 := by kernel_rfl
noncomputable def i61 : FnI := (.mk true false (.seq (.reg (.cons (some x6x) none (.mv (.c .ns)) .nil)) (.seq (.reg (.cons (some x10x) none (.mv (.t x0x)) (.cons (some x11x) none (.len (.t x10x)) (.cons (some 
  x12x) none (.mks 3 1 8 1 (.cons (.n 0) .nil) (.t x11x) (.t x11x)) (.cons (some x7x) none (.mv (.t x12x)) .nil))))) (.seq (.reg (.cons (some x13x) none (.mv (.t x2x)) (.cons (some 
  x14x) none (.bin .add (.t x13x) (.c (.n 1))) (.cons (some x15x) none (.mv (.t x1x)) (.cons (some x16x) none (.bin .mul (.t x14x) (.t x15x)) (.cons (some x8x) none (.mv (.t x16x)) 
  .nil)))))) (.seq (.seq (.reg (.cons (some x17x) none (.mv (.t x7x)) (.cons (some x18x) none (.len (.t x17x)) (.cons (some x19x) none (.mv (.c (.n 0))) .nil)))) (.block 0 (.loop 
  (.seq (.reg (.cons (some x20x) none (.bin .lss (.t x19x) (.t x18x)) .nil)) (.seq (.cond (.t x20x) .skip (.exit 0)) (.seq (.block 1 (.seq (.reg (.cons (some x21x) none (.mv (.t 
  x19x)) (.cons (some x9x) none (.mv (.t x21x)) .nil))) (.seq (.reg (.cons (some x22x) none (.mv (.t x7x)) (.cons (some x23x) none (.mv (.t x9x)) (.cons (some x24x) none (.mv (.t 
  x0x)) (.cons (some x25x) none (.mv (.t x9x)) (.cons (some x26x) none (.ixs 1 (.t x24x) (.t x25x)) (.cons (some x27x) none (.ld 1 false (.t x26x)) (.cons (some x28x) none (.ixs 1 
  (.t x22x) (.t x23x)) (.cons none none (.st 1 (.t x28x) (.t x27x)) .nil))))))))) (.seq (.seq (.reg (.cons (some x29x) none (.mv (.t x9x)) (.cons (some x30x) none (.mv (.t x1x)) 
  (.cons (some x31x) none (.bin .geq (.t x29x) (.t x30x)) .nil)))) (.cond (.t x31x) (.draw [(.mk (some x32x) none true [] false [] [] [x7x] (.mv (.t x7x)) false [] [] []), (.mk 
  (some x33x) none true [] false [false] [] [x9x] (.mv (.t x9x)) false [] [] []), (.mk (some x34x) none true [] false [true, true] [] [x32x, x33x] (.ixs 1 (.t x32x) (.t x33x)) 
  false [] [] []), (.mk (some x35x) none false [] false [true, true, true] [] [x34x] (.ld 1 false (.t x34x)) false [] [] []), (.mk (some x36x) none true [] false [false, false, 
  false, false] [] [x7x] (.mv (.t x7x)) false [] [] []), (.mk (some x37x) none true [] false [false, false, false, false, false] [] [x9x] (.mv (.t x9x)) false [] [] []), (.mk (some 
  x38x) none true [] false [false, false, false, false, false, false] [] [x1x] (.mv (.t x1x)) false [] [] []), (.mk (some x39x) none true [] false [true, true, false, false, false, 
  false, false] [] [x37x, x38x] (.bin .sub (.t x37x) (.t x38x)) false [] [] []), (.mk (some x40x) none true [] false [true, true, true, true, false, false, false, false] [] [x36x, 
  x39x] (.ixs 1 (.t x36x) (.t x39x)) false [] [] []), (.mk (some x41x) none false [] false [true, true, true, true, true, false, false, false, false] [] [x40x] (.ld 1 false (.t 
  x40x)) false [] [] []), (.mk (some x42x) none true [] false [true, true, true, true, true, true, true, true, true, true] [] [x35x, x41x] (.bin .add (.t x35x) (.t x41x)) false [] 
  [] []), (.mk (some x43x) none true [] false [true, true, true, true, true, true, true, true, true, true, true] [] [x32x, x33x] (.ixs 1 (.t x32x) (.t x33x)) false [] [] []), (.mk 
  none none false [x43x] false [true, true, true, true, true, true, true, true, true, true, true, true] [] [x43x, x42x] (.st 1 (.t x43x) (.t x42x)) false [] [] [])]) .skip)) (.seq 
  (.reg (.cons (some x44x) none (.mv (.t x9x)) (.cons (some x45x) none (.mv (.t x8x)) (.cons (some x46x) none (.bin .geq (.t x44x) (.t x45x)) .nil)))) (.cond (.t x46x) (.draw [(.mk 
  (some x47x) none true [] false [] [] [x7x] (.mv (.t x7x)) false [] [] []), (.mk (some x48x) none true [] false [false] [] [x9x] (.mv (.t x9x)) false [] [] []), (.mk (some x49x) 
  none true [] false [true, true] [] [x47x, x48x] (.ixs 1 (.t x47x) (.t x48x)) false [] [] []), (.mk (some x50x) none false [] false [true, true, true] [] [x49x] (.ld 1 false (.t 
  x49x)) false [] [] []), (.mk (some x51x) none true [] false [false, false, false, false] [] [x0x] (.mv (.t x0x)) false [] [] []), (.mk (some x52x) none true [] false [false, 
  false, false, false, false] [] [x9x] (.mv (.t x9x)) false [] [] []), (.mk (some x53x) none true [] false [false, false, false, false, false, false] [] [x8x] (.mv (.t x8x)) false 
  [] [] []), (.mk (some x54x) none true [] false [true, true, false, false, false, false, false] [] [x52x, x53x] (.bin .sub (.t x52x) (.t x53x)) false [] [] []), (.mk (some x55x) 
  none true [] false [true, true, true, true, false, false, false, false] [] [x51x, x54x] (.ixs 1 (.t x51x) (.t x54x)) false [] [] []), (.mk (some x56x) none false [] false [true, 
  true, true, true, true, false, false, false, false] [] [x55x] (.ld 1 false (.t x55x)) false [] [] []), (.mk (some x57x) none true [] false [true, true, true, true, true, true, 
  true, true, true, true] [] [x50x, x56x] (.bin .sub (.t x50x) (.t x56x)) false [] [] []), (.mk (some x58x) none true [] false [true, true, true, true, true, true, true, true, 
  true, true, true] [] [x47x, x48x] (.ixs 1 (.t x47x) (.t x48x)) false [] [] []), (.mk none none false [x58x] false [true, true, true, true, true, true, true, true, true, true, 
  true, true] [] [x58x, x57x] (.st 1 (.t x58x) (.t x57x)) false [] [] [])]) .skip)))))) (.reg (.cons (some x59x) none (.bin .add (.t x19x) (.c (.n 1))) (.cons (some x19x) none (.mv 
  (.t x59x)) .nil))))))))) (.seq (.reg (.cons (some x60x) none (.mv (.t x7x)) (.cons (some x6x) none (.mv (.t x60x)) .nil))) .ret))))) [(.tmp x6x)])
theorem cc61 : compF Tryd.prog drops true false Tryd.f61 = some i61 := by kernel_rfl
noncomputable def i62 : FnI := (.mk true true (.seq (.reg (.cons (some x4x) none (.mv (.c (.n 0))) .nil)) (.seq (.seq (.reg (.cons (some x7x) none (.mv (.t x1x)) (.cons (some x8x) none (.bin .lss (.t x7x) (.c 
  (.n 0))) .nil))) (.cond (.t x8x) (.seq (.reg (.cons (some x4x) none (.mv (.c (.n 0))) .nil)) .ret) .skip)) (.seq (.reg (.cons (some x5x) none (.mv (.c (.n 1))) .nil)) (.seq (.seq 
  (.reg (.cons (some x9x) none (.mv (.t x1x)) (.cons (some x10x) none (.mv (.c (.n 0))) .nil))) (.block 0 (.loop (.seq (.reg (.cons (some x11x) none (.bin .lss (.t x10x) (.t x9x)) 
  .nil)) (.seq (.cond (.t x11x) .skip (.exit 0)) (.seq (.block 1 (.seq (.reg (.cons (some x12x) none (.mv (.t x10x)) (.cons (some x6x) none (.mv (.t x12x)) .nil))) (.reg (.cons 
  (some x13x) none (.mv (.t x5x)) (.cons (some x14x) none (.mv (.t x0x)) (.cons (some x15x) none (.mv (.t x6x)) (.cons (some x16x) none (.bin .sub (.t x14x) (.t x15x)) (.cons (some 
  x17x) none (.bin .mul (.t x13x) (.t x16x)) (.cons (some x18x) none (.mv (.t x6x)) (.cons (some x19x) none (.bin .add (.t x18x) (.c (.n 1))) (.cons (some x20x) none (.bin .quo (.t 
  x17x) (.t x19x)) (.cons (some x5x) none (.mv (.t x20x)) .nil)))))))))))) (.reg (.cons (some x21x) none (.bin .add (.t x10x) (.c (.n 1))) (.cons (some x10x) none (.mv (.t x21x)) 
  .nil))))))))) (.seq (.reg (.cons (some x22x) none (.mv (.t x5x)) (.cons (some x4x) none (.mv (.t x22x)) .nil))) .ret))))) [(.tmp x4x)])
theorem cc62 : compF Tryd.prog drops true true Tryd.f62 = some i62 := by kernel_rfl
noncomputable def i63 : FnI := (.mk true false (.seq (.reg (.cons (some x2x) none (.mv (.c .ns)) .nil)) (.seq (.seq (.reg (.cons (some x3x) none (.mv (.t x0x)) (.cons (some x4x) none (.eqn false (.t x3x) (.c 
  .ns)) .nil))) (.cond (.t x4x) (.seq (.reg (.cons (some x2x) none (.mv (.c .ns)) .nil)) .ret) .skip)) (.seq (.reg (.cons (some x5x) none (.bsl 3 1 0 .nil .nil) (.cons (some x6x) 
  none (.mv (.t x0x)) (.cons (some x7x) none (.app 3 1 8 (.t x5x) (.t x6x)) (.cons (some x2x) none (.mv (.t x7x)) .nil))))) .ret))) [(.tmp x2x)])
theorem cc63 : compF Tryd.prog drops true false Tryd.f63 = some i63 := by kernel_rfl
noncomputable def i64 : FnI := (.mk true false (.seq (.reg (.cons (some x5x) none (.box 3 (.t x2x)) (.cons (some x6x) none (.mv (.c .nf)) .nil))) (.seq (.reg (.cons (some x8x) none (.mv (.t x0x)) (.cons (some 
  x9x) none (.mv (.t x1x)) (.cons (some x10x) none (.ld 1 false (.t x5x)) (.cons (some x11x) none (.call 33 (.cons (.t x8x) (.cons (.t x9x) (.cons (.t x10x) .nil)))) (.cons (some 
  x7x) none (.alloc 22 (.cons .ns .nil) 1) (.cons none none (.st 1 (.t x7x) (.t x11x)) .nil))))))) (.seq (.reg (.cons (some x12x) none (.mkf 85 .nil (.cons (.t x5x) (.cons (.t x7x) 
  .nil))) (.cons (some x6x) none (.mv (.t x12x)) .nil))) .ret))) [(.tmp x6x)])
theorem cc64 : compF Tryd.prog drops true false Tryd.f64 = some i64 := by kernel_rfl
noncomputable def i65 : FnI := (.mk true false (.seq (.reg (.cons (some x6x) none (.mv (.c .ns)) (.cons (some x7x) none (.mv (.c (.n 0))) .nil))) (.seq (.seq (.reg (.cons (some x9x) none (.mv (.t x0x)) (.cons 
  (some x10x) none (.mv (.t x1x)) (.cons (some x11x) none (.mv (.t x2x)) (.cons (some x12x) none (.call 32 (.cons (.t x9x) (.cons (.t x10x) (.cons (.t x11x) .nil)))) (.cons (some 
  x8x) none (.mv (.t x12x)) .nil)))))) (.seq (.reg (.cons (some x13x) none (.mv (.t x8x)) (.cons (some x14x) none (.bin .neq (.t x13x) (.c (.n 0))) .nil))) (.cond (.t x14x) (.seq 
  (.reg (.cons (some x15x) none (.mv (.t x8x)) (.cons (some x6x) none (.mv (.c .ns)) (.cons (some x7x) none (.mv (.t x15x)) .nil)))) .ret) .skip))) (.seq (.reg (.cons (some x16x) 
  none (.mv (.t x0x)) (.cons (some x17x) none (.mv (.t x1x)) (.cons (some x18x) none (.mv (.t x2x)) (.cons (some x19x) none (.call 86 (.cons (.t x16x) (.cons (.t x17x) (.cons (.t 
  x18x) .nil)))) (.cons (some x20x) none (.ext 0 (.t x19x)) (.cons (some x21x) none (.ext 1 (.t x19x)) (.cons (some x6x) none (.mv (.t x20x)) (.cons (some x7x) none (.mv (.t x21x)) 
  .nil))))))))) .ret))) [(.tmp x6x), (.tmp x7x)])
theorem cc65 : compF Tryd.prog drops true false Tryd.f65 = some i65 := by kernel_rfl
noncomputable def i66 : FnI := (.mk true true (.seq (.reg (.cons (some x4x) none (.alloc 72 (.cons (.n 0) (.cons (.b false) (.cons (.b false) (.cons (.b false) (.cons (.b false) (.cons (.b false) (.cons (.b 
  false) (.cons (.b false) (.cons (.b false) (.cons (.b false) (.cons (.b false) (.cons (.b false) (.cons (.b false) (.cons (.b false) (.cons (.b false) (.cons (.b false) (.cons 
  (.b false) .nil))))))))))))))))) 17) (.cons (some x5x) none (.alloc 72 (.cons (.n 0) (.cons (.b false) (.cons (.b false) (.cons (.b false) (.cons (.b false) (.cons (.b false) 
  (.cons (.b false) (.cons (.b false) (.cons (.b false) (.cons (.b false) (.cons (.b false) (.cons (.b false) (.cons (.b false) (.cons (.b false) (.cons (.b false) (.cons (.b 
  false) (.cons (.b false) .nil))))))))))))))))) 17) (.cons (some x6x) none (.mv (.c (.n 0))) .nil)))) (.seq (.reg (.cons (some x11x) none (.mv (.t x0x)) (.cons (some x12x) none 
  (.call 87 (.cons (.t x11x) .nil)) (.cons (some x10x) none (.mv (.t x12x)) (.cons (some x13x) none (.ext 0 (.t x10x)) (.cons (some x14x) none (.ext 1 (.t x10x)) (.cons (some x7x) 
  none (.alloc 72 (.cons (.n 0) (.cons (.b false) (.cons (.b false) (.cons (.b false) (.cons (.b false) (.cons (.b false) (.cons (.b false) (.cons (.b false) (.cons (.b false) 
  (.cons (.b false) (.cons (.b false) (.cons (.b false) (.cons (.b false) (.cons (.b false) (.cons (.b false) (.cons (.b false) (.cons (.b false) .nil))))))))))))))))) 17) (.cons 
  none none (.st 17 (.t x7x) (.t x13x)) (.cons (some x8x) none (.mv (.t x14x)) .nil))))))))) (.seq (.seq (.reg (.cons (some x15x) none (.mv (.t x8x)) (.cons (some x16x) none (.bin 
  .neq (.t x15x) (.c (.n 0))) .nil))) (.cond (.t x16x) (.seq (.reg (.cons (some x17x) none (.build (.cons (.n 0) (.cons (.b false) (.cons (.b false) (.cons (.b false) (.cons (.b 
  false) (.cons (.b false) (.cons (.b false) (.cons (.b false) (.cons (.b false) (.cons (.b false) (.cons (.b false) (.cons (.b false) (.cons (.b false) (.cons (.b false) (.cons 
  (.b false) (.cons (.b false) (.cons (.b false) .nil))))))))))))))))) .nil) (.cons (some x18x) none (.build (.cons (.n 0) (.cons (.b false) (.cons (.b false) (.cons (.b false) 
  (.cons (.b false) (.cons (.b false) (.cons (.b false) (.cons (.b false) (.cons (.b false) (.cons (.b false) (.cons (.b false) (.cons (.b false) (.cons (.b false) (.cons (.b 
  false) (.cons (.b false) (.cons (.b false) (.cons (.b false) .nil))))))))))))))))) .nil) (.cons (some x19x) none (.mv (.t x8x)) (.cons none none (.st 17 (.t x4x) (.t x17x)) 
  (.cons none none (.st 17 (.t x5x) (.t x18x)) (.cons (some x6x) none (.mv (.t x19x)) .nil))))))) .ret) .skip)) (.seq (.reg (.cons (some x21x) none (.mv (.t x1x)) (.cons (some 
  x22x) none (.call 87 (.cons (.t x21x) .nil)) (.cons (some x20x) none (.mv (.t x22x)) (.cons (some x23x) none (.ext 0 (.t x20x)) (.cons (some x24x) none (.ext 1 (.t x20x)) (.cons 
  (some x9x) none (.alloc 72 (.cons (.n 0) (.cons (.b false) (.cons (.b false) (.cons (.b false) (.cons (.b false) (.cons (.b false) (.cons (.b false) (.cons (.b false) (.cons (.b 
  false) (.cons (.b false) (.cons (.b false) (.cons (.b false) (.cons (.b false) (.cons (.b false) (.cons (.b false) (.cons (.b false) (.cons (.b false) .nil))))))))))))))))) 17) 
  (.cons none none (.st 17 (.t x9x) (.t x23x)) (.cons (some x8x) none (.mv (.t x24x)) .nil))))))))) (.seq (.seq (.reg (.cons (some x25x) none (.mv (.t x8x)) (.cons (some x26x) none 
  (.bin .neq (.t x25x) (.c (.n 0))) .nil))) (.cond (.t x26x) (.seq (.reg (.cons (some x27x) none (.build (.cons (.n 0) (.cons (.b false) (.cons (.b false) (.cons (.b false) (.cons 
  (.b false) (.cons (.b false) (.cons (.b false) (.cons (.b false) (.cons (.b false) (.cons (.b false) (.cons (.b false) (.cons (.b false) (.cons (.b false) (.cons (.b false) 
  (.cons (.b false) (.cons (.b false) (.cons (.b false) .nil))))))))))))))))) .nil) (.cons (some x28x) none (.build (.cons (.n 0) (.cons (.b false) (.cons (.b false) (.cons (.b 
  false) (.cons (.b false) (.cons (.b false) (.cons (.b false) (.cons (.b false) (.cons (.b false) (.cons (.b false) (.cons (.b false) (.cons (.b false) (.cons (.b false) (.cons 
  (.b false) (.cons (.b false) (.cons (.b false) (.cons (.b false) .nil))))))))))))))))) .nil) (.cons (some x29x) none (.mv (.t x8x)) (.cons none none (.st 17 (.t x4x) (.t x27x)) 
  (.cons none none (.st 17 (.t x5x) (.t x28x)) (.cons (some x6x) none (.mv (.t x29x)) .nil))))))) .ret) .skip)) (.seq (.seq (.reg (.cons (some x30x) none (.fad 0 (.t x7x)) (.cons 
  (some x31x) none (.ld 1 false (.t x30x)) (.cons (some x32x) none (.fad 0 (.t x9x)) (.cons (some x33x) none (.ld 1 false (.t x32x)) (.cons (some x34x) none (.bin .neq (.t x31x) 
  (.t x33x)) .nil)))))) (.cond (.t x34x) (.seq (.reg (.cons (some x35x) none (.build (.cons (.n 0) (.cons (.b false) (.cons (.b false) (.cons (.b false) (.cons (.b false) (.cons 
  (.b false) (.cons (.b false) (.cons (.b false) (.cons (.b false) (.cons (.b false) (.cons (.b false) (.cons (.b false) (.cons (.b false) (.cons (.b false) (.cons (.b false) 
  (.cons (.b false) (.cons (.b false) .nil))))))))))))))))) .nil) (.cons (some x36x) none (.build (.cons (.n 0) (.cons (.b false) (.cons (.b false) (.cons (.b false) (.cons (.b 
  false) (.cons (.b false) (.cons (.b false) (.cons (.b false) (.cons (.b false) (.cons (.b false) (.cons (.b false) (.cons (.b false) (.cons (.b false) (.cons (.b false) (.cons 
  (.b false) (.cons (.b false) (.cons (.b false) .nil))))))))))))))))) .nil) (.cons none none (.st 17 (.t x4x) (.t x35x)) (.cons none none (.st 17 (.t x5x) (.t x36x)) (.cons (some 
  x6x) none (.mv (.c (.n 5))) .nil)))))) .ret) .skip)) (.seq (.draw [(.mk (some x37x) none false [] false [] [] [x7x] (.ld 17 true (.t x7x)) false [] [] []), (.mk (some x38x) none 
  false [] false [false] [x4x] [x9x] (.ld 17 true (.t x9x)) false [] [] []), (.mk none none false [x4x] false [false, true] [] [x4x, x37x] (.st 17 (.t x4x) (.t x37x)) false [] [] 
  []), (.mk none none false [x5x] false [true, true, true] [] [x5x, x38x] (.st 17 (.t x5x) (.t x38x)) false [] [] []), (.mk (some x6x) none true [] false [true, true, true, true] 
  [] [] (.mv (.c (.n 0))) false [] [] [])]) .ret))))))) [(.cell x4x 17 true), (.cell x5x 17 true), (.tmp x6x)])
theorem cc66 : compF Tryd.prog drops true true Tryd.f66 = some i66 := by kernel_rfl
noncomputable def i67 : FnI := (.mk true true (.seq (.reg (.cons (some x1x) none (.box 72 (.t x0x)) (.cons (some x2x) none (.mv (.c (.n 0))) .nil))) (.seq (.reg (.cons (some x3x) none (.mv (.c (.n 0))) (.cons 
  (some x4x) none (.mv (.c (.b false))) .nil))) (.seq (.seq (.reg (.cons (some x6x) none (.fad 0 (.t x1x)) (.cons (some x7x) none (.ld 1 false (.t x6x)) (.cons (some x8x) none 
  (.bin .sub (.t x7x) (.c (.n 1))) (.cons (some x5x) none (.mv (.t x8x)) .nil))))) (.block 0 (.loop (.seq (.seq (.reg (.cons (some x9x) none (.mv (.t x5x)) (.cons (some x10x) none 
  (.bin .geq (.t x9x) (.c (.n 0))) .nil))) (.cond (.t x10x) .skip (.exit 0))) (.seq (.block 1 (.seq (.reg (.cons (some x13x) none (.mv (.t x4x)) (.cons (some x14x) none (.mv (.t 
  x5x)) (.cons (some x15x) none (.fad 1 (.t x1x)) (.cons (some x16x) none (.ixa 16 1 (.t x15x) (.t x14x)) (.cons (some x17x) none (.ld 1 false (.t x16x)) (.cons (some x18x) none 
  (.eqb true (.t x13x) (.t x17x)) (.cons (some x4x) none (.mv (.t x18x)) .nil)))))))) (.seq (.reg (.cons (some x19x) none (.mv (.t x3x)) (.cons (some x20x) none (.bin .mul (.t 
  x19x) (.c (.n 2))) (.cons (some x3x) none (.mv (.t x20x)) .nil)))) (.seq (.reg (.cons (some x21x) none (.mv (.t x4x)) .nil)) (.cond (.t x21x) (.reg (.cons (some x22x) none (.mv 
  (.t x3x)) (.cons (some x23x) none (.bin .add (.t x22x) (.c (.n 1))) (.cons (some x3x) none (.mv (.t x23x)) .nil)))) .skip))))) (.reg (.cons (some x11x) none (.mv (.t x5x)) (.cons 
  (some x12x) none (.bin .sub (.t x11x) (.c (.n 1))) (.cons (some x5x) none (.mv (.t x12x)) .nil))))))))) (.seq (.reg (.cons (some x24x) none (.mv (.t x3x)) (.cons (some x2x) none 
  (.mv (.t x24x)) .nil))) .ret)))) [(.tmp x2x)])
theorem cc67 : compF Tryd.prog drops true true Tryd.f67 = some i67 := by kernel_rfl
noncomputable def i68 : FnI := (.mk true true (.seq (.reg (.cons (some x2x) none (.mv (.c (.n 0))) .nil)) (.seq (.cond (.c (.b false)) (.seq (.reg (.cons (some x3x) none (.mv (.t x0x)) (.cons (some x4x) none 
  (.conv .u32 (.t x3x)) (.cons (some x5x) none (.call 88 (.cons (.t x4x) .nil)) (.cons (some x2x) none (.mv (.t x5x)) .nil))))) .ret) .skip) (.seq (.reg (.cons (some x6x) none (.mv 
  (.t x0x)) (.cons (some x7x) none (.call 89 (.cons (.t x6x) .nil)) (.cons (some x2x) none (.mv (.t x7x)) .nil)))) .ret))) [(.tmp x2x)])
theorem cc68 : compF Tryd.prog drops true true Tryd.f68 = some i68 := by kernel_rfl
noncomputable def i69 : FnI := (.mk true true (.seq (.reg (.cons (some x2x) none (.box 76 (.t x0x)) (.cons (some x4x) none (.mv (.c (.n 0))) .nil))) (.seq (.seq (.reg (.cons (some x5x) none (.fad 2 (.t x2x)) 
  (.cons (some x6x) none (.ld 1 false (.t x5x)) (.cons (some x7x) none (.fad 1 (.t x2x)) (.cons (some x8x) none (.ld 1 false (.t x7x)) (.cons (some x9x) none (.bin .lss (.t x6x) 
  (.t x8x)) .nil)))))) (.cond (.t x9x) (.seq (.reg (.cons (some x10x) none (.fad 1 (.t x2x)) (.cons (some x11x) none (.ld 1 false (.t x10x)) (.cons (some x12x) none (.mv (.t x1x)) 
  (.cons (some x13x) none (.bin .sub (.t x11x) (.t x12x)) (.cons (some x4x) none (.mv (.t x13x)) .nil)))))) .ret) .skip)) (.seq (.reg (.cons (some x14x) none (.fad 1 (.t x2x)) 
  (.cons (some x15x) none (.ld 1 false (.t x14x)) (.cons (some x16x) none (.mv (.t x1x)) (.cons (some x17x) none (.bin .add (.t x15x) (.t x16x)) (.cons (some x4x) none (.mv (.t 
  x17x)) .nil)))))) .ret))) [(.tmp x4x)])
theorem cc69 : compF Tryd.prog drops true true Tryd.f69 = some i69 := by kernel_rfl
noncomputable def i70 : FnI := (.mk true true (.seq (.reg (.cons (some x4x) none (.mv (.c (.b false))) .nil)) (.seq (.seq (.reg (.cons (some x7x) none (.mv (.t x0x)) (.cons (some x8x) none (.rng (.t x7x)) 
  .nil))) (.block 0 (.loop (.seq (.reg (.cons (some x9x) none (.nxt (.t x8x)) (.cons (some x10x) none (.ext 0 (.t x9x)) .nil))) (.seq (.cond (.t x10x) .skip (.exit 0)) (.block 1 
  (.seq (.reg (.cons (some x11x) none (.ext 2 (.t x9x)) (.cons (some x6x) none (.mv (.t x11x)) .nil))) (.seq (.reg (.cons (some x12x) none (.mv (.t x1x)) (.cons (some x13x) none 
  (.mv (.t x6x)) (.cons (some x14x) none (.call 90 (.cons (.t x12x) (.cons (.t x13x) .nil))) (.cons (some x15x) none (.not (.t x14x)) .nil))))) (.cond (.t x15x) (.seq (.reg (.cons 
  (some x4x) none (.mv (.c (.b false))) .nil)) .ret) .skip))))))))) (.seq (.reg (.cons (some x4x) none (.mv (.c (.b true))) .nil)) .ret))) [(.tmp x4x)])
theorem cc70 : compF Tryd.prog drops true true Tryd.f70 = some i70 := by kernel_rfl
noncomputable def i71 : FnI := (.mk true true (.seq (.reg (.cons (some x2x) none (.mv (.c (.n 0))) (.cons (some x3x) none (.mv (.c (.n 0))) .nil))) (.seq (.seq (.reg (.cons (some x6x) none (.mv (.t x0x)) (.cons 
  (some x7x) none (.rng (.t x6x)) .nil))) (.block 0 (.loop (.seq (.reg (.cons (some x8x) none (.nxt (.t x7x)) (.cons (some x9x) none (.ext 0 (.t x8x)) .nil))) (.seq (.cond (.t x9x) 
  .skip (.exit 0)) (.block 1 (.seq (.reg (.cons (some x10x) none (.ext 1 (.t x8x)) (.cons (some x4x) none (.mv (.t x10x)) .nil))) (.seq (.reg (.cons (some x11x) none (.mv (.t x0x)) 
  (.cons (some x12x) none (.mv (.t x4x)) (.cons (some x13x) none (.bin .add (.t x12x) (.c (.n 1))) (.cons (some x14x) none (.ssl (.t x11x) none (some (.t x13x))) (.cons (some x15x) 
  none (.call 75 (.cons (.t x14x) .nil)) (.cons (some x5x) none (.mv (.t x15x)) .nil))))))) (.seq (.reg (.cons (some x16x) none (.mv (.t x5x)) (.cons (some x17x) none (.bin .gtr 
  (.t x16x) (.c (.n 0))) .nil))) (.cond (.t x17x) (.seq (.reg (.cons (some x18x) none (.mv (.t x4x)) (.cons (some x19x) none (.bin .add (.t x18x) (.c (.n 1))) (.cons (some x20x) 
  none (.mv (.t x5x)) (.cons (some x21x) none (.bin .mul (.c (.n 2)) (.t x20x)) (.cons (some x22x) none (.bin .sub (.t x19x) (.t x21x)) (.cons (some x23x) none (.mv (.t x5x)) 
  (.cons (some x2x) none (.mv (.t x22x)) (.cons (some x3x) none (.mv (.t x23x)) .nil))))))))) .ret) .skip)))))))))) (.seq (.reg (.cons (some x2x) none (.mv (.c (.n 0))) (.cons 
  (some x3x) none (.mv (.c (.n 0))) .nil))) .ret))) [(.tmp x2x), (.tmp x3x)])
theorem cc71 : compF Tryd.prog drops true true Tryd.f71 = some i71 := by kernel_rfl
noncomputable def i72 : FnI := (.mk true true (.seq (.reg (.cons (some x2x) none (.mv (.c (.b false))) .nil)) (.seq (.reg (.cons (some x3x) none (.mv (.t x0x)) (.cons (some x4x) none (.bin .geq (.t x3x) (.c (.n 
  1))) (.cons (some x5x) none (.mv (.t x4x)) (.cons (some x6x) (some (.mk x5x true)) (.mv (.t x0x)) (.cons (some x7x) (some (.mk x5x true)) (.bin .leq (.t x6x) (.c (.n 4))) (.cons 
  (some x8x) none (.pick (.t x5x) (.t x7x) (.c (.b false))) (.cons (some x2x) none (.mv (.t x8x)) .nil)))))))) .ret)) [(.tmp x2x)])
theorem cc72 : compF Tryd.prog drops true true Tryd.f72 = some i72 := by kernel_rfl
noncomputable def i73 : FnI := (.mk false false (.reg (.cons (some x5x) none (.ld 1 false (.t x1x)) (.cons (some x6x) none (.ld 1 false (.t x2x)) (.cons (some x7x) none (.ld 1 false (.t x3x)) (.cons (some x8x) 
  none (.mv (.t x0x)) (.cons (some x9x) none (.call 74 (.cons (.t x5x) (.cons (.t x6x) (.cons (.t x7x) (.cons (.t x8x) .nil))))) .nil)))))) [])
theorem cc73 : compF Tryd.prog drops false false Tryd.f73 = some i73 := by kernel_rfl
noncomputable def i74 : FnI := (.mk false false (.seq (.reg (.cons (some x8x) none (.mv (.c (.b false))) .nil)) (.seq (.seq (.reg (.cons (some x11x) none (.mv (.t x0x)) (.cons (some x12x) none (.slen (.t x11x)) 
  (.cons (some x13x) none (.mv (.t x2x)) (.cons (some x14x) none (.bin .eql (.t x12x) (.t x13x)) .nil))))) (.cond (.t x14x) (.seq (.reg (.cons (some x15x) none (.mv (.t x3x)) 
  (.cons (some x16x) none (.mv (.t x0x)) (.cons (some x17x) none (.callv (.t x15x) (.cons (.t x16x) .nil)) (.cons (some x8x) none (.mv (.t x17x)) .nil))))) .ret) .skip)) (.seq 
  (.seq (.reg (.cons (some x18x) none (.mv (.t x0x)) (.cons (some x19x) none (.mv (.t x1x)) (.cons (some x20x) none (.call 51 (.cons (.t x18x) (.cons (.t x19x) .nil))) (.cons (some 
  x21x) none (.rng (.t x20x)) .nil))))) (.block 0 (.loop (.seq (.reg (.cons (some x22x) none (.nxt (.t x21x)) (.cons (some x23x) none (.ext 0 (.t x22x)) .nil))) (.seq (.cond (.t 
  x23x) .skip (.exit 0)) (.block 1 (.seq (.reg (.cons (some x24x) none (.ext 2 (.t x22x)) (.cons (some x10x) none (.mv (.t x24x)) .nil))) (.seq (.reg (.cons (some x25x) none (.mv 
  (.t x0x)) (.cons (some x26x) none (.mv (.t x10x)) (.cons (some x27x) none (.r2s (.t x26x)) (.cons (some x28x) none (.sbi .add (.t x25x) (.t x27x)) (.cons (some x29x) none (.mv 
  (.t x1x)) (.cons (some x30x) none (.mv (.t x2x)) (.cons (some x31x) none (.mv (.t x3x)) (.cons (some x32x) none (.call 74 (.cons (.t x28x) (.cons (.t x29x) (.cons (.t x30x) 
  (.cons (.t x31x) .nil))))) (.cons (some x33x) none (.not (.t x32x)) .nil)))))))))) (.cond (.t x33x) (.seq (.reg (.cons (some x8x) none (.mv (.c (.b false))) .nil)) .ret) 
  .skip))))))))) (.seq (.reg (.cons (some x8x) none (.mv (.c (.b true))) .nil)) .ret)))) [(.tmp x8x)])
theorem cc74 : compF Tryd.prog drops false false Tryd.f74 = some i74 := by kernel_rfl
noncomputable def i75 : FnI := (.mk true true (.seq (.reg (.cons (some x2x) none (.mv (.c (.n 0))) .nil)) (.seq (.seq (.reg (.cons (some x3x) none (.mv (.c (.n 1))) .nil)) (.block 0 (.loop (.seq (.seq (.reg 
  (.cons (some x5x) none (.mv (.t x3x)) (.cons (some x6x) none (.bin .mul (.c (.n 2)) (.t x5x)) (.cons (some x7x) none (.mv (.t x0x)) (.cons (some x8x) none (.slen (.t x7x)) (.cons 
  (some x9x) none (.bin .leq (.t x6x) (.t x8x)) .nil)))))) (.cond (.t x9x) .skip (.exit 0))) (.seq (.block 1 (.seq (.reg (.cons (some x12x) none (.mv (.t x0x)) (.cons (some x13x) 
  none (.slen (.t x12x)) (.cons (some x14x) none (.mv (.t x3x)) (.cons (some x15x) none (.bin .sub (.t x13x) (.t x14x)) (.cons (some x4x) none (.mv (.t x15x)) .nil)))))) (.seq 
  (.draw [(.mk (some x16x) none true [] false [] [] [x0x] (.mv (.t x0x)) false [] [] []), (.mk (some x17x) none true [] false [false] [] [x4x] (.mv (.t x4x)) false [] [] []), (.mk 
  (some x18x) none false [] false [true, true] [] [x16x, x17x] (.ssl (.t x16x) none (some (.t x17x))) false [] [] []), (.mk (some x19x) none true [] false [false, false, false] [] 
  [x0x] (.mv (.t x0x)) false [] [] []), (.mk (some x20x) none true [] false [false, false, false, false] [] [x4x] (.mv (.t x4x)) false [] [] []), (.mk (some x21x) none false [] 
  false [true, true, false, false, false] [] [x19x, x20x] (.ssl (.t x19x) (some (.t x20x)) none) false [] [] []), (.mk (some x22x) none false [] false [true, true, true, true, 
  true, true] [] [x18x, x21x] (.call 91 (.cons (.t x18x) (.cons (.t x21x) .nil))) false [] [] [])]) (.cond (.t x22x) (.seq (.reg (.cons (some x23x) none (.mv (.t x3x)) (.cons (some 
  x2x) none (.mv (.t x23x)) .nil))) .ret) .skip)))) (.reg (.cons (some x10x) none (.mv (.t x3x)) (.cons (some x11x) none (.bin .add (.t x10x) (.c (.n 1))) (.cons (some x3x) none 
  (.mv (.t x11x)) .nil))))))))) (.seq (.reg (.cons (some x2x) none (.mv (.c (.n 0))) .nil)) .ret))) [(.tmp x2x)])
theorem cc75 : compF Tryd.prog drops true true Tryd.f75 = some i75 := by kernel_rfl
noncomputable def i79 : FnI := (.mk true true (.seq (.reg (.cons (some x1x) none (.box 63 (.t x0x)) (.cons (some x2x) none (.alloc 63 (.cons (.n 0) (.cons (.n 0) (.cons (.n 0) .nil))) 3) .nil))) (.seq (.reg 
  (.cons (some x3x) none (.fad 0 (.t x1x)) (.cons (some x4x) none (.ld 1 false (.t x3x)) (.cons (some x5x) none (.bin .sub (.t x4x) (.c (.n 1))) (.cons (some x6x) none (.fad 1 (.t 
  x1x)) (.cons (some x7x) none (.ld 1 false (.t x6x)) (.cons (some x8x) none (.fad 2 (.t x1x)) (.cons (some x9x) none (.ld 1 false (.t x8x)) (.cons (some x10x) none (.bin .add (.t 
  x9x) (.c (.n 1))) (.cons (some x11x) none (.build (.cons (.n 0) (.cons (.n 0) (.cons (.n 0) .nil))) (.cons 0 1 (.t x5x) (.cons 1 1 (.t x7x) (.cons 2 1 (.t x10x) .nil)))) (.cons 
  none none (.st 3 (.t x2x) (.t x11x)) .nil))))))))))) .ret)) [(.cell x2x 3 true)])
theorem cc79 : compF Tryd.prog drops true true Tryd.f79 = some i79 := by kernel_rfl
noncomputable def i80 : FnI := (.mk true true (.seq (.reg (.cons (some x1x) none (.box 63 (.t x0x)) (.cons (some x2x) none (.alloc 63 (.cons (.n 0) (.cons (.n 0) (.cons (.n 0) .nil))) 3) .nil))) (.seq (.reg 
  (.cons (some x3x) none (.fad 0 (.t x1x)) (.cons (some x4x) none (.ld 1 false (.t x3x)) (.cons (some x5x) none (.fad 1 (.t x1x)) (.cons (some x6x) none (.ld 1 false (.t x5x)) 
  (.cons (some x7x) none (.bin .sub (.t x6x) (.c (.n 1))) (.cons (some x8x) none (.fad 2 (.t x1x)) (.cons (some x9x) none (.ld 1 false (.t x8x)) (.cons (some x10x) none (.bin .sub 
  (.t x9x) (.c (.n 1))) (.cons (some x11x) none (.build (.cons (.n 0) (.cons (.n 0) (.cons (.n 0) .nil))) (.cons 0 1 (.t x4x) (.cons 1 1 (.t x7x) (.cons 2 1 (.t x10x) .nil)))) 
  (.cons none none (.st 3 (.t x2x) (.t x11x)) .nil))))))))))) .ret)) [(.cell x2x 3 true)])
theorem cc80 : compF Tryd.prog drops true true Tryd.f80 = some i80 := by kernel_rfl
noncomputable def i81 : FnI := (.mk true true (.seq (.reg (.cons (some x2x) none (.mv (.c (.n 0))) .nil)) (.seq (.reg (.cons (some x3x) none (.mv (.c (.n 0))) .nil)) (.seq (.seq (.reg (.cons (some x6x) none (.mv 
  (.t x0x)) (.cons (some x7x) none (.len (.t x6x)) (.cons (some x8x) none (.mv (.c (.n 0))) .nil)))) (.block 0 (.loop (.seq (.reg (.cons (some x9x) none (.bin .lss (.t x8x) (.t 
  x7x)) .nil)) (.seq (.cond (.t x9x) .skip (.exit 0)) (.seq (.block 1 (.seq (.reg (.cons (some x10x) none (.ixs 1 (.t x6x) (.t x8x)) (.cons (some x11x) none (.ld 1 false (.t x10x)) 
  (.cons (some x5x) none (.mv (.t x11x)) .nil)))) (.reg (.cons (some x12x) none (.mv (.t x3x)) (.cons (some x13x) none (.mv (.t x5x)) (.cons (some x14x) none (.bin .add (.t x12x) 
  (.t x13x)) (.cons (some x3x) none (.mv (.t x14x)) .nil))))))) (.reg (.cons (some x15x) none (.bin .add (.t x8x) (.c (.n 1))) (.cons (some x8x) none (.mv (.t x15x)) .nil))))))))) 
  (.seq (.reg (.cons (some x16x) none (.mv (.t x3x)) (.cons (some x2x) none (.mv (.t x16x)) .nil))) .ret)))) [(.tmp x2x)])
theorem cc81 : compF Tryd.prog drops true true Tryd.f81 = some i81 := by kernel_rfl
noncomputable def i82 : FnI := (.mk false false (.seq (.reg (.cons (some x2x) none (.box 116 (.t x0x)) (.cons (some x3x) none (.box 119 (.t x1x)) (.cons (some x4x) none (.mv (.c (.n 0))) .nil)))) (.seq (.seq 
  (.reg (.cons (some x5x) none (.fad 0 (.t x3x)) (.cons (some x6x) none (.ld 1 false (.t x5x)) (.cons (some x7x) none (.bin .eql (.t x6x) (.c (.n 0))) .nil)))) (.cond (.t x7x) 
  (.seq (.reg (.cons (some x4x) none (.mv (.c (.n 1))) .nil)) .ret) .skip)) (.seq (.reg (.cons (some x8x) none (.ld 1 false (.t x2x)) (.cons (some x9x) none (.ld 2 true (.t x3x)) 
  (.cons (some x10x) none (.mkf 99 .nil (.cons (.t x3x) (.cons (.t x2x) .nil))) (.cons (some x11x) none (.call 98 (.cons (.t x8x) (.cons (.t x9x) (.cons (.t x10x) .nil)))) (.cons 
  (some x4x) none (.mv (.t x11x)) .nil)))))) .ret))) [(.tmp x4x)])
theorem cc82 : compF Tryd.prog drops false false Tryd.f82 = some i82 := by kernel_rfl
noncomputable def i83 : FnI := (.mk true true (.seq (.reg (.cons (some x4x) none (.mv (.c (.n 0))) (.cons (some x5x) none (.mv (.c (.n 0))) .nil))) (.seq (.seq (.reg (.cons (some x6x) none (.mv (.t x0x)) (.cons 
  (some x7x) none (.call 100 (.cons (.t x6x) .nil)) (.cons (some x8x) none (.not (.t x7x)) (.cons (some x9x) none (.mv (.t x8x)) (.cons (some x10x) (some (.mk x9x false)) (.mv (.t 
  x1x)) (.cons (some x11x) (some (.mk x9x false)) (.call 100 (.cons (.t x10x) .nil)) (.cons (some x12x) (some (.mk x9x false)) (.not (.t x11x)) (.cons (some x13x) none (.pick (.t 
  x9x) (.c (.b true)) (.t x12x)) .nil))))))))) (.cond (.t x13x) (.seq (.reg (.cons (some x4x) none (.mv (.c (.n 0))) (.cons (some x5x) none (.mv (.c (.n 1))) .nil))) .ret) .skip)) 
  (.seq (.reg (.cons (some x14x) none .mkm (.cons (some x15x) none (.mv (.t x0x)) (.cons (some x16x) none (.mv (.t x1x)) (.cons (some x17x) none (.build (.cons (.n 0) (.cons (.n 0) 
  .nil)) (.cons 0 1 (.t x15x) (.cons 1 1 (.t x16x) .nil))) (.cons (some x18x) none (.call 82 (.cons (.t x14x) (.cons (.t x17x) .nil))) (.cons (some x4x) none (.mv (.t x18x)) (.cons 
  (some x5x) none (.mv (.c (.n 0))) .nil)))))))) .ret))) [(.tmp x4x), (.tmp x5x)])
theorem cc83 : compF Tryd.prog drops true true Tryd.f83 = some i83 := by kernel_rfl
noncomputable def i84 : FnI := (.mk true true (.seq (.reg (.cons (some x2x) none (.mv (.c (.n 0))) .nil)) (.seq (.seq (.reg (.cons (some x5x) none (.mv (.t x0x)) (.cons (some x6x) none (.len (.t x5x)) (.cons 
  (some x7x) none (.bin .eql (.t x6x) (.c (.n 0))) .nil)))) (.cond (.t x7x) (.seq (.reg (.cons (some x2x) none (.mv (.c (.n 4))) .nil)) .ret) .skip)) (.seq (.seq (.reg (.cons (some 
  x8x) none (.mv (.t x0x)) (.cons (some x9x) none (.len (.t x8x)) (.cons (some x10x) none (.bin .gtr (.t x9x) (.c (.n 5))) .nil)))) (.cond (.t x10x) (.seq (.reg (.cons (some x2x) 
  none (.mv (.c (.n 3))) .nil)) .ret) .skip)) (.seq (.seq (.reg (.cons (some x11x) none (.mv (.t x0x)) (.cons (some x12x) none (.len (.t x11x)) (.cons (some x13x) none (.mv (.c (.n 
  0))) .nil)))) (.block 0 (.loop (.seq (.reg (.cons (some x14x) none (.bin .lss (.t x13x) (.t x12x)) .nil)) (.seq (.cond (.t x14x) .skip (.exit 0)) (.seq (.block 1 (.seq (.reg 
  (.cons (some x15x) none (.mv (.t x13x)) (.cons (some x16x) none (.ixs 1 (.t x11x) (.t x13x)) (.cons (some x17x) none (.ld 1 false (.t x16x)) (.cons (some x3x) none (.mv (.t 
  x15x)) (.cons (some x4x) none (.mv (.t x17x)) .nil)))))) (.seq (.seq (.reg (.cons (some x18x) none (.mv (.t x4x)) (.cons (some x19x) none (.bin .lss (.t x18x) (.c (.n 1))) (.cons 
  (some x20x) none (.mv (.t x19x)) (.cons (some x21x) (some (.mk x20x false)) (.mv (.t x4x)) (.cons (some x22x) (some (.mk x20x false)) (.bin .gtr (.t x21x) (.c (.n 30))) (.cons 
  (some x23x) none (.pick (.t x20x) (.c (.b true)) (.t x22x)) .nil))))))) (.cond (.t x23x) (.seq (.reg (.cons (some x2x) none (.mv (.c (.n 1))) .nil)) .ret) .skip)) (.seq (.reg 
  (.cons (some x24x) none (.mv (.t x3x)) (.cons (some x25x) none (.bin .gtr (.t x24x) (.c (.n 0))) (.cons (some x26x) none (.mv (.t x25x)) (.cons (some x27x) (some (.mk x26x true)) 
  (.mv (.t x4x)) (.cons (some x28x) (some (.mk x26x true)) (.mv (.t x0x)) (.cons (some x29x) (some (.mk x26x true)) (.mv (.t x3x)) (.cons (some x30x) (some (.mk x26x true)) (.bin 
  .sub (.t x29x) (.c (.n 1))) (.cons (some x31x) (some (.mk x26x true)) (.ixs 1 (.t x28x) (.t x30x)) (.cons (some x32x) (some (.mk x26x true)) (.ld 1 false (.t x31x)) (.cons (some 
  x33x) (some (.mk x26x true)) (.bin .leq (.t x27x) (.t x32x)) (.cons (some x34x) none (.pick (.t x26x) (.t x33x) (.c (.b false))) .nil)))))))))))) (.cond (.t x34x) (.seq (.reg 
  (.cons (some x2x) none (.mv (.c (.n 7))) .nil)) .ret) .skip))))) (.reg (.cons (some x35x) none (.bin .add (.t x13x) (.c (.n 1))) (.cons (some x13x) none (.mv (.t x35x)) 
  .nil))))))))) (.seq (.reg (.cons (some x2x) none (.mv (.c (.n 0))) .nil)) .ret))))) [(.tmp x2x)])
theorem cc84 : compF Tryd.prog drops true true Tryd.f84 = some i84 := by kernel_rfl
noncomputable def i85 : FnI := (.mk true true (.seq (.reg (.cons (some x4x) none (.mv (.c (.b false))) .nil)) (.seq (.reg (.cons (some x5x) none (.mv (.t x0x)) (.cons (some x6x) none (.bin .geq (.t x5x) (.c (.n 
  0))) (.cons (some x7x) none (.mv (.t x6x)) (.cons (some x8x) (some (.mk x7x true)) (.mv (.t x0x)) (.cons (some x9x) (some (.mk x7x true)) (.ld 1 false (.t x1x)) (.cons (some 
  x10x) (some (.mk x7x true)) (.bin .leq (.t x8x) (.t x9x)) (.cons (some x11x) none (.pick (.t x7x) (.t x10x) (.c (.b false))) (.cons (some x12x) none (.mv (.t x11x)) (.cons (some 
  x13x) (some (.mk x12x true)) (.ld 1 false (.t x2x)) (.cons (some x14x) (some (.mk x12x true)) (.mv (.t x0x)) (.cons (some x15x) (some (.mk x12x true)) (.ixs 1 (.t x13x) (.t 
  x14x)) (.cons (some x16x) (some (.mk x12x true)) (.ld 1 false (.t x15x)) (.cons (some x17x) (some (.mk x12x true)) (.bin .gtr (.t x16x) (.c (.n 0))) (.cons (some x18x) none 
  (.pick (.t x12x) (.t x17x) (.c (.b false))) (.cons (some x4x) none (.mv (.t x18x)) .nil)))))))))))))))) .ret)) [(.tmp x4x)])
theorem cc85 : compF Tryd.prog drops true true Tryd.f85 = some i85 := by kernel_rfl
noncomputable def i86 : FnI := (.mk true false (.seq (.reg (.cons (some x6x) none (.mv (.c .ns)) (.cons (some x7x) none (.mv (.c (.n 0))) .nil))) (.seq (.reg (.cons (some x15x) none (.mv (.t x0x)) (.cons (some 
  x16x) none (.mv (.t x1x)) (.cons (some x17x) none (.mv (.t x2x)) (.cons (some x18x) none (.call 101 (.cons (.t x15x) (.cons (.t x16x) (.cons (.t x17x) .nil)))) (.cons (some x8x) 
  none (.mv (.t x18x)) .nil)))))) (.seq (.seq (.reg (.cons (some x19x) none (.mv (.t x8x)) (.cons (some x20x) none (.ixs 1 (.t x19x) (.c (.n 0))) (.cons (some x21x) none (.ld 1 
  false (.t x20x)) (.cons (some x22x) none (.mv (.t x2x)) (.cons (some x23x) none (.ixs 1 (.t x21x) (.t x22x)) (.cons (some x24x) none (.ld 1 false (.t x23x)) (.cons (some x25x) 
  none (.bin .eql (.t x24x) (.c (.n 1001))) .nil)))))))) (.cond (.t x25x) (.seq (.reg (.cons (some x6x) none (.mv (.c .ns)) (.cons (some x7x) none (.mv (.c (.n 12))) .nil))) .ret) 
  .skip)) (.seq (.reg (.cons (some x26x) none (.mv (.t x0x)) (.cons (some x27x) none (.len (.t x26x)) (.cons (some x28x) none (.mks 3 1 8 1 (.cons (.n 0) .nil) (.t x27x) (.t x27x)) 
  (.cons (some x9x) none (.mv (.t x28x)) .nil))))) (.seq (.reg (.cons (some x29x) none (.mv (.t x2x)) (.cons (some x10x) none (.mv (.t x29x)) .nil))) (.seq .skip (.seq (.seq (.reg 
  (.cons (some x30x) none (.mv (.t x0x)) (.cons (some x31x) none (.len (.t x30x)) (.cons (some x32x) none (.mv (.c (.n 0))) .nil)))) (.block 0 (.loop (.seq (.reg (.cons (some x33x) 
  none (.bin .lss (.t x32x) (.t x31x)) .nil)) (.seq (.cond (.t x33x) .skip (.exit 0)) (.seq (.block 1 (.seq (.reg (.cons (some x34x) none (.mv (.t x32x)) (.cons (some x35x) none 
  (.ixs 1 (.t x30x) (.t x32x)) (.cons (some x36x) none (.ld 1 false (.t x35x)) (.cons (some x11x) none (.mv (.t x34x)) (.cons (some x12x) none (.mv (.t x36x)) .nil)))))) (.seq 
  (.reg (.cons (some x37x) none (.mv (.t x1x)) (.cons (some x38x) none (.mv (.t x11x)) (.cons (some x39x) none (.ixs 1 (.t x37x) (.t x38x)) (.cons (some x40x) none (.ld 1 false (.t 
  x39x)) (.cons (some x41x) none (.bin .add (.t x40x) (.c (.n 1))) (.cons (some x42x) none (.mv (.c (.n 0))) .nil))))))) (.block 2 (.loop (.seq (.reg (.cons (some x43x) none (.bin 
  .lss (.t x42x) (.t x41x)) .nil)) (.seq (.cond (.t x43x) .skip (.exit 2)) (.seq (.block 3 (.seq (.reg (.cons (some x44x) none (.mv (.t x42x)) (.cons (some x13x) none (.mv (.t 
  x44x)) .nil))) (.seq (.reg (.cons (some x45x) none (.mv (.t x10x)) (.cons (some x46x) none (.mv (.t x13x)) (.cons (some x47x) none (.mv (.t x12x)) (.cons (some x48x) none (.bin 
  .mul (.t x46x) (.t x47x)) (.cons (some x49x) none (.bin .sub (.t x45x) (.t x48x)) (.cons (some x14x) none (.mv (.t x49x)) .nil))))))) (.seq (.draw [(.mk (some x50x) none true [] 
  false [] [] [x14x] (.mv (.t x14x)) false [] [] []), (.mk (some x51x) none true [] false [true] [] [x50x] (.bin .geq (.t x50x) (.c (.n 0))) false [] [] []), (.mk (some x52x) none 
  true [] false [true, true] [] [x51x] (.mv (.t x51x)) false [] [] []), (.mk (some x53x) (some (.mk x52x true)) true [] false [true, true, true] [] [x52x, x13x] (.mv (.t x13x)) 
  false [] [] []), (.mk (some x54x) (some (.mk x52x true)) true [] false [false, true, true, true] [] [x52x, x8x] (.mv (.t x8x)) false [] [] []), (.mk (some x55x) (some (.mk x52x 
  true)) true [] false [false, false, true, true, true] [] [x52x, x11x] (.mv (.t x11x)) false [] [] []), (.mk (some x56x) (some (.mk x52x true)) true [] false [true, false, false, 
  true, true, true] [] [x52x, x55x] (.bin .add (.t x55x) (.c (.n 1))) false [] [] []), (.mk (some x57x) (some (.mk x52x true)) true [] false [true, true, true, false, true, true, 
  true] [] [x52x, x54x, x56x] (.ixs 1 (.t x54x) (.t x56x)) false [] [] []), (.mk (some x58x) (some (.mk x52x true)) false [] false [true, true, true, true, false, true, true, true] 
  [] [x52x, x57x] (.ld 1 false (.t x57x)) false [] [] []), (.mk (some x59x) (some (.mk x52x true)) true [] false [false, false, false, false, false, false, true, true, true] [] 
  [x52x, x14x] (.mv (.t x14x)) false [] [] []), (.mk (some x60x) (some (.mk x52x true)) true [] false [true, true, true, true, true, true, false, true, true, true] [] [x52x, x58x, 
  x59x] (.ixs 1 (.t x58x) (.t x59x)) false [] [] []), (.mk (some x61x) (some (.mk x52x true)) false [] false [true, true, true, true, true, true, true, false, true, true, true] [] 
  [x52x, x60x] (.ld 1 false (.t x60x)) false [] [] []), (.mk (some x62x) (some (.mk x52x true)) true [] false [true, true, true, true, true, true, true, true, true, true, true, 
  true] [] [x52x, x53x, x61x] (.bin .add (.t x53x) (.t x61x)) false [] [] []), (.mk (some x63x) (some (.mk x52x true)) true [] false [false, false, false, false, false, false, 
  false, false, false, false, true, true, true] [] [x52x, x8x] (.mv (.t x8x)) false [] [] []), (.mk (some x64x) (some (.mk x52x true)) true [] false [false, false, false, false, 
  false, false, false, false, false, false, false, true, true, true] [] [x52x, x11x] (.mv (.t x11x)) false [] [] []), (.mk (some x65x) (some (.mk x52x true)) true [] false [true, 
  true, false, false, false, false, false, false, false, false, false, false, true, true, true] [] [x52x, x63x, x64x] (.ixs 1 (.t x63x) (.t x64x)) false [] [] []), (.mk (some x66x) 
  (some (.mk x52x true)) false [] false [true, true, true, false, false, false, false, false, false, false, false, false, false, true, true, true] [] [x52x, x65x] (.ld 1 false (.t 
  x65x)) false [] [] []), (.mk (some x67x) (some (.mk x52x true)) true [] false [false, false, false, false, false, false, false, false, false, false, false, false, false, false, 
  true, true, true] [] [x52x, x10x] (.mv (.t x10x)) false [] [] []), (.mk (some x68x) (some (.mk x52x true)) true [] false [true, true, true, true, true, false, false, false, 
  false, false, false, false, false, false, false, true, true, true] [] [x52x, x66x, x67x] (.ixs 1 (.t x66x) (.t x67x)) false [] [] []), (.mk (some x69x) (some (.mk x52x true)) 
  false [] false [true, true, true, true, true, true, false, false, false, false, false, false, false, false, false, false, true, true, true] [] [x52x, x68x] (.ld 1 false (.t 
  x68x)) false [] [] []), (.mk (some x70x) (some (.mk x52x true)) true [] false [true, true, true, true, true, true, true, true, true, true, true, true, true, true, true, true, 
  true, true, true, true] [] [x52x, x62x, x69x] (.bin .eql (.t x62x) (.t x69x)) false [] [] []), (.mk (some x71x) none true [] false [true, true, true, true, true, true, true, 
  true, true, true, true, true, true, true, true, true, true, true, true, true, true] [] [x52x, x70x] (.pick (.t x52x) (.t x70x) (.c (.b false))) false [] [] [])]) (.cond (.t x71x) 
  (.seq (.reg (.cons (some x72x) none (.mv (.t x9x)) (.cons (some x73x) none (.mv (.t x11x)) (.cons (some x74x) none (.mv (.t x13x)) (.cons (some x75x) none (.ixs 1 (.t x72x) (.t 
  x73x)) (.cons none none (.st 1 (.t x75x) (.t x74x)) .nil)))))) (.seq (.reg (.cons (some x76x) none (.mv (.t x14x)) (.cons (some x10x) none (.mv (.t x76x)) .nil))) (.exit 1))) 
  .skip))))) (.reg (.cons (some x77x) none (.bin .add (.t x42x) (.c (.n 1))) (.cons (some x42x) none (.mv (.t x77x)) .nil))))))))))) (.reg (.cons (some x78x) none (.bin .add (.t 
  x32x) (.c (.n 1))) (.cons (some x32x) none (.mv (.t x78x)) .nil))))))))) (.seq (.reg (.cons (some x79x) none (.mv (.t x9x)) (.cons (some x6x) none (.mv (.t x79x)) (.cons (some 
  x7x) none (.mv (.c (.n 0))) .nil)))) .ret)))))))) [(.tmp x6x), (.tmp x7x)])
theorem cc86 : compF Tryd.prog drops true false Tryd.f86 = some i86 := by kernel_rfl
noncomputable def i87 : FnI := (.mk true true (.seq (.reg (.cons (some x2x) none (.alloc 72 (.cons (.n 0) (.cons (.b false) (.cons (.b false) (.cons (.b false) (.cons (.b false) (.cons (.b false) (.cons (.b 
  false) (.cons (.b false) (.cons (.b false) (.cons (.b false) (.cons (.b false) (.cons (.b false) (.cons (.b false) (.cons (.b false) (.cons (.b false) (.cons (.b false) (.cons 
  (.b false) .nil))))))))))))))))) 17) (.cons (some x3x) none (.mv (.c (.n 0))) .nil))) (.seq (.seq (.reg (.cons (some x8x) none (.mv (.t x0x)) (.cons (some x9x) none (.call 102 
  (.cons (.t x8x) .nil)) (.cons (some x4x) none (.mv (.t x9x)) .nil)))) (.seq (.reg (.cons (some x10x) none (.mv (.t x4x)) (.cons (some x11x) none (.bin .neq (.t x10x) (.c (.n 0))) 
  .nil))) (.cond (.t x11x) (.seq (.reg (.cons (some x12x) none (.build (.cons (.n 0) (.cons (.b false) (.cons (.b false) (.cons (.b false) (.cons (.b false) (.cons (.b false) 
  (.cons (.b false) (.cons (.b false) (.cons (.b false) (.cons (.b false) (.cons (.b false) (.cons (.b false) (.cons (.b false) (.cons (.b false) (.cons (.b false) (.cons (.b 
  false) (.cons (.b false) .nil))))))))))))))))) .nil) (.cons (some x13x) none (.mv (.t x4x)) (.cons none none (.st 17 (.t x2x) (.t x12x)) (.cons (some x3x) none (.mv (.t x13x)) 
  .nil))))) .ret) .skip))) (.seq (.reg (.cons (some x14x) none (.mv (.t x0x)) (.cons (some x15x) none (.len (.t x14x)) (.cons (some x16x) none (.build (.cons (.n 0) (.cons (.b 
  false) (.cons (.b false) (.cons (.b false) (.cons (.b false) (.cons (.b false) (.cons (.b false) (.cons (.b false) (.cons (.b false) (.cons (.b false) (.cons (.b false) (.cons 
  (.b false) (.cons (.b false) (.cons (.b false) (.cons (.b false) (.cons (.b false) (.cons (.b false) .nil))))))))))))))))) (.cons 0 1 (.t x15x) .nil)) (.cons (some x5x) none 
  (.alloc 72 (.cons (.n 0) (.cons (.b false) (.cons (.b false) (.cons (.b false) (.cons (.b false) (.cons (.b false) (.cons (.b false) (.cons (.b false) (.cons (.b false) (.cons 
  (.b false) (.cons (.b false) (.cons (.b false) (.cons (.b false) (.cons (.b false) (.cons (.b false) (.cons (.b false) (.cons (.b false) .nil))))))))))))))))) 17) (.cons none 
  none (.st 17 (.t x5x) (.t x16x)) .nil)))))) (.seq (.seq (.reg (.cons (some x17x) none (.mv (.t x0x)) (.cons (some x18x) none (.len (.t x17x)) (.cons (some x19x) none (.mv (.c (.n 
  0))) .nil)))) (.block 0 (.loop (.seq (.reg (.cons (some x20x) none (.bin .lss (.t x19x) (.t x18x)) .nil)) (.seq (.cond (.t x20x) .skip (.exit 0)) (.seq (.block 1 (.seq (.reg 
  (.cons (some x21x) none (.mv (.t x19x)) (.cons (some x22x) none (.ixs 1 (.t x17x) (.t x19x)) (.cons (some x23x) none (.ld 1 false (.t x22x)) (.cons (some x6x) none (.mv (.t 
  x21x)) (.cons (some x7x) none (.mv (.t x23x)) .nil)))))) (.reg (.cons (some x24x) none (.mv (.t x6x)) (.cons (some x25x) none (.mv (.t x7x)) (.cons (some x26x) none (.bin .eql 
  (.t x25x) (.c (.n 1))) (.cons (some x27x) none (.fad 1 (.t x5x)) (.cons (some x28x) none (.ixa 16 1 (.t x27x) (.t x24x)) (.cons none none (.st 1 (.t x28x) (.t x26x)) 
  .nil))))))))) (.reg (.cons (some x29x) none (.bin .add (.t x19x) (.c (.n 1))) (.cons (some x19x) none (.mv (.t x29x)) .nil))))))))) (.seq (.reg (.cons (some x30x) none (.ld 17 
  true (.t x5x)) (.cons none none (.st 17 (.t x2x) (.t x30x)) (.cons (some x3x) none (.mv (.c (.n 0))) .nil)))) .ret))))) [(.cell x2x 17 true), (.tmp x3x)])
theorem cc87 : compF Tryd.prog drops true true Tryd.f87 = some i87 := by kernel_rfl
noncomputable def i88 : FnI := (.mk true true (.seq (.reg (.cons (some x2x) none (.mv (.c (.n 0))) .nil)) (.seq (.seq (.reg (.cons (some x3x) none (.mv (.t x0x)) (.cons (some x4x) none (.bin .eql (.t x3x) (.c 
  (.i .u32 (.ofNat 0)))) .nil))) (.cond (.t x4x) (.seq (.reg (.cons (some x2x) none (.mv (.c (.n 32))) .nil)) .ret) .skip)) (.seq (.reg (.cons (some x5x) none (.mv (.t x0x)) (.cons 
  (some x6x) none (.mv (.t x0x)) (.cons (some x7x) none (.neg (.t x6x)) (.cons (some x8x) none (.bin .and (.t x5x) (.t x7x)) (.cons (some x9x) none (.bin .mul (.t x8x) (.c (.i .u32 
  (.ofNat 125613361)))) (.cons (some x10x) none (.bin .shr (.t x9x) (.c (.i .u64 (.ofNat 27)))) (.cons (some x11x) none (.ixa 32 1 (.c (.p x1x 0)) (.t x10x)) (.cons (some x12x) 
  none (.ld 1 false (.t x11x)) (.cons (some x13x) none (.conv .i64 (.t x12x)) (.cons (some x2x) none (.mv (.t x13x)) .nil))))))))))) .ret))) [(.tmp x2x)])
theorem cc88 : compF Tryd.prog drops true true Tryd.f88 = some i88 := by kernel_rfl
noncomputable def i89 : FnI := (.mk true true (.seq (.reg (.cons (some x2x) none (.mv (.c (.n 0))) .nil)) (.seq (.seq (.reg (.cons (some x3x) none (.mv (.t x0x)) (.cons (some x4x) none (.bin .eql (.t x3x) (.c 
  (.i .u64 (.ofNat 0)))) .nil))) (.cond (.t x4x) (.seq (.reg (.cons (some x2x) none (.mv (.c (.n 64))) .nil)) .ret) .skip)) (.seq (.reg (.cons (some x5x) none (.mv (.t x0x)) (.cons 
  (some x6x) none (.mv (.t x0x)) (.cons (some x7x) none (.neg (.t x6x)) (.cons (some x8x) none (.bin .and (.t x5x) (.t x7x)) (.cons (some x9x) none (.bin .mul (.t x8x) (.c (.i .u64 
  (.ofNat 285870213051353865)))) (.cons (some x10x) none (.bin .shr (.t x9x) (.c (.i .u64 (.ofNat 58)))) (.cons (some x11x) none (.ixa 64 1 (.c (.p x2x 0)) (.t x10x)) (.cons (some 
  x12x) none (.ld 1 false (.t x11x)) (.cons (some x13x) none (.conv .i64 (.t x12x)) (.cons (some x2x) none (.mv (.t x13x)) .nil))))))))))) .ret))) [(.tmp x2x)])
theorem cc89 : compF Tryd.prog drops true true Tryd.f89 = some i89 := by kernel_rfl
noncomputable def i91 : FnI := (.mk true true (.seq (.reg (.cons (some x4x) none (.mv (.c (.b false))) .nil)) (.seq (.reg (.cons (some x5x) none (.mv (.t x0x)) (.cons (some x6x) none (.mv (.t x1x)) (.cons (some 
  x7x) none (.call 104 (.cons (.t x5x) (.cons (.t x6x) .nil))) (.cons (some x4x) none (.mv (.t x7x)) .nil))))) .ret)) [(.tmp x4x)])
theorem cc91 : compF Tryd.prog drops true true Tryd.f91 = some i91 := by kernel_rfl
noncomputable def i98 : FnI := (.mk false false (.seq (.reg (.cons (some x4x) none (.box 119 (.t x1x)) (.cons (some x6x) none (.mv (.c (.n 0))) .nil))) (.seq (.seq (.reg (.cons (some x11x) none (.mv (.t x0x)) 
  (.cons (some x12x) none (.ld 2 true (.t x4x)) (.cons (some x13x) none (.lkp (.sh (.st (.cons 0 1 false .int (.cons 1 1 false .int .nil)))) (.n 0) true (.t x11x) (.t x12x)) (.cons 
  (some x10x) none (.mv (.t x13x)) (.cons (some x14x) none (.ext 0 (.t x10x)) (.cons (some x15x) none (.ext 1 (.t x10x)) (.cons (some x7x) none (.mv (.t x14x)) (.cons (some x8x) 
  none (.mv (.t x15x)) .nil))))))))) (.seq (.reg (.cons (some x16x) none (.mv (.t x8x)) .nil)) (.cond (.t x16x) (.seq (.reg (.cons (some x17x) none (.mv (.t x7x)) (.cons (some x6x) 
  none (.mv (.t x17x)) .nil))) .ret) .skip))) (.seq (.reg (.cons (some x18x) none (.mv (.t x2x)) (.cons (some x19x) none (.callv (.t x18x) .nil) (.cons (some x9x) none (.mv (.t 
  x19x)) .nil)))) (.seq (.reg (.cons (some x20x) none (.mv (.t x0x)) (.cons (some x21x) none (.ld 2 true (.t x4x)) (.cons (some x22x) none (.mv (.t x9x)) (.cons none none (.mup 
  (.sh (.st (.cons 0 1 false .int (.cons 1 1 false .int .nil)))) (.t x20x) (.t x21x) (.t x22x)) .nil))))) (.seq (.reg (.cons (some x23x) none (.mv (.t x9x)) (.cons (some x6x) none 
  (.mv (.t x23x)) .nil))) .ret))))) [(.tmp x6x)])
theorem cc98 : compF Tryd.prog drops false false Tryd.f98 = some i98 := by kernel_rfl
noncomputable def i99 : FnI := (.mk false false (.seq (.reg (.cons (some x2x) none (.mv (.c (.n 0))) .nil)) (.seq (.reg (.cons (some x3x) none (.mv (.c (.n 0))) .nil)) (.seq (.seq (.reg (.cons (some x6x) none 
  (.fad 0 (.t x0x)) (.cons (some x7x) none (.ld 1 false (.t x6x)) (.cons (some x8x) none (.fad 1 (.t x0x)) (.cons (some x9x) none (.ld 1 false (.t x8x)) (.cons (some x10x) none 
  (.mm false (.t x7x) (.cons (.t x9x) .nil)) (.cons (some x11x) none (.mv (.c (.n 0))) .nil))))))) (.block 0 (.loop (.seq (.reg (.cons (some x12x) none (.bin .lss (.t x11x) (.t 
  x10x)) .nil)) (.seq (.cond (.t x12x) .skip (.exit 0)) (.seq (.block 1 (.seq (.reg (.cons (some x13x) none (.mv (.t x11x)) (.cons (some x4x) none (.mv (.t x13x)) .nil))) (.seq 
  (.reg (.cons (some x14x) none (.mv (.t x4x)) (.cons (some x15x) none (.bin .add (.t x14x) (.c (.n 1))) (.cons (some x5x) none (.mv (.t x15x)) .nil)))) (.reg (.cons (some x16x) 
  none (.mv (.t x3x)) (.cons (some x17x) none (.ld 1 false (.t x1x)) (.cons (some x18x) none (.fad 0 (.t x0x)) (.cons (some x19x) none (.ld 1 false (.t x18x)) (.cons (some x20x) 
  none (.mv (.t x5x)) (.cons (some x21x) none (.bin .sub (.t x19x) (.t x20x)) (.cons (some x22x) none (.mv (.t x5x)) (.cons (some x23x) none (.build (.cons (.n 0) (.cons (.n 0) 
  .nil)) (.cons 0 1 (.t x21x) (.cons 1 1 (.t x22x) .nil))) (.cons (some x24x) none (.call 82 (.cons (.t x17x) (.cons (.t x23x) .nil))) (.cons (some x25x) none (.bin .add (.t x16x) 
  (.t x24x)) (.cons (some x3x) none (.mv (.t x25x)) .nil))))))))))))))) (.reg (.cons (some x26x) none (.bin .add (.t x11x) (.c (.n 1))) (.cons (some x11x) none (.mv (.t x26x)) 
  .nil))))))))) (.seq (.reg (.cons (some x27x) none (.mv (.t x3x)) (.cons (some x2x) none (.mv (.t x27x)) .nil))) .ret)))) [(.tmp x2x)])
theorem cc99 : compF Tryd.prog drops false false Tryd.f99 = some i99 := by kernel_rfl
noncomputable def i100 : FnI := (.mk true true (.seq (.reg (.cons (some x2x) none (.mv (.c (.b false))) .nil)) (.seq (.reg (.cons (some x3x) none (.mv (.t x0x)) (.cons (some x4x) none (.bin .geq (.t x3x) (.c (.n 
  0))) (.cons (some x5x) none (.mv (.t x4x)) (.cons (some x6x) (some (.mk x5x true)) (.mv (.t x0x)) (.cons (some x7x) (some (.mk x5x true)) (.bin .leq (.t x6x) (.c (.n 30))) (.cons 
  (some x8x) none (.pick (.t x5x) (.t x7x) (.c (.b false))) (.cons (some x2x) none (.mv (.t x8x)) .nil)))))))) .ret)) [(.tmp x2x)])
theorem cc100 : compF Tryd.prog drops true true Tryd.f100 = some i100 := by kernel_rfl
noncomputable def i101 : FnI := (.mk true false (.seq (.reg (.cons (some x6x) none (.mv (.c .ns)) .nil)) (.seq (.reg (.cons (some x10x) none (.mv (.t x0x)) (.cons (some x11x) none (.len (.t x10x)) (.cons (some 
  x12x) none (.bin .add (.t x11x) (.c (.n 1))) (.cons (some x13x) none (.mks 22 1 24 1 (.cons .ns .nil) (.t x12x) (.t x12x)) (.cons (some x7x) none (.mv (.t x13x)) .nil)))))) (.seq 
  (.reg (.cons (some x14x) none (.mv (.t x7x)) (.cons (some x15x) none (.mv (.t x0x)) (.cons (some x16x) none (.len (.t x15x)) (.cons (some x17x) none (.mv (.t x2x)) (.cons (some 
  x18x) none (.bin .add (.t x17x) (.c (.n 1))) (.cons (some x19x) none (.mks 3 1 8 1 (.cons (.n 0) .nil) (.t x18x) (.t x18x)) (.cons (some x20x) none (.ixs 1 (.t x14x) (.t x16x)) 
  (.cons none none (.st 1 (.t x20x) (.t x19x)) .nil))))))))) (.seq (.seq (.reg (.cons (some x8x) none (.mv (.c (.n 1))) .nil)) (.block 0 (.loop (.seq (.seq (.reg (.cons (some x21x) 
  none (.mv (.t x8x)) (.cons (some x22x) none (.mv (.t x2x)) (.cons (some x23x) none (.bin .leq (.t x21x) (.t x22x)) .nil)))) (.cond (.t x23x) .skip (.exit 0))) (.seq (.block 1 
  (.reg (.cons (some x26x) none (.mv (.t x7x)) (.cons (some x27x) none (.mv (.t x0x)) (.cons (some x28x) none (.len (.t x27x)) (.cons (some x29x) none (.ixs 1 (.t x26x) (.t x28x)) 
  (.cons (some x30x) none (.ld 1 false (.t x29x)) (.cons (some x31x) none (.mv (.t x8x)) (.cons (some x32x) none (.ixs 1 (.t x30x) (.t x31x)) (.cons none none (.st 1 (.t x32x) (.c 
  (.n 1001))) .nil)))))))))) (.reg (.cons (some x24x) none (.mv (.t x8x)) (.cons (some x25x) none (.bin .add (.t x24x) (.c (.n 1))) (.cons (some x8x) none (.mv (.t x25x)) 
  .nil))))))))) (.seq (.seq (.reg (.cons (some x33x) none (.mv (.t x0x)) (.cons (some x34x) none (.len (.t x33x)) (.cons (some x35x) none (.bin .sub (.t x34x) (.c (.n 1))) (.cons 
  (some x9x) none (.mv (.t x35x)) .nil))))) (.block 2 (.loop (.seq (.seq (.reg (.cons (some x36x) none (.mv (.t x9x)) (.cons (some x37x) none (.bin .geq (.t x36x) (.c (.n 0))) 
  .nil))) (.cond (.t x37x) .skip (.exit 2))) (.seq (.block 3 (.draw [(.mk (some x40x) none true [] false [] [] [x7x] (.mv (.t x7x)) false [] [] []), (.mk (some x41x) none true [] 
  false [false] [] [x9x] (.mv (.t x9x)) false [] [] []), (.mk (some x42x) none true [] false [false, false] [] [x7x] (.mv (.t x7x)) false [] [] []), (.mk (some x43x) none true [] 
  false [false, false, false] [] [x9x] (.mv (.t x9x)) false [] [] []), (.mk (some x44x) none true [] false [true, false, false, false] [] [x43x] (.bin .add (.t x43x) (.c (.n 1))) 
  false [] [] []), (.mk (some x45x) none true [] false [true, true, true, false, false] [] [x42x, x44x] (.ixs 1 (.t x42x) (.t x44x)) false [] [] []), (.mk (some x46x) none false [] 
  false [true, true, true, true, false, false] [] [x45x] (.ld 1 false (.t x45x)) false [] [] []), (.mk (some x47x) none true [] false [false, false, false, false, false, false, 
  false] [] [x0x] (.mv (.t x0x)) false [] [] []), (.mk (some x48x) none true [] false [false, false, false, false, false, false, false, false] [] [x9x] (.mv (.t x9x)) false [] [] 
  []), (.mk (some x49x) none true [] false [true, true, false, false, false, false, false, false, false] [] [x47x, x48x] (.ixs 1 (.t x47x) (.t x48x)) false [] [] []), (.mk (some 
  x50x) none false [] false [true, true, true, false, false, false, false, false, false, false] [] [x49x] (.ld 1 false (.t x49x)) false [] [] []), (.mk (some x51x) none true [] 
  false [false, false, false, false, false, false, false, false, false, false, false] [] [x1x] (.mv (.t x1x)) false [] [] []), (.mk (some x52x) none true [] false [false, false, 
  false, false, false, false, false, false, false, false, false, false] [] [x9x] (.mv (.t x9x)) false [] [] []), (.mk (some x53x) none true [] false [true, true, false, false, 
  false, false, false, false, false, false, false, false, false] [] [x51x, x52x] (.ixs 1 (.t x51x) (.t x52x)) false [] [] []), (.mk (some x54x) none false [] false [true, true, 
  true, false, false, false, false, false, false, false, false, false, false, false] [] [x53x] (.ld 1 false (.t x53x)) false [] [] []), (.mk (some x55x) none false [] true [true, 
  true, true, true, true, true, true, true, true, true, true, true, true, false, false] [] [x46x, x50x, x54x] (.call 109 (.cons (.t x46x) (.cons (.t x50x) (.cons (.t x54x) .nil)))) 
  false [] [] []), (.mk (some x56x) none true [] false [true, true, true, true, true, true, true, true, true, true, true, true, true, true, true, true] [] [x40x, x41x] (.ixs 1 (.t 
  x40x) (.t x41x)) false [] [] []), (.mk none none false [x56x] false [true, true, true, true, true, true, true, true, true, true, true, true, true, true, true, true, true] [] 
  [x56x, x55x] (.st 1 (.t x56x) (.t x55x)) false [] [] [])])) (.reg (.cons (some x38x) none (.mv (.t x9x)) (.cons (some x39x) none (.bin .sub (.t x38x) (.c (.n 1))) (.cons (some 
  x9x) none (.mv (.t x39x)) .nil))))))))) (.seq (.reg (.cons (some x57x) none (.mv (.t x7x)) (.cons (some x6x) none (.mv (.t x57x)) .nil))) .ret)))))) [(.tmp x6x)])
theorem cc101 : compF Tryd.prog drops true false Tryd.f101 = some i101 := by kernel_rfl
noncomputable def i102 : FnI := (.mk true true (.seq (.reg (.cons (some x2x) none (.mv (.c (.n 0))) .nil)) (.seq (.seq (.reg (.cons (some x5x) none (.mv (.t x0x)) (.cons (some x6x) none (.len (.t x5x)) (.cons 
  (some x7x) none (.bin .eql (.t x6x) (.c (.n 0))) .nil)))) (.cond (.t x7x) (.seq (.reg (.cons (some x2x) none (.mv (.c (.n 4))) .nil)) .ret) .skip)) (.seq (.seq (.reg (.cons (some 
  x8x) none (.mv (.t x0x)) (.cons (some x9x) none (.len (.t x8x)) (.cons (some x10x) none (.bin .gtr (.t x9x) (.c (.n 16))) .nil)))) (.cond (.t x10x) (.seq (.reg (.cons (some x2x) 
  none (.mv (.c (.n 3))) .nil)) .ret) .skip)) (.seq (.seq (.reg (.cons (some x11x) none (.mv (.t x0x)) (.cons (some x12x) none (.len (.t x11x)) (.cons (some x13x) none (.mv (.c (.n 
  0))) .nil)))) (.block 0 (.loop (.seq (.reg (.cons (some x14x) none (.bin .lss (.t x13x) (.t x12x)) .nil)) (.seq (.cond (.t x14x) .skip (.exit 0)) (.seq (.block 1 (.seq (.reg 
  (.cons (some x15x) none (.ixs 1 (.t x11x) (.t x13x)) (.cons (some x16x) none (.ld 1 false (.t x15x)) (.cons (some x4x) none (.mv (.t x16x)) .nil)))) (.seq (.reg (.cons (some 
  x17x) none (.mv (.t x4x)) (.cons (some x18x) none (.bin .neq (.t x17x) (.c (.n 0))) (.cons (some x19x) none (.mv (.t x18x)) (.cons (some x20x) (some (.mk x19x true)) (.mv (.t 
  x4x)) (.cons (some x21x) (some (.mk x19x true)) (.bin .neq (.t x20x) (.c (.n 1))) (.cons (some x22x) none (.pick (.t x19x) (.t x21x) (.c (.b false))) .nil))))))) (.cond (.t x22x) 
  (.seq (.reg (.cons (some x2x) none (.mv (.c (.n 1))) .nil)) .ret) .skip)))) (.reg (.cons (some x23x) none (.bin .add (.t x13x) (.c (.n 1))) (.cons (some x13x) none (.mv (.t 
  x23x)) .nil))))))))) (.seq (.reg (.cons (some x2x) none (.mv (.c (.n 0))) .nil)) .ret))))) [(.tmp x2x)])
theorem cc102 : compF Tryd.prog drops true true Tryd.f102 = some i102 := by kernel_rfl
noncomputable def i104 : FnI := (.mk true true (.seq (.reg (.cons (some x4x) none (.mv (.c (.b false))) .nil)) (.seq (.reg (.cons (some x5x) none (.mv (.t x0x)) (.cons (some x6x) none (.slen (.t x5x)) (.cons 
  (some x7x) none (.mv (.t x1x)) (.cons (some x8x) none (.slen (.t x7x)) (.cons (some x9x) none (.bin .geq (.t x6x) (.t x8x)) (.cons (some x10x) none (.mv (.t x9x)) (.cons (some 
  x11x) (some (.mk x10x true)) (.mv (.t x0x)) (.cons (some x12x) (some (.mk x10x true)) (.mv (.t x0x)) (.cons (some x13x) (some (.mk x10x true)) (.slen (.t x12x)) (.cons (some 
  x14x) (some (.mk x10x true)) (.mv (.t x1x)) (.cons (some x15x) (some (.mk x10x true)) (.slen (.t x14x)) (.cons (some x16x) (some (.mk x10x true)) (.bin .sub (.t x13x) (.t x15x)) 
  (.cons (some x17x) (some (.mk x10x true)) (.ssl (.t x11x) (some (.t x16x)) none) (.cons (some x18x) (some (.mk x10x true)) (.mv (.t x1x)) (.cons (some x19x) (some (.mk x10x 
  true)) (.sbi .eql (.t x17x) (.t x18x)) (.cons (some x20x) none (.pick (.t x10x) (.t x19x) (.c (.b false))) (.cons (some x4x) none (.mv (.t x20x)) .nil)))))))))))))))))) .ret)) 
  [(.tmp x4x)])
theorem cc104 : compF Tryd.prog drops true true Tryd.f104 = some i104 := by kernel_rfl
noncomputable def i109 : FnI := (.mk true false (.seq (.reg (.cons (some x6x) none (.mv (.c .ns)) .nil)) (.seq (.reg (.cons (some x10x) none (.mv (.t x0x)) (.cons (some x11x) none (.len (.t x10x)) (.cons (some 
  x12x) none (.mks 3 1 8 1 (.cons (.n 0) .nil) (.t x11x) (.t x11x)) (.cons (some x7x) none (.mv (.t x12x)) .nil))))) (.seq (.seq (.reg (.cons (some x13x) none (.mv (.t x7x)) (.cons 
  (some x14x) none (.len (.t x13x)) (.cons (some x15x) none (.mv (.c (.n 0))) .nil)))) (.block 0 (.loop (.seq (.reg (.cons (some x16x) none (.bin .lss (.t x15x) (.t x14x)) .nil)) 
  (.seq (.cond (.t x16x) .skip (.exit 0)) (.seq (.block 1 (.seq (.reg (.cons (some x17x) none (.mv (.t x15x)) (.cons (some x8x) none (.mv (.t x17x)) .nil))) (.seq (.reg (.cons 
  (some x18x) none (.mv (.t x7x)) (.cons (some x19x) none (.mv (.t x8x)) (.cons (some x20x) none (.ixs 1 (.t x18x) (.t x19x)) (.cons none none (.st 1 (.t x20x) (.c (.n 1001))) 
  .nil))))) (.seq (.reg (.cons (some x9x) none (.mv (.c (.n 0))) .nil)) (.block 2 (.loop (.seq (.seq (.reg (.cons (some x21x) none (.mv (.t x9x)) (.cons (some x22x) none (.mv (.t 
  x2x)) (.cons (some x23x) none (.bin .leq (.t x21x) (.t x22x)) (.cons (some x24x) none (.mv (.t x23x)) (.cons (some x25x) (some (.mk x24x true)) (.mv (.t x9x)) (.cons (some x26x) 
  (some (.mk x24x true)) (.mv (.t x1x)) (.cons (some x27x) (some (.mk x24x true)) (.bin .mul (.t x25x) (.t x26x)) (.cons (some x28x) (some (.mk x24x true)) (.mv (.t x8x)) (.cons 
  (some x29x) (some (.mk x24x true)) (.bin .leq (.t x27x) (.t x28x)) (.cons (some x30x) none (.pick (.t x24x) (.t x29x) (.c (.b false))) .nil))))))))))) (.cond (.t x30x) .skip 
  (.exit 2))) (.seq (.block 3 (.draw [(.mk (some x33x) none true [] false [] [] [x7x] (.mv (.t x7x)) false [] [] []), (.mk (some x34x) none true [] false [false] [] [x8x] (.mv (.t 
  x8x)) false [] [] []), (.mk (some x35x) none true [] false [false, false] [] [x7x] (.mv (.t x7x)) false [] [] []), (.mk (some x36x) none true [] false [false, false, false] [] 
  [x8x] (.mv (.t x8x)) false [] [] []), (.mk (some x37x) none true [] false [true, true, false, false] [] [x35x, x36x] (.ixs 1 (.t x35x) (.t x36x)) false [] [] []), (.mk (some 
  x38x) none false [] false [true, true, true, false, false] [] [x37x] (.ld 1 false (.t x37x)) false [] [] []), (.mk (some x39x) none true [] false [false, false, false, false, 
  false, false] [] [x9x] (.mv (.t x9x)) false [] [] []), (.mk (some x40x) none true [] false [false, false, false, false, false, false, false] [] [x0x] (.mv (.t x0x)) false [] [] 
  []), (.mk (some x41x) none true [] false [false, false, false, false, false, false, false, false] [] [x8x] (.mv (.t x8x)) false [] [] []), (.mk (some x42x) none true [] false 
  [false, false, false, false, false, false, false, false, false] [] [x9x] (.mv (.t x9x)) false [] [] []), (.mk (some x43x) none true [] false [false, false, false, false, false, 
  false, false, false, false, false] [] [x1x] (.mv (.t x1x)) false [] [] []), (.mk (some x44x) none true [] false [true, true, false, false, false, false, false, false, false, 
  false, false] [] [x42x, x43x] (.bin .mul (.t x42x) (.t x43x)) false [] [] []), (.mk (some x45x) none true [] false [true, true, true, true, false, false, false, false, false, 
  false, false, false] [] [x41x, x44x] (.bin .sub (.t x41x) (.t x44x)) false [] [] []), (.mk (some x46x) none true [] false [true, true, true, true, true, true, false, false, 
  false, false, false, false, false] [] [x40x, x45x] (.ixs 1 (.t x40x) (.t x45x)) false [] [] []), (.mk (some x47x) none false [] false [true, true, true, true, true, true, true, 
  false, false, false, false, false, false, false] [] [x46x] (.ld 1 false (.t x46x)) false [] [] []), (.mk (some x48x) none true [] false [true, true, true, true, true, true, true, 
  true, true, false, false, false, false, false, false] [] [x39x, x47x] (.bin .add (.t x39x) (.t x47x)) false [] [] []), (.mk (some x49x) none true [] false [true, true, true, 
  true, true, true, true, true, true, true, true, true, true, true, false, false] [] [x38x, x48x] (.mm false (.t x38x) (.cons (.t x48x) .nil)) false [] [] []), (.mk (some x50x) 
  none true [] false [true, true, true, true, true, true, true, true, true, true, true, true, true, true, true, true, true] [] [x33x, x34x] (.ixs 1 (.t x33x) (.t x34x)) false [] [] 
  []), (.mk none none false [x50x] false [true, true, true, true, true, true, true, true, true, true, true, true, true, true, true, true, true, true] [] [x50x, x49x] (.st 1 (.t 
  x50x) (.t x49x)) false [] [] [])])) (.reg (.cons (some x31x) none (.mv (.t x9x)) (.cons (some x32x) none (.bin .add (.t x31x) (.c (.n 1))) (.cons (some x9x) none (.mv (.t x32x)) 
  .nil)))))))))))) (.reg (.cons (some x51x) none (.bin .add (.t x15x) (.c (.n 1))) (.cons (some x15x) none (.mv (.t x51x)) .nil))))))))) (.seq (.reg (.cons (some x52x) none (.mv 
  (.t x7x)) (.cons (some x6x) none (.mv (.t x52x)) .nil))) .ret)))) [(.tmp x6x)])
theorem cc109 : compF Tryd.prog drops true false Tryd.f109 = some i109 := by kernel_rfl
noncomputable def fs109 : List (Nat × FnI) := (109, i109) :: []
theorem l109 : Listed Tryd.prog fs109 := listed_cons Tryd.func109 cc109 listed_nil (by decide)
noncomputable def fs104 : List (Nat × FnI) := (104, i104) :: fs109
theorem l104 : Listed Tryd.prog fs104 := listed_cons Tryd.func104 cc104 l109 (by decide)
noncomputable def fs102 : List (Nat × FnI) := (102, i102) :: fs104
theorem l102 : Listed Tryd.prog fs102 := listed_cons Tryd.func102 cc102 l104 (by decide)
noncomputable def fs101 : List (Nat × FnI) := (101, i101) :: fs102
theorem l101 : Listed Tryd.prog fs101 := listed_cons Tryd.func101 cc101 l102 (by decide)
noncomputable def fs100 : List (Nat × FnI) := (100, i100) :: fs101
theorem l100 : Listed Tryd.prog fs100 := listed_cons Tryd.func100 cc100 l101 (by decide)
noncomputable def fs99 : List (Nat × FnI) := (99, i99) :: fs100
theorem l99 : Listed Tryd.prog fs99 := listed_cons Tryd.func99 cc99 l100 (by decide)
noncomputable def fs98 : List (Nat × FnI) := (98, i98) :: fs99
theorem l98 : Listed Tryd.prog fs98 := listed_cons Tryd.func98 cc98 l99 (by decide)
noncomputable def fs91 : List (Nat × FnI) := (91, i91) :: fs98
theorem l91 : Listed Tryd.prog fs91 := listed_cons Tryd.func91 cc91 l98 (by decide)
noncomputable def fs89 : List (Nat × FnI) := (89, i89) :: fs91
theorem l89 : Listed Tryd.prog fs89 := listed_cons Tryd.func89 cc89 l91 (by decide)
noncomputable def fs88 : List (Nat × FnI) := (88, i88) :: fs89
theorem l88 : Listed Tryd.prog fs88 := listed_cons Tryd.func88 cc88 l89 (by decide)
noncomputable def fs87 : List (Nat × FnI) := (87, i87) :: fs88
theorem l87 : Listed Tryd.prog fs87 := listed_cons Tryd.func87 cc87 l88 (by decide)
noncomputable def fs86 : List (Nat × FnI) := (86, i86) :: fs87
theorem l86 : Listed Tryd.prog fs86 := listed_cons Tryd.func86 cc86 l87 (by decide)
noncomputable def fs85 : List (Nat × FnI) := (85, i85) :: fs86
theorem l85 : Listed Tryd.prog fs85 := listed_cons Tryd.func85 cc85 l86 (by decide)
noncomputable def fs84 : List (Nat × FnI) := (84, i84) :: fs85
theorem l84 : Listed Tryd.prog fs84 := listed_cons Tryd.func84 cc84 l85 (by decide)
noncomputable def fs83 : List (Nat × FnI) := (83, i83) :: fs84
theorem l83 : Listed Tryd.prog fs83 := listed_cons Tryd.func83 cc83 l84 (by decide)
noncomputable def fs82 : List (Nat × FnI) := (82, i82) :: fs83
theorem l82 : Listed Tryd.prog fs82 := listed_cons Tryd.func82 cc82 l83 (by decide)
noncomputable def fs81 : List (Nat × FnI) := (81, i81) :: fs82
theorem l81 : Listed Tryd.prog fs81 := listed_cons Tryd.func81 cc81 l82 (by decide)
noncomputable def fs80 : List (Nat × FnI) := (80, i80) :: fs81
theorem l80 : Listed Tryd.prog fs80 := listed_cons Tryd.func80 cc80 l81 (by decide)
noncomputable def fs79 : List (Nat × FnI) := (79, i79) :: fs80
theorem l79 : Listed Tryd.prog fs79 := listed_cons Tryd.func79 cc79 l80 (by decide)
noncomputable def fs75 : List (Nat × FnI) := (75, i75) :: fs79
theorem l75 : Listed Tryd.prog fs75 := listed_cons Tryd.func75 cc75 l79 (by decide)
noncomputable def fs74 : List (Nat × FnI) := (74, i74) :: fs75
theorem l74 : Listed Tryd.prog fs74 := listed_cons Tryd.func74 cc74 l75 (by decide)
noncomputable def fs73 : List (Nat × FnI) := (73, i73) :: fs74
theorem l73 : Listed Tryd.prog fs73 := listed_cons Tryd.func73 cc73 l74 (by decide)
noncomputable def fs72 : List (Nat × FnI) := (72, i72) :: fs73
theorem l72 : Listed Tryd.prog fs72 := listed_cons Tryd.func72 cc72 l73 (by decide)
noncomputable def fs71 : List (Nat × FnI) := (71, i71) :: fs72
theorem l71 : Listed Tryd.prog fs71 := listed_cons Tryd.func71 cc71 l72 (by decide)
noncomputable def fs70 : List (Nat × FnI) := (70, i70) :: fs71
theorem l70 : Listed Tryd.prog fs70 := listed_cons Tryd.func70 cc70 l71 (by decide)
noncomputable def fs69 : List (Nat × FnI) := (69, i69) :: fs70
theorem l69 : Listed Tryd.prog fs69 := listed_cons Tryd.func69 cc69 l70 (by decide)
noncomputable def fs68 : List (Nat × FnI) := (68, i68) :: fs69
theorem l68 : Listed Tryd.prog fs68 := listed_cons Tryd.func68 cc68 l69 (by decide)
noncomputable def fs67 : List (Nat × FnI) := (67, i67) :: fs68
theorem l67 : Listed Tryd.prog fs67 := listed_cons Tryd.func67 cc67 l68 (by decide)
noncomputable def fs66 : List (Nat × FnI) := (66, i66) :: fs67
theorem l66 : Listed Tryd.prog fs66 := listed_cons Tryd.func66 cc66 l67 (by decide)
noncomputable def fs65 : List (Nat × FnI) := (65, i65) :: fs66
theorem l65 : Listed Tryd.prog fs65 := listed_cons Tryd.func65 cc65 l66 (by decide)
noncomputable def fs64 : List (Nat × FnI) := (64, i64) :: fs65
theorem l64 : Listed Tryd.prog fs64 := listed_cons Tryd.func64 cc64 l65 (by decide)
noncomputable def fs63 : List (Nat × FnI) := (63, i63) :: fs64
theorem l63 : Listed Tryd.prog fs63 := listed_cons Tryd.func63 cc63 l64 (by decide)
noncomputable def fs62 : List (Nat × FnI) := (62, i62) :: fs63
theorem l62 : Listed Tryd.prog fs62 := listed_cons Tryd.func62 cc62 l63 (by decide)
noncomputable def fs61 : List (Nat × FnI) := (61, i61) :: fs62
theorem l61 : Listed Tryd.prog fs61 := listed_cons Tryd.func61 cc61 l62 (by decide)
noncomputable def fs60 : List (Nat × FnI) := (60, i60) :: fs61
theorem l60 : Listed Tryd.prog fs60 := listed_cons Tryd.func60 cc60 l61 (by decide)
noncomputable def fs59 : List (Nat × FnI) := (59, i59) :: fs60
theorem l59 : Listed Tryd.prog fs59 := listed_cons Tryd.func59 cc59 l60 (by decide)
noncomputable def fs58 : List (Nat × FnI) := (58, i58) :: fs59
theorem l58 : Listed Tryd.prog fs58 := listed_cons Tryd.func58 cc58 l59 (by decide)
noncomputable def fs57 : List (Nat × FnI) := (57, i57) :: fs58
theorem l57 : Listed Tryd.prog fs57 := listed_cons Tryd.func57 cc57 l58 (by decide)
noncomputable def fs56 : List (Nat × FnI) := (56, i56) :: fs57
theorem l56 : Listed Tryd.prog fs56 := listed_cons Tryd.func56 cc56 l57 (by decide)
noncomputable def fs55 : List (Nat × FnI) := (55, i55) :: fs56
theorem l55 : Listed Tryd.prog fs55 := listed_cons Tryd.func55 cc55 l56 (by decide)
noncomputable def fs54 : List (Nat × FnI) := (54, i54) :: fs55
theorem l54 : Listed Tryd.prog fs54 := listed_cons Tryd.func54 cc54 l55 (by decide)
noncomputable def fs53 : List (Nat × FnI) := (53, i53) :: fs54
theorem l53 : Listed Tryd.prog fs53 := listed_cons Tryd.func53 cc53 l54 (by decide)
noncomputable def fs51 : List (Nat × FnI) := (51, i51) :: fs53
theorem l51 : Listed Tryd.prog fs51 := listed_cons Tryd.func51 cc51 l53 (by decide)
noncomputable def fs50 : List (Nat × FnI) := (50, i50) :: fs51
theorem l50 : Listed Tryd.prog fs50 := listed_cons Tryd.func50 cc50 l51 (by decide)
noncomputable def fs49 : List (Nat × FnI) := (49, i49) :: fs50
theorem l49 : Listed Tryd.prog fs49 := listed_cons Tryd.func49 cc49 l50 (by decide)
noncomputable def fs48 : List (Nat × FnI) := (48, i48) :: fs49
theorem l48 : Listed Tryd.prog fs48 := listed_cons Tryd.func48 cc48 l49 (by decide)
noncomputable def fs47 : List (Nat × FnI) := (47, i47) :: fs48
theorem l47 : Listed Tryd.prog fs47 := listed_cons Tryd.func47 cc47 l48 (by decide)
noncomputable def fs46 : List (Nat × FnI) := (46, i46) :: fs47
theorem l46 : Listed Tryd.prog fs46 := listed_cons Tryd.func46 cc46 l47 (by decide)
noncomputable def fs45 : List (Nat × FnI) := (45, i45) :: fs46
theorem l45 : Listed Tryd.prog fs45 := listed_cons Tryd.func45 cc45 l46 (by decide)
noncomputable def fs44 : List (Nat × FnI) := (44, i44) :: fs45
theorem l44 : Listed Tryd.prog fs44 := listed_cons Tryd.func44 cc44 l45 (by decide)
noncomputable def fs43 : List (Nat × FnI) := (43, i43) :: fs44
theorem l43 : Listed Tryd.prog fs43 := listed_cons Tryd.func43 cc43 l44 (by decide)
noncomputable def fs42 : List (Nat × FnI) := (42, i42) :: fs43
theorem l42 : Listed Tryd.prog fs42 := listed_cons Tryd.func42 cc42 l43 (by decide)
noncomputable def fs41 : List (Nat × FnI) := (41, i41) :: fs42
theorem l41 : Listed Tryd.prog fs41 := listed_cons Tryd.func41 cc41 l42 (by decide)
noncomputable def fs40 : List (Nat × FnI) := (40, i40) :: fs41
theorem l40 : Listed Tryd.prog fs40 := listed_cons Tryd.func40 cc40 l41 (by decide)
noncomputable def fs39 : List (Nat × FnI) := (39, i39) :: fs40
theorem l39 : Listed Tryd.prog fs39 := listed_cons Tryd.func39 cc39 l40 (by decide)
noncomputable def fs38 : List (Nat × FnI) := (38, i38) :: fs39
theorem l38 : Listed Tryd.prog fs38 := listed_cons Tryd.func38 cc38 l39 (by decide)
noncomputable def fs37 : List (Nat × FnI) := (37, i37) :: fs38
theorem l37 : Listed Tryd.prog fs37 := listed_cons Tryd.func37 cc37 l38 (by decide)
noncomputable def fs36 : List (Nat × FnI) := (36, i36) :: fs37
theorem l36 : Listed Tryd.prog fs36 := listed_cons Tryd.func36 cc36 l37 (by decide)
noncomputable def fs35 : List (Nat × FnI) := (35, i35) :: fs36
theorem l35 : Listed Tryd.prog fs35 := listed_cons Tryd.func35 cc35 l36 (by decide)
noncomputable def fs34 : List (Nat × FnI) := (34, i34) :: fs35
theorem l34 : Listed Tryd.prog fs34 := listed_cons Tryd.func34 cc34 l35 (by decide)
noncomputable def fs33 : List (Nat × FnI) := (33, i33) :: fs34
theorem l33 : Listed Tryd.prog fs33 := listed_cons Tryd.func33 cc33 l34 (by decide)
noncomputable def fs32 : List (Nat × FnI) := (32, i32) :: fs33
theorem l32 : Listed Tryd.prog fs32 := listed_cons Tryd.func32 cc32 l33 (by decide)
noncomputable def fs31 : List (Nat × FnI) := (31, i31) :: fs32
theorem l31 : Listed Tryd.prog fs31 := listed_cons Tryd.func31 cc31 l32 (by decide)
noncomputable def fs30 : List (Nat × FnI) := (30, i30) :: fs31
theorem l30 : Listed Tryd.prog fs30 := listed_cons Tryd.func30 cc30 l31 (by decide)
noncomputable def fs29 : List (Nat × FnI) := (29, i29) :: fs30
theorem l29 : Listed Tryd.prog fs29 := listed_cons Tryd.func29 cc29 l30 (by decide)
noncomputable def fs28 : List (Nat × FnI) := (28, i28) :: fs29
theorem l28 : Listed Tryd.prog fs28 := listed_cons Tryd.func28 cc28 l29 (by decide)
noncomputable def fs27 : List (Nat × FnI) := (27, i27) :: fs28
theorem l27 : Listed Tryd.prog fs27 := listed_cons Tryd.func27 cc27 l28 (by decide)
noncomputable def fs26 : List (Nat × FnI) := (26, i26) :: fs27
theorem l26 : Listed Tryd.prog fs26 := listed_cons Tryd.func26 cc26 l27 (by decide)
noncomputable def fs25 : List (Nat × FnI) := (25, i25) :: fs26
theorem l25 : Listed Tryd.prog fs25 := listed_cons Tryd.func25 cc25 l26 (by decide)
noncomputable def fs24 : List (Nat × FnI) := (24, i24) :: fs25
theorem l24 : Listed Tryd.prog fs24 := listed_cons Tryd.func24 cc24 l25 (by decide)
noncomputable def fs23 : List (Nat × FnI) := (23, i23) :: fs24
theorem l23 : Listed Tryd.prog fs23 := listed_cons Tryd.func23 cc23 l24 (by decide)
noncomputable def fs22 : List (Nat × FnI) := (22, i22) :: fs23
theorem l22 : Listed Tryd.prog fs22 := listed_cons Tryd.func22 cc22 l23 (by decide)
noncomputable def fs21 : List (Nat × FnI) := (21, i21) :: fs22
theorem l21 : Listed Tryd.prog fs21 := listed_cons Tryd.func21 cc21 l22 (by decide)
noncomputable def fs19 : List (Nat × FnI) := (19, i19) :: fs21
theorem l19 : Listed Tryd.prog fs19 := listed_cons Tryd.func19 cc19 l21 (by decide)
noncomputable def fs18 : List (Nat × FnI) := (18, i18) :: fs19
theorem l18 : Listed Tryd.prog fs18 := listed_cons Tryd.func18 cc18 l19 (by decide)
noncomputable def fs17 : List (Nat × FnI) := (17, i17) :: fs18
theorem l17 : Listed Tryd.prog fs17 := listed_cons Tryd.func17 cc17 l18 (by decide)
noncomputable def fs16 : List (Nat × FnI) := (16, i16) :: fs17
theorem l16 : Listed Tryd.prog fs16 := listed_cons Tryd.func16 cc16 l17 (by decide)
noncomputable def fs15 : List (Nat × FnI) := (15, i15) :: fs16
theorem l15 : Listed Tryd.prog fs15 := listed_cons Tryd.func15 cc15 l16 (by decide)
noncomputable def fs14 : List (Nat × FnI) := (14, i14) :: fs15
theorem l14 : Listed Tryd.prog fs14 := listed_cons Tryd.func14 cc14 l15 (by decide)
noncomputable def fs13 : List (Nat × FnI) := (13, i13) :: fs14
theorem l13 : Listed Tryd.prog fs13 := listed_cons Tryd.func13 cc13 l14 (by decide)
noncomputable def fs12 : List (Nat × FnI) := (12, i12) :: fs13
theorem l12 : Listed Tryd.prog fs12 := listed_cons Tryd.func12 cc12 l13 (by decide)
noncomputable def fs11 : List (Nat × FnI) := (11, i11) :: fs12
theorem l11 : Listed Tryd.prog fs11 := listed_cons Tryd.func11 cc11 l12 (by decide)
noncomputable def fs10 : List (Nat × FnI) := (10, i10) :: fs11
theorem l10 : Listed Tryd.prog fs10 := listed_cons Tryd.func10 cc10 l11 (by decide)
noncomputable def fs9 : List (Nat × FnI) := (9, i9) :: fs10
theorem l9 : Listed Tryd.prog fs9 := listed_cons Tryd.func9 cc9 l10 (by decide)
noncomputable def fs8 : List (Nat × FnI) := (8, i8) :: fs9
theorem l8 : Listed Tryd.prog fs8 := listed_cons Tryd.func8 cc8 l9 (by decide)
noncomputable def fs7 : List (Nat × FnI) := (7, i7) :: fs8
theorem l7 : Listed Tryd.prog fs7 := listed_cons Tryd.func7 cc7 l8 (by decide)
noncomputable def fs6 : List (Nat × FnI) := (6, i6) :: fs7
theorem l6 : Listed Tryd.prog fs6 := listed_cons Tryd.func6 cc6 l7 (by decide)
noncomputable def FS : List (Nat × FnI) := fs6
theorem listed : Listed Tryd.prog FS := l6
noncomputable def cmp : Nat → Code → Option IC := fun N c => compC Tryd.prog drops N c
noncomputable def PRT : FT := FT.of FS
noncomputable def EQ (W : FF → FF) (d : Nat) : FF := evQ cmp PRT W d
noncomputable def EF (d : Nat) : FF := EQ (fun G => G) d
theorem follows : Tryd.prog.follows .mixedOrders = true := by kernel_rfl
theorem EQ_ok {W : FF → FF} (hM : ∀ G, FF.mono G → (W G).mono) (hW : ∀ G, FOK Tryd.prog G → FOK Tryd.prog (W G)) (d : Nat) : FOK Tryd.prog (EQ W d) := evQ_sound follows listed hM hW d
theorem EQ_mono {W : FF → FF} (hM : ∀ G, FF.mono G → (W G).mono) (d : Nat) : (EQ W d).mono := evQ_mono _ _ hM d
theorem EF_ok (d : Nat) : FOK Tryd.prog (EF d) := EQ_ok (fun _ h => h) (fun _ h => h) d
theorem EF_mono (d : Nat) : (EF d).mono := EQ_mono (fun _ h => h) d
def zs64 : List Int := [0, 1, 56, 2, 57, 49, 28, 3, 61, 58, 42, 50, 38, 29, 17, 4, 62, 47, 59, 36, 45, 43, 51, 22, 53, 39, 33, 30, 24, 18, 12, 5, 63, 55, 48, 27, 60, 41, 37, 16, 46, 35, 44, 21, 52, 32, 23, 11, 54, 26, 40, 15, 34, 20, 31, 10, 25, 14, 19, 9, 13, 8, 7, 6]
noncomputable def tbH (el : TypeId) : Hp := tabH [(2, el, kL .u8 zs64)]
end Go.Proofs.YtkbagfcklodfnaaDoor.Ev
