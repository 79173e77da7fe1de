/- The texts TbbL. -/
import Derived.Test.YtblgmohafnpecaaGreatDoorQ6
import Derived.Test.YtblgmohafnpecaaGreatDoorProg
import Derived.KernelRfl
/- The compiled code of the functions that divisions, quarrels and the layers before them reach, in full. -/
namespace Go.Proofs.YtblgmohafnpecaaGreatDoor.Ev
set_option linter.unusedVariables false
set_option maxRecDepth 100000
open Go Go.Proofs Go.RowKit
def drops : List Nat := [3, 4, 7, 10, 11, 13, 17, 18, 19, 20, 23, 24, 25, 27, 29, 32, 39, 42, 45, 46, 48, 50, 51, 53, 54, 56, 57, 58, 60, 61, 62, 63, 64, 65, 66, 67, 68, 73, 74, 76, 77, 78, 79, 80, 81, 83, 85, 86, 87, 92, 93, 94, 95, 96, 97, 98, 99, 102, 103, 104, 105, 106, 107, 108, 109, 111, 113, 114, 115, 116, 117, 118, 119, 121, 123, 124, 125, 127, 128, 129, 1000014, 1000015, 1000030, 1000031, 1000033, 1000070, 1000071, 1000082, 1000084, 1000100, 2000000, 3000001]
def x0x : Pos := .h
def x1x : Pos := (.o .h)
def x2x : Pos := (.i .h)
def x3x : Pos := (.o (.o .h))
def x4x : Pos := (.i (.o .h))
def x5x : Pos := (.o (.i .h))
def x6x : Pos := (.i (.i .h))
def x7x : Pos := (.o (.o (.o .h)))
def x8x : Pos := (.i (.o (.o .h)))
def x9x : Pos := (.o (.i (.o .h)))
def x10x : Pos := (.i (.i (.o .h)))
def x11x : Pos := (.o (.o (.i .h)))
def x12x : Pos := (.i (.o (.i .h)))
def x13x : Pos := (.o (.i (.i .h)))
def x14x : Pos := (.i (.i (.i .h)))
def x15x : Pos := (.o (.o (.o (.o .h))))
def x16x : Pos := (.i (.o (.o (.o .h))))
def x17x : Pos := (.o (.i (.o (.o .h))))
def x18x : Pos := (.i (.i (.o (.o .h))))
def x19x : Pos := (.o (.o (.i (.o .h))))
def x20x : Pos := (.i (.o (.i (.o .h))))
def x21x : Pos := (.o (.i (.i (.o .h))))
def x22x : Pos := (.i (.i (.i (.o .h))))
def x23x : Pos := (.o (.o (.o (.i .h))))
def x24x : Pos := (.i (.o (.o (.i .h))))
def x25x : Pos := (.o (.i (.o (.i .h))))
def x26x : Pos := (.i (.i (.o (.i .h))))
def x27x : Pos := (.o (.o (.i (.i .h))))
def x28x : Pos := (.i (.o (.i (.i .h))))
def x29x : Pos := (.o (.i (.i (.i .h))))
def x30x : Pos := (.i (.i (.i (.i .h))))
def x31x : Pos := (.o (.o (.o (.o (.o .h)))))
def x32x : Pos := (.i (.o (.o (.o (.o .h)))))
def x33x : Pos := (.o (.i (.o (.o (.o .h)))))
def x34x : Pos := (.i (.i (.o (.o (.o .h)))))
def x35x : Pos := (.o (.o (.i (.o (.o .h)))))
def x36x : Pos := (.i (.o (.i (.o (.o .h)))))
def x37x : Pos := (.o (.i (.i (.o (.o .h)))))
def x38x : Pos := (.i (.i (.i (.o (.o .h)))))
def x39x : Pos := (.o (.o (.o (.i (.o .h)))))
def x40x : Pos := (.i (.o (.o (.i (.o .h)))))
def x41x : Pos := (.o (.i (.o (.i (.o .h)))))
def x42x : Pos := (.i (.i (.o (.i (.o .h)))))
def x43x : Pos := (.o (.o (.i (.i (.o .h)))))
def x44x : Pos := (.i (.o (.i (.i (.o .h)))))
def x45x : Pos := (.o (.i (.i (.i (.o .h)))))
def x46x : Pos := (.i (.i (.i (.i (.o .h)))))
def x47x : Pos := (.o (.o (.o (.o (.i .h)))))
def x48x : Pos := (.i (.o (.o (.o (.i .h)))))
def x49x : Pos := (.o (.i (.o (.o (.i .h)))))
def x50x : Pos := (.i (.i (.o (.o (.i .h)))))
def x51x : Pos := (.o (.o (.i (.o (.i .h)))))
def x52x : Pos := (.i (.o (.i (.o (.i .h)))))
def x53x : Pos := (.o (.i (.i (.o (.i .h)))))
def x54x : Pos := (.i (.i (.i (.o (.i .h)))))
def x55x : Pos := (.o (.o (.o (.i (.i .h)))))
def x56x : Pos := (.i (.o (.o (.i (.i .h)))))
def x57x : Pos := (.o (.i (.o (.i (.i .h)))))
def x58x : Pos := (.i (.i (.o (.i (.i .h)))))
def x59x : Pos := (.o (.o (.i (.i (.i .h)))))
def x60x : Pos := (.i (.o (.i (.i (.i .h)))))
def x61x : Pos := (.o (.i (.i (.i (.i .h)))))
def x62x : Pos := (.i (.i (.i (.i (.i .h)))))
def x63x : Pos := (.o (.o (.o (.o (.o (.o .h))))))
def x64x : Pos := (.i (.o (.o (.o (.o (.o .h))))))
def x65x : Pos := (.o (.i (.o (.o (.o (.o .h))))))
def x66x : Pos := (.i (.i (.o (.o (.o (.o .h))))))
def x67x : Pos := (.o (.o (.i (.o (.o (.o .h))))))
def x68x : Pos := (.i (.o (.i (.o (.o (.o .h))))))
def x69x : Pos := (.o (.i (.i (.o (.o (.o .h))))))
def x70x : Pos := (.i (.i (.i (.o (.o (.o .h))))))
def x71x : Pos := (.o (.o (.o (.i (.o (.o .h))))))
def x72x : Pos := (.i (.o (.o (.i (.o (.o .h))))))
def x73x : Pos := (.o (.i (.o (.i (.o (.o .h))))))
def x74x : Pos := (.i (.i (.o (.i (.o (.o .h))))))
def x75x : Pos := (.o (.o (.i (.i (.o (.o .h))))))
def x76x : Pos := (.i (.o (.i (.i (.o (.o .h))))))
def x77x : Pos := (.o (.i (.i (.i (.o (.o .h))))))
def x78x : Pos := (.i (.i (.i (.i (.o (.o .h))))))
def x79x : Pos := (.o (.o (.o (.o (.i (.o .h))))))
noncomputable def i4 : FnI := (.mk true true (.seq (.reg (.cons (some x2x) none (.mv (.c (.n 0))) (.cons (some x3x) none (.mv (.c (.n 0))) .nil))) (.seq (.reg (.cons (some x4x) none (.mv (.t x0x)) (.cons (some 
  x5x) none (.call 12 (.cons (.t x4x) (.cons (.c (.n 30)) .nil))) (.cons (some x6x) none (.ext 0 (.t x5x)) (.cons (some x7x) none (.ext 1 (.t x5x)) (.cons (some x2x) none (.mv (.t 
  x6x)) (.cons (some x3x) none (.mv (.t x7x)) .nil))))))) .ret)) [(.tmp x2x), (.tmp x3x)])
theorem cc4 : compF Tryz.prog drops true true Tryz.f4 = some i4 := by kernel_rfl
noncomputable def i5 : FnI := (.mk true false (.seq (.reg (.cons (some x4x) none (.mv (.c .ns)) (.cons (some x5x) none (.mv (.c (.n 0))) .nil))) (.seq (.seq (.reg (.cons (some x7x) none (.mv (.t x0x)) (.cons 
  (some x8x) none (.call 13 (.cons (.t x7x) .nil)) (.cons (some x9x) none (.not (.t x8x)) .nil)))) (.cond (.t x9x) (.seq (.reg (.cons (some x4x) none (.mv (.c .ns)) (.cons (some 
  x5x) none (.mv (.c (.n 1))) .nil))) .ret) .skip)) (.seq (.reg (.cons (some x10x) none .mkm (.cons (some x6x) none (.mv (.t x10x)) .nil))) (.seq (.seq (.reg (.cons (some x11x) 
  none (.mv (.t x1x)) (.cons (some x12x) none (.bin .lss (.t x11x) (.c (.n 0))) (.cons (some x13x) none (.mv (.t x12x)) (.cons (some x14x) (some (.mk x13x false)) (.mv (.t x1x)) 
  (.cons (some x15x) (some (.mk x13x false)) (.mv (.t x6x)) (.cons (some x16x) (some (.mk x13x false)) (.mv (.t x0x)) (.cons (some x17x) (some (.mk x13x false)) (.mv (.t x0x)) 
  (.cons (some x18x) (some (.mk x13x false)) (.build (.cons (.n 0) (.cons (.n 0) .nil)) (.cons 0 1 (.t x16x) (.cons 1 1 (.t x17x) .nil))) (.cons (some x19x) (some (.mk x13x false)) 
  (.call 14 (.cons (.t x15x) (.cons (.t x18x) .nil))) (.cons (some x20x) (some (.mk x13x false)) (.bin .geq (.t x14x) (.t x19x)) (.cons (some x21x) none (.pick (.t x13x) (.c (.b 
  true)) (.t x20x)) .nil)))))))))))) (.cond (.t x21x) (.seq (.reg (.cons (some x4x) none (.mv (.c .ns)) (.cons (some x5x) none (.mv (.c (.n 1))) .nil))) .ret) .skip)) (.seq (.reg 
  (.cons (some x22x) none (.mv (.t x6x)) (.cons (some x23x) none (.mv (.t x0x)) (.cons (some x24x) none (.mv (.t x1x)) (.cons (some x25x) none (.call 15 (.cons (.t x22x) (.cons (.t 
  x23x) (.cons (.t x24x) .nil)))) (.cons (some x4x) none (.mv (.t x25x)) (.cons (some x5x) none (.mv (.c (.n 0))) .nil))))))) .ret))))) [(.tmp x4x), (.tmp x5x)])
theorem cc5 : compF Tryz.prog drops true false Tryz.f5 = some i5 := by kernel_rfl
noncomputable def i6 : FnI := (.mk true false (.seq (.reg (.cons (some x2x) none (.mv (.c .ns)) (.cons (some x3x) none (.mv (.c (.n 0))) .nil))) (.seq (.seq (.reg (.cons (some x5x) none (.mv (.t x0x)) (.cons 
  (some x6x) none (.call 7 (.cons (.t x5x) .nil)) (.cons (some x4x) none (.mv (.t x6x)) .nil)))) (.seq (.reg (.cons (some x7x) none (.mv (.t x4x)) (.cons (some x8x) none (.bin .neq 
  (.t x7x) (.c (.n 0))) .nil))) (.cond (.t x8x) (.seq (.reg (.cons (some x9x) none (.mv (.t x4x)) (.cons (some x2x) none (.mv (.c .ns)) (.cons (some x3x) none (.mv (.t x9x)) 
  .nil)))) .ret) .skip))) (.seq (.reg (.cons (some x10x) none (.mv (.t x0x)) (.cons (some x11x) none (.call 16 (.cons (.t x10x) .nil)) (.cons (some x2x) none (.mv (.t x11x)) (.cons 
  (some x3x) none (.mv (.c (.n 0))) .nil))))) .ret))) [(.tmp x2x), (.tmp x3x)])
theorem cc6 : compF Tryz.prog drops true false Tryz.f6 = some i6 := by kernel_rfl
noncomputable def i7 : FnI := (.mk true true (.seq (.reg (.cons (some x2x) none (.mv (.c (.n 0))) .nil)) (.seq (.seq (.reg (.cons (some x5x) none (.mv (.t x0x)) (.cons (some x6x) none (.len (.t x5x)) (.cons 
  (some x7x) none (.mv (.c (.n 0))) .nil)))) (.block 0 (.loop (.seq (.reg (.cons (some x8x) none (.bin .lss (.t x7x) (.t x6x)) .nil)) (.seq (.cond (.t x8x) .skip (.exit 0)) (.seq 
  (.block 1 (.seq (.reg (.cons (some x9x) none (.mv (.t x7x)) (.cons (some x10x) none (.ixs 1 (.t x5x) (.t x7x)) (.cons (some x11x) none (.ld 1 false (.t x10x)) (.cons (some x3x) 
  none (.mv (.t x9x)) (.cons (some x4x) none (.mv (.t x11x)) .nil)))))) (.seq (.seq (.reg (.cons (some x12x) none (.mv (.t x4x)) (.cons (some x13x) none (.bin .lss (.t x12x) (.c 
  (.n 1))) (.cons (some x14x) none (.mv (.t x13x)) (.cons (some x15x) (some (.mk x14x false)) (.mv (.t x4x)) (.cons (some x16x) (some (.mk x14x false)) (.bin .gtr (.t x15x) (.c (.n 
  30))) (.cons (some x17x) none (.pick (.t x14x) (.c (.b true)) (.t x16x)) .nil))))))) (.cond (.t x17x) (.seq (.reg (.cons (some x2x) none (.mv (.c (.n 1))) .nil)) .ret) .skip)) 
  (.seq (.reg (.cons (some x18x) none (.mv (.t x3x)) (.cons (some x19x) none (.bin .gtr (.t x18x) (.c (.n 0))) (.cons (some x20x) none (.mv (.t x19x)) (.cons (some x21x) (some (.mk 
  x20x true)) (.mv (.t x4x)) (.cons (some x22x) (some (.mk x20x true)) (.mv (.t x0x)) (.cons (some x23x) (some (.mk x20x true)) (.mv (.t x3x)) (.cons (some x24x) (some (.mk x20x 
  true)) (.bin .sub (.t x23x) (.c (.n 1))) (.cons (some x25x) (some (.mk x20x true)) (.ixs 1 (.t x22x) (.t x24x)) (.cons (some x26x) (some (.mk x20x true)) (.ld 1 false (.t x25x)) 
  (.cons (some x27x) (some (.mk x20x true)) (.bin .gtr (.t x21x) (.t x26x)) (.cons (some x28x) none (.pick (.t x20x) (.t x27x) (.c (.b false))) .nil)))))))))))) (.cond (.t x28x) 
  (.seq (.reg (.cons (some x2x) none (.mv (.c (.n 7))) .nil)) .ret) .skip))))) (.reg (.cons (some x29x) none (.bin .add (.t x7x) (.c (.n 1))) (.cons (some x7x) none (.mv (.t x29x)) 
  .nil))))))))) (.seq (.seq (.reg (.cons (some x30x) none (.mv (.t x0x)) (.cons (some x31x) none (.call 17 (.cons (.t x30x) .nil)) (.cons (some x32x) none (.bin .gtr (.t x31x) (.c 
  (.n 30))) .nil)))) (.cond (.t x32x) (.seq (.reg (.cons (some x2x) none (.mv (.c (.n 3))) .nil)) .ret) .skip)) (.seq (.reg (.cons (some x2x) none (.mv (.c (.n 0))) .nil)) .ret)))) 
  [(.tmp x2x)])
theorem cc7 : compF Tryz.prog drops true true Tryz.f7 = some i7 := by kernel_rfl
noncomputable def i8 : FnI := (.mk true false (.seq (.reg (.cons (some x1x) none (.box 32 (.t x0x)) (.cons (some x2x) none (.mv (.c .ns)) (.cons (some x3x) none (.mv (.c (.n 0))) .nil)))) (.seq (.seq (.reg 
  (.cons (some x8x) none (.ld 2 true (.t x1x)) (.cons (some x9x) none (.call 18 (.cons (.t x8x) .nil)) (.cons (some x4x) none (.mv (.t x9x)) .nil)))) (.seq (.reg (.cons (some x10x) 
  none (.mv (.t x4x)) (.cons (some x11x) none (.bin .neq (.t x10x) (.c (.n 0))) .nil))) (.cond (.t x11x) (.seq (.reg (.cons (some x12x) none (.mv (.t x4x)) (.cons (some x2x) none 
  (.mv (.c .ns)) (.cons (some x3x) none (.mv (.t x12x)) .nil)))) .ret) .skip))) (.seq (.reg (.cons (some x13x) none (.ld 2 true (.t x1x)) (.cons (some x14x) none (.call 19 (.cons 
  (.t x13x) .nil)) (.cons (some x5x) none (.alloc 54 (.cons (.n 0) (.cons (.b false) (.cons (.b false) (.cons (.b false) (.cons (.b false) (.cons (.b false) (.cons (.b false) 
  (.cons (.b false) (.cons (.b false) (.cons (.b false) (.cons (.b false) (.cons (.b false) (.cons (.b false) (.cons (.b false) (.cons (.b false) (.cons (.b false) (.cons (.b 
  false) (.cons (.b false) (.cons (.b false) (.cons (.b false) (.cons (.b false) (.cons (.b false) (.cons (.b false) (.cons (.b false) (.cons (.b false) (.cons (.b false) (.cons 
  (.b false) (.cons (.b false) (.cons (.b false) (.cons (.b false) (.cons (.b false) (.cons (.b false) (.cons (.b false) (.cons (.b false) (.cons (.b false) (.cons (.b false) 
  (.cons (.b false) (.cons (.b false) (.cons (.b false) (.cons (.b false) (.cons (.b false) (.cons (.b false) (.cons (.b false) (.cons (.b false) (.cons (.b false) (.cons (.b 
  false) (.cons (.b false) (.cons (.b false) (.cons (.b false) (.cons (.b false) (.cons (.b false) (.cons (.b false) (.cons (.b false) (.cons (.b false) (.cons (.b false) (.cons 
  (.b false) (.cons (.b false) (.cons (.b false) (.cons (.b false) (.cons (.b false) (.cons (.b false) (.cons (.b false) (.cons (.b false) (.cons (.b false) (.cons (.b false) 
  .nil))))))))))))))))))))))))))))))))))))))))))))))))))))))))))))))))) 65) (.cons none none (.st 65 (.t x5x) (.t x14x)) .nil))))) (.seq (.seq (.reg (.cons (some x16x) none (.ld 65 
  true (.t x5x)) (.cons (some x17x) none (.call 20 (.cons (.t x16x) .nil)) (.cons (some x15x) none (.mv (.t x17x)) (.cons (some x18x) none (.ext 0 (.t x15x)) (.cons (some x19x) 
  none (.ext 1 (.t x15x)) (.cons (some x6x) none (.alloc 56 (.cons (.n 0) (.cons (.n 0) (.cons (.n 0) .nil))) 3) (.cons none none (.st 3 (.t x6x) (.t x18x)) (.cons (some x7x) none 
  (.mv (.t x19x)) .nil))))))))) (.seq (.reg (.cons (some x20x) none (.mv (.t x7x)) .nil)) (.cond (.t x20x) (.seq (.reg (.cons (some x2x) none (.mv (.c .ns)) (.cons (some x3x) none 
  (.mv (.c (.n 13))) .nil))) .ret) .skip))) (.seq (.reg (.cons (some x21x) none (.ld 65 true (.t x5x)) (.cons (some x22x) none (.call 21 (.cons (.t x21x) .nil)) (.cons (some x2x) 
  none (.mv (.t x22x)) (.cons (some x3x) none (.mv (.c (.n 0))) .nil))))) .ret))))) [(.tmp x2x), (.tmp x3x)])
theorem cc8 : compF Tryz.prog drops true false Tryz.f8 = some i8 := by kernel_rfl
noncomputable def i9 : FnI := (.mk true false (.seq (.reg (.cons (some x1x) none (.box 32 (.t x0x)) (.cons (some x2x) none (.mv (.c .ns)) (.cons (some x3x) none (.mv (.c (.n 0))) .nil)))) (.seq (.seq (.reg 
  (.cons (some x5x) none (.ld 2 true (.t x1x)) (.cons (some x6x) none (.call 18 (.cons (.t x5x) .nil)) (.cons (some x4x) none (.mv (.t x6x)) .nil)))) (.seq (.reg (.cons (some x7x) 
  none (.mv (.t x4x)) (.cons (some x8x) none (.bin .neq (.t x7x) (.c (.n 0))) .nil))) (.cond (.t x8x) (.seq (.reg (.cons (some x9x) none (.mv (.t x4x)) (.cons (some x2x) none (.mv 
  (.c .ns)) (.cons (some x3x) none (.mv (.t x9x)) .nil)))) .ret) .skip))) (.seq (.reg (.cons (some x10x) none (.ld 2 true (.t x1x)) (.cons (some x11x) none (.call 19 (.cons (.t 
  x10x) .nil)) (.cons (some x12x) none (.call 22 (.cons (.t x11x) .nil)) (.cons (some x2x) none (.mv (.t x12x)) (.cons (some x3x) none (.mv (.c (.n 0))) .nil)))))) .ret))) [(.tmp 
  x2x), (.tmp x3x)])
theorem cc9 : compF Tryz.prog drops true false Tryz.f9 = some i9 := by kernel_rfl
noncomputable def i10 : FnI := (.mk true true (.seq (.reg (.cons (some x4x) none (.mv (.c (.n 0))) (.cons (some x5x) none (.mv (.c (.n 0))) .nil))) (.seq (.seq (.reg (.cons (some x6x) none (.mv (.t x0x)) (.cons 
  (some x7x) none (.call 23 (.cons (.t x6x) .nil)) (.cons (some x8x) none (.not (.t x7x)) (.cons (some x9x) none (.mv (.t x8x)) (.cons (some x10x) (some (.mk x9x false)) (.mv (.t 
  x1x)) (.cons (some x11x) (some (.mk x9x false)) (.call 23 (.cons (.t x10x) .nil)) (.cons (some x12x) (some (.mk x9x false)) (.not (.t x11x)) (.cons (some x13x) none (.pick (.t 
  x9x) (.c (.b true)) (.t x12x)) .nil))))))))) (.cond (.t x13x) (.seq (.reg (.cons (some x4x) none (.mv (.c (.n 0))) (.cons (some x5x) none (.mv (.c (.n 1))) .nil))) .ret) .skip)) 
  (.seq (.reg (.cons (some x14x) none (.mv (.t x0x)) (.cons (some x15x) none (.mv (.t x1x)) (.cons (some x16x) none (.call 24 (.cons (.t x14x) (.cons (.t x15x) .nil))) (.cons (some 
  x17x) none (.call 25 (.cons (.t x16x) .nil)) (.cons (some x4x) none (.mv (.t x17x)) (.cons (some x5x) none (.mv (.c (.n 0))) .nil))))))) .ret))) [(.tmp x4x), (.tmp x5x)])
theorem cc10 : compF Tryz.prog drops true true Tryz.f10 = some i10 := by kernel_rfl
noncomputable def i11 : FnI := (.mk true true (.seq (.reg (.cons (some x0x) none (.mv (.c (.b false))) .nil)) (.seq (.reg (.cons (some x4x) none (.build (.cons (.n 0) (.cons (.n 0) .nil)) (.cons 0 1 (.c (.n 0)) 
  (.cons 1 1 (.c (.n 1)) .nil))) (.cons (some x5x) none (.build (.cons (.n 0) (.cons (.n 0) .nil)) (.cons 0 1 (.c (.n 1)) (.cons 1 1 (.c (.n 2)) .nil))) (.cons (some x6x) none 
  (.build (.cons (.n 0) (.cons (.n 0) .nil)) (.cons 0 1 (.c (.n 2)) (.cons 1 1 (.c (.n 3)) .nil))) (.cons (some x7x) none (.build (.cons (.n 0) (.cons (.n 0) .nil)) (.cons 0 1 (.c 
  (.n 3)) (.cons 1 1 (.c (.n 4)) .nil))) (.cons (some x8x) none (.build (.cons (.n 0) (.cons (.n 0) .nil)) (.cons 0 1 (.c (.n 0)) (.cons 1 1 (.c (.n 4)) .nil))) (.cons (some x9x) 
  none (.bsl 33 2 5 (.cons (.n 0) (.cons (.n 0) (.cons (.n 0) (.cons (.n 0) (.cons (.n 0) (.cons (.n 0) (.cons (.n 0) (.cons (.n 0) (.cons (.n 0) (.cons (.n 0) .nil)))))))))) 
  (.cons 0 2 (.t x4x) (.cons 2 2 (.t x5x) (.cons 4 2 (.t x6x) (.cons 6 2 (.t x7x) (.cons 8 2 (.t x8x) .nil)))))) (.cons (some x10x) none (.build (.cons (.n 0) (.cons .ns .nil)) 
  (.cons 0 1 (.c (.n 5)) (.cons 1 1 (.t x9x) .nil))) (.cons (some x11x) none (.call 26 (.cons (.t x10x) .nil)) (.cons (some x3x) none (.mv (.t x11x)) (.cons (some x12x) none (.ext 
  0 (.t x3x)) (.cons (some x13x) none (.ext 1 (.t x3x)) (.cons (some x1x) none (.mv (.t x12x)) (.cons (some x2x) none (.mv (.t x13x)) .nil)))))))))))))) (.seq (.reg (.cons (some 
  x14x) none (.mv (.t x2x)) (.cons (some x15x) none (.bin .eql (.t x14x) (.c (.n 0))) (.cons (some x16x) none (.mv (.t x15x)) (.cons (some x17x) (some (.mk x16x true)) (.mv (.t 
  x1x)) (.cons (some x18x) (some (.mk x16x true)) (.bsl 3 1 5 (.cons (.n 0) (.cons (.n 0) (.cons (.n 0) (.cons (.n 0) (.cons (.n 0) .nil))))) (.cons 0 1 (.c (.n 0)) (.cons 1 1 (.c 
  (.n 1)) (.cons 2 1 (.c (.n 0)) (.cons 3 1 (.c (.n 1)) (.cons 4 1 (.c (.n 2)) .nil)))))) (.cons (some x19x) (some (.mk x16x true)) (.call 28 (.cons (.t x18x) .nil)) (.cons (some 
  x20x) (some (.mk x16x true)) (.call 27 (.cons (.t x17x) (.cons (.t x19x) .nil))) (.cons (some x21x) none (.pick (.t x16x) (.t x20x) (.c (.b false))) (.cons (some x22x) none (.mv 
  (.t x21x)) (.cons (some x23x) (some (.mk x22x true)) (.call 29 .nil) (.cons (some x24x) none (.pick (.t x22x) (.t x23x) (.c (.b false))) (.cons (some x0x) none (.mv (.t x24x)) 
  .nil))))))))))))) .ret))) [(.tmp x0x)])
theorem cc11 : compF Tryz.prog drops true true Tryz.f11 = some i11 := by kernel_rfl
noncomputable def i12 : FnI := (.mk true false (.seq (.reg (.cons (some x4x) none (.mv (.c (.n 0))) (.cons (some x5x) none (.mv (.c (.n 0))) .nil))) (.seq (.seq (.reg (.cons (some x6x) none (.mv (.t x0x)) (.cons 
  (some x7x) none (.call 13 (.cons (.t x6x) .nil)) (.cons (some x8x) none (.not (.t x7x)) (.cons (some x9x) none (.mv (.t x8x)) (.cons (some x10x) (some (.mk x9x false)) (.mv (.t 
  x1x)) (.cons (some x11x) (some (.mk x9x false)) (.call 13 (.cons (.t x10x) .nil)) (.cons (some x12x) (some (.mk x9x false)) (.not (.t x11x)) (.cons (some x13x) none (.pick (.t 
  x9x) (.c (.b true)) (.t x12x)) .nil))))))))) (.cond (.t x13x) (.seq (.reg (.cons (some x4x) none (.mv (.c (.n 0))) (.cons (some x5x) none (.mv (.c (.n 1))) .nil))) .ret) .skip)) 
  (.seq (.reg (.cons (some x14x) none .mkm (.cons (some x15x) none (.mv (.t x0x)) (.cons (some x16x) none (.mv (.t x1x)) (.cons (some x17x) none (.build (.cons (.n 0) (.cons (.n 0) 
  .nil)) (.cons 0 1 (.t x15x) (.cons 1 1 (.t x16x) .nil))) (.cons (some x18x) none (.call 14 (.cons (.t x14x) (.cons (.t x17x) .nil))) (.cons (some x4x) none (.mv (.t x18x)) (.cons 
  (some x5x) none (.mv (.c (.n 0))) .nil)))))))) .ret))) [(.tmp x4x), (.tmp x5x)])
theorem cc12 : compF Tryz.prog drops true false Tryz.f12 = some i12 := by kernel_rfl
noncomputable def i13 : FnI := (.mk true true (.seq (.reg (.cons (some x2x) none (.mv (.c (.b false))) .nil)) (.seq (.reg (.cons (some x3x) none (.mv (.t x0x)) (.cons (some x4x) none (.bin .geq (.t x3x) (.c (.n 
  0))) (.cons (some x5x) none (.mv (.t x4x)) (.cons (some x6x) (some (.mk x5x true)) (.mv (.t x0x)) (.cons (some x7x) (some (.mk x5x true)) (.bin .leq (.t x6x) (.c (.n 30))) (.cons 
  (some x8x) none (.pick (.t x5x) (.t x7x) (.c (.b false))) (.cons (some x2x) none (.mv (.t x8x)) .nil)))))))) .ret)) [(.tmp x2x)])
theorem cc13 : compF Tryz.prog drops true true Tryz.f13 = some i13 := by kernel_rfl
noncomputable def i14 : FnI := (.mk false false (.seq (.reg (.cons (some x2x) none (.box 43 (.t x0x)) (.cons (some x3x) none (.box 46 (.t x1x)) (.cons (some x4x) none (.mv (.c (.n 0))) .nil)))) (.seq (.seq (.reg 
  (.cons (some x5x) none (.fad 0 (.t x3x)) (.cons (some x6x) none (.ld 1 false (.t x5x)) (.cons (some x7x) none (.bin .eql (.t x6x) (.c (.n 0))) .nil)))) (.cond (.t x7x) (.seq 
  (.reg (.cons (some x4x) none (.mv (.c (.n 1))) .nil)) .ret) .skip)) (.seq (.reg (.cons (some x8x) none (.ld 1 false (.t x2x)) (.cons (some x9x) none (.ld 2 true (.t x3x)) (.cons 
  (some x10x) none (.mkf 31 .nil (.cons (.t x3x) (.cons (.t x2x) .nil))) (.cons (some x11x) none (.call 30 (.cons (.t x8x) (.cons (.t x9x) (.cons (.t x10x) .nil)))) (.cons (some 
  x4x) none (.mv (.t x11x)) .nil)))))) .ret))) [(.tmp x4x)])
theorem cc14 : compF Tryz.prog drops false false Tryz.f14 = some i14 := by kernel_rfl
noncomputable def i15 : FnI := (.mk false false (.seq (.reg (.cons (some x6x) none (.mv (.c .ns)) .nil)) (.seq (.reg (.cons (some x7x) none (.mv (.c .ns)) .nil)) (.seq (.reg (.cons (some x10x) none (.mv (.t 
  x1x)) (.cons (some x8x) none (.mv (.t x10x)) .nil))) (.seq (.block 0 (.loop (.seq (.seq (.reg (.cons (some x11x) none (.mv (.t x8x)) (.cons (some x12x) none (.bin .gtr (.t x11x) 
  (.c (.n 0))) .nil))) (.cond (.t x12x) .skip (.exit 0))) (.block 1 (.seq (.reg (.cons (some x9x) none (.mv (.c (.n 1))) .nil)) (.seq (.block 2 (.loop (.seq (.seq (.reg (.cons 
  (some x13x) none (.mv (.t x0x)) (.cons (some x14x) none (.mv (.t x8x)) (.cons (some x15x) none (.mv (.t x9x)) (.cons (some x16x) none (.build (.cons (.n 0) (.cons (.n 0) .nil)) 
  (.cons 0 1 (.t x14x) (.cons 1 1 (.t x15x) .nil))) (.cons (some x17x) none (.call 14 (.cons (.t x13x) (.cons (.t x16x) .nil))) (.cons (some x18x) none (.mv (.t x2x)) (.cons (some 
  x19x) none (.bin .leq (.t x17x) (.t x18x)) .nil)))))))) (.cond (.t x19x) .skip (.exit 2))) (.block 3 (.reg (.cons (some x20x) none (.mv (.t x9x)) (.cons (some x21x) none (.bin 
  .add (.t x20x) (.c (.n 1))) (.cons (some x9x) none (.mv (.t x21x)) .nil)))))))) (.seq (.reg (.cons (some x22x) none (.mv (.t x2x)) (.cons (some x23x) none (.mv (.t x0x)) (.cons 
  (some x24x) none (.mv (.t x8x)) (.cons (some x25x) none (.mv (.t x9x)) (.cons (some x26x) none (.bin .sub (.t x25x) (.c (.n 1))) (.cons (some x27x) none (.build (.cons (.n 0) 
  (.cons (.n 0) .nil)) (.cons 0 1 (.t x24x) (.cons 1 1 (.t x26x) .nil))) (.cons (some x28x) none (.call 14 (.cons (.t x23x) (.cons (.t x27x) .nil))) (.cons (some x29x) none (.bin 
  .sub (.t x22x) (.t x28x)) (.cons (some x2x) none (.mv (.t x29x)) .nil)))))))))) (.seq (.reg (.cons (some x30x) none (.mv (.t x8x)) (.cons (some x31x) none (.mv (.t x9x)) (.cons 
  (some x32x) none (.bin .sub (.t x30x) (.t x31x)) (.cons (some x8x) none (.mv (.t x32x)) .nil))))) (.reg (.cons (some x33x) none (.mv (.t x7x)) (.cons (some x34x) none (.mv (.t 
  x9x)) (.cons (some x35x) none (.bsl 3 1 1 (.cons (.n 0) .nil) (.cons 0 1 (.t x34x) .nil)) (.cons (some x36x) none (.app 3 1 8 (.t x33x) (.t x35x)) (.cons (some x7x) none (.mv (.t 
  x36x)) .nil)))))))))))))) (.seq (.reg (.cons (some x37x) none (.mv (.t x7x)) (.cons (some x6x) none (.mv (.t x37x)) .nil))) .ret))))) [(.tmp x6x)])
theorem cc15 : compF Tryz.prog drops false false Tryz.f15 = some i15 := by kernel_rfl
noncomputable def i16 : FnI := (.mk true false (.seq (.reg (.cons (some x2x) none (.mv (.c .ns)) .nil)) (.seq (.seq (.reg (.cons (some x7x) none (.mv (.t x0x)) (.cons (some x8x) none (.len (.t x7x)) (.cons (some 
  x9x) none (.bin .eql (.t x8x) (.c (.n 0))) .nil)))) (.cond (.t x9x) (.seq (.reg (.cons (some x2x) none (.mv (.c .ns)) .nil)) .ret) .skip)) (.seq (.reg (.cons (some x10x) none 
  (.mv (.t x0x)) (.cons (some x11x) none (.ixs 1 (.t x10x) (.c (.n 0))) (.cons (some x12x) none (.ld 1 false (.t x11x)) (.cons (some x13x) none (.mks 3 1 8 1 (.cons (.n 0) .nil) 
  (.t x12x) (.t x12x)) (.cons (some x3x) none (.mv (.t x13x)) .nil)))))) (.seq (.seq (.reg (.cons (some x14x) none (.mv (.t x0x)) (.cons (some x15x) none (.len (.t x14x)) (.cons 
  (some x16x) none (.mv (.c (.n 0))) .nil)))) (.block 0 (.loop (.seq (.reg (.cons (some x17x) none (.bin .lss (.t x16x) (.t x15x)) .nil)) (.seq (.cond (.t x17x) .skip (.exit 0)) 
  (.seq (.block 1 (.seq (.reg (.cons (some x18x) none (.ixs 1 (.t x14x) (.t x16x)) (.cons (some x19x) none (.ld 1 false (.t x18x)) (.cons (some x5x) none (.mv (.t x19x)) .nil)))) 
  (.seq (.reg (.cons (some x20x) none (.mv (.t x5x)) (.cons (some x21x) none (.mv (.c (.n 0))) .nil))) (.block 2 (.loop (.seq (.reg (.cons (some x22x) none (.bin .lss (.t x21x) (.t 
  x20x)) .nil)) (.seq (.cond (.t x22x) .skip (.exit 2)) (.seq (.block 3 (.seq (.reg (.cons (some x23x) none (.mv (.t x21x)) (.cons (some x6x) none (.mv (.t x23x)) .nil))) (.reg 
  (.cons (some x24x) none (.mv (.t x3x)) (.cons (some x25x) none (.mv (.t x6x)) (.cons (some x26x) none (.ixs 1 (.t x24x) (.t x25x)) (.cons (some x27x) none (.ld 1 false (.t x26x)) 
  (.cons (some x28x) none (.bin .add (.t x27x) (.c (.n 1))) (.cons (some x29x) none (.ixs 1 (.t x24x) (.t x25x)) (.cons none none (.st 1 (.t x29x) (.t x28x)) .nil)))))))))) (.reg 
  (.cons (some x30x) none (.bin .add (.t x21x) (.c (.n 1))) (.cons (some x21x) none (.mv (.t x30x)) .nil))))))))))) (.reg (.cons (some x31x) none (.bin .add (.t x16x) (.c (.n 1))) 
  (.cons (some x16x) none (.mv (.t x31x)) .nil))))))))) (.seq (.reg (.cons (some x32x) none (.mv (.t x3x)) (.cons (some x2x) none (.mv (.t x32x)) .nil))) .ret))))) [(.tmp x2x)])
theorem cc16 : compF Tryz.prog drops true false Tryz.f16 = some i16 := by kernel_rfl
noncomputable def i17 : FnI := (.mk true true (.seq (.reg (.cons (some x2x) none (.mv (.c (.n 0))) .nil)) (.seq (.reg (.cons (some x3x) none (.mv (.c (.n 0))) .nil)) (.seq (.seq (.reg (.cons (some x6x) none (.mv 
  (.t x0x)) (.cons (some x7x) none (.len (.t x6x)) (.cons (some x8x) none (.mv (.c (.n 0))) .nil)))) (.block 0 (.loop (.seq (.reg (.cons (some x9x) none (.bin .lss (.t x8x) (.t 
  x7x)) .nil)) (.seq (.cond (.t x9x) .skip (.exit 0)) (.seq (.block 1 (.seq (.reg (.cons (some x10x) none (.ixs 1 (.t x6x) (.t x8x)) (.cons (some x11x) none (.ld 1 false (.t x10x)) 
  (.cons (some x5x) none (.mv (.t x11x)) .nil)))) (.reg (.cons (some x12x) none (.mv (.t x3x)) (.cons (some x13x) none (.mv (.t x5x)) (.cons (some x14x) none (.bin .add (.t x12x) 
  (.t x13x)) (.cons (some x3x) none (.mv (.t x14x)) .nil))))))) (.reg (.cons (some x15x) none (.bin .add (.t x8x) (.c (.n 1))) (.cons (some x8x) none (.mv (.t x15x)) .nil))))))))) 
  (.seq (.reg (.cons (some x16x) none (.mv (.t x3x)) (.cons (some x2x) none (.mv (.t x16x)) .nil))) .ret)))) [(.tmp x2x)])
theorem cc17 : compF Tryz.prog drops true true Tryz.f17 = some i17 := by kernel_rfl
noncomputable def i18 : FnI := (.mk true true (.seq (.reg (.cons (some x1x) none (.box 32 (.t x0x)) (.cons (some x2x) none (.mv (.c (.n 0))) .nil))) (.seq (.seq (.reg (.cons (some x6x) none (.fad 0 (.t x1x)) 
  (.cons (some x7x) none (.ld 1 false (.t x6x)) (.cons (some x8x) none (.call 23 (.cons (.t x7x) .nil)) (.cons (some x9x) none (.not (.t x8x)) .nil))))) (.cond (.t x9x) (.seq (.reg 
  (.cons (some x2x) none (.mv (.c (.n 1))) .nil)) .ret) .skip)) (.seq (.reg (.cons (some x10x) none (.fad 0 (.t x1x)) (.cons (some x11x) none (.ld 1 false (.t x10x)) (.cons (some 
  x12x) none (.build (.cons (.n 0) (.cons (.b false) (.cons (.b false) (.cons (.b false) (.cons (.b false) (.cons (.b false) (.cons (.b false) (.cons (.b false) (.cons (.b false) 
  (.cons (.b false) (.cons (.b false) (.cons (.b false) (.cons (.b false) (.cons (.b false) (.cons (.b false) (.cons (.b false) (.cons (.b false) (.cons (.b false) (.cons (.b 
  false) (.cons (.b false) (.cons (.b false) (.cons (.b false) (.cons (.b false) (.cons (.b false) (.cons (.b false) (.cons (.b false) (.cons (.b false) (.cons (.b false) (.cons 
  (.b false) (.cons (.b false) (.cons (.b false) (.cons (.b false) (.cons (.b false) (.cons (.b false) (.cons (.b false) (.cons (.b false) (.cons (.b false) (.cons (.b false) 
  (.cons (.b false) (.cons (.b false) (.cons (.b false) (.cons (.b false) (.cons (.b false) (.cons (.b false) (.cons (.b false) (.cons (.b false) (.cons (.b false) (.cons (.b 
  false) (.cons (.b false) (.cons (.b false) (.cons (.b false) (.cons (.b false) (.cons (.b false) (.cons (.b false) (.cons (.b false) (.cons (.b false) (.cons (.b false) (.cons 
  (.b false) (.cons (.b false) (.cons (.b false) (.cons (.b false) (.cons (.b false) (.cons (.b false) (.cons (.b false) (.cons (.b false) 
  .nil))))))))))))))))))))))))))))))))))))))))))))))))))))))))))))))))) (.cons 0 1 (.t x11x) .nil)) (.cons (some x3x) none (.alloc 54 (.cons (.n 0) (.cons (.b false) (.cons (.b 
  false) (.cons (.b false) (.cons (.b false) (.cons (.b false) (.cons (.b false) (.cons (.b false) (.cons (.b false) (.cons (.b false) (.cons (.b false) (.cons (.b false) (.cons 
  (.b false) (.cons (.b false) (.cons (.b false) (.cons (.b false) (.cons (.b false) (.cons (.b false) (.cons (.b false) (.cons (.b false) (.cons (.b false) (.cons (.b false) 
  (.cons (.b false) (.cons (.b false) (.cons (.b false) (.cons (.b false) (.cons (.b false) (.cons (.b false) (.cons (.b false) (.cons (.b false) (.cons (.b false) (.cons (.b 
  false) (.cons (.b false) (.cons (.b false) (.cons (.b false) (.cons (.b false) (.cons (.b false) (.cons (.b false) (.cons (.b false) (.cons (.b false) (.cons (.b false) (.cons 
  (.b false) (.cons (.b false) (.cons (.b false) (.cons (.b false) (.cons (.b false) (.cons (.b false) (.cons (.b false) (.cons (.b false) (.cons (.b false) (.cons (.b false) 
  (.cons (.b false) (.cons (.b false) (.cons (.b false) (.cons (.b false) (.cons (.b false) (.cons (.b false) (.cons (.b false) (.cons (.b false) (.cons (.b false) (.cons (.b 
  false) (.cons (.b false) (.cons (.b false) (.cons (.b false) (.cons (.b false) .nil))))))))))))))))))))))))))))))))))))))))))))))))))))))))))))))))) 65) (.cons none none (.st 65 
  (.t x3x) (.t x12x)) .nil)))))) (.seq (.seq (.reg (.cons (some x13x) none (.fad 1 (.t x1x)) (.cons (some x14x) none (.ld 1 false (.t x13x)) (.cons (some x15x) none (.len (.t 
  x14x)) (.cons (some x16x) none (.mv (.c (.n 0))) .nil))))) (.block 0 (.loop (.seq (.reg (.cons (some x17x) none (.bin .lss (.t x16x) (.t x15x)) .nil)) (.seq (.cond (.t x17x) 
  .skip (.exit 0)) (.seq (.block 1 (.seq (.reg (.cons (some x18x) none (.ixs 2 (.t x14x) (.t x16x)) (.cons (some x19x) none (.ld 2 true (.t x18x)) (.cons (some x5x) none (.alloc 33 
  (.cons (.n 0) (.cons (.n 0) .nil)) 2) (.cons none none (.st 2 (.t x5x) (.t x19x)) .nil))))) (.seq (.block 2 (.seq (.reg (.cons (some x21x) none (.ld 65 true (.t x3x)) (.cons 
  (some x22x) none (.ixa 2 1 (.t x5x) (.c (.n 0))) (.cons (some x23x) none (.ld 1 false (.t x22x)) (.cons (some x24x) none (.call 32 (.cons (.t x21x) (.cons (.t x23x) .nil))) 
  (.cons (some x25x) none (.not (.t x24x)) (.cons (some x26x) none (.mv (.t x25x)) (.cons (some x27x) (some (.mk x26x false)) (.ld 65 true (.t x3x)) (.cons (some x28x) (some (.mk 
  x26x false)) (.ixa 2 1 (.t x5x) (.c (.n 1))) (.cons (some x29x) (some (.mk x26x false)) (.ld 1 false (.t x28x)) (.cons (some x30x) (some (.mk x26x false)) (.call 32 (.cons (.t 
  x27x) (.cons (.t x29x) .nil))) (.cons (some x31x) (some (.mk x26x false)) (.not (.t x30x)) (.cons (some x32x) none (.pick (.t x26x) (.c (.b true)) (.t x31x)) (.cons (some x20x) 
  none (.mv (.t x32x)) .nil)))))))))))))) (.cond (.t x20x) (.seq (.reg (.cons (some x2x) none (.mv (.c (.n 2))) .nil)) .ret) (.seq (.reg (.cons (some x34x) none (.ixa 2 1 (.t x5x) 
  (.c (.n 0))) (.cons (some x35x) none (.ld 1 false (.t x34x)) (.cons (some x36x) none (.ixa 2 1 (.t x5x) (.c (.n 1))) (.cons (some x37x) none (.ld 1 false (.t x36x)) (.cons (some 
  x38x) none (.bin .geq (.t x35x) (.t x37x)) (.cons (some x33x) none (.mv (.t x38x)) .nil))))))) (.cond (.t x33x) (.seq (.reg (.cons (some x2x) none (.mv (.c (.n 7))) .nil)) .ret) 
  (.seq (.draw [(.mk (some x40x) none true [] false [] [] [x5x] (.ixa 2 1 (.t x5x) (.c (.n 0))) false [] [] []), (.mk (some x41x) none false [] false [true] [] [x40x] (.ld 1 false 
  (.t x40x)) false [] [] []), (.mk (some x42x) none true [] false [false, false] [] [x5x] (.ixa 2 1 (.t x5x) (.c (.n 1))) false [] [] []), (.mk (some x43x) none false [] false 
  [true, false, false] [] [x42x] (.ld 1 false (.t x42x)) false [] [] []), (.mk (some x44x) none true [] false [false, false, false, false] [] [x3x] (.fad 1 (.t x3x)) false [] [] 
  []), (.mk (some x45x) none true [] false [true, false, false, true, true] [] [x44x, x41x] (.ixa 8 8 (.t x44x) (.t x41x)) false [] [] []), (.mk (some x46x) none true [] false 
  [true, true, true, true, true, true] [] [x45x, x43x] (.ixa 8 1 (.t x45x) (.t x43x)) false [] [] []), (.mk (some x47x) none false [] false [true, true, true, true, true, true, 
  true] [] [x46x] (.ld 1 false (.t x46x)) false [] [] []), (.mk (some x39x) none true [] false [true, true, true, true, true, true, true, true] [] [x47x] (.mv (.t x47x)) false [] 
  [] [])]) (.cond (.t x39x) (.seq (.reg (.cons (some x2x) none (.mv (.c (.n 6))) .nil)) .ret) .skip))))))) (.reg (.cons (some x48x) none (.ixa 2 1 (.t x5x) (.c (.n 0))) (.cons 
  (some x49x) none (.ld 1 false (.t x48x)) (.cons (some x50x) none (.ixa 2 1 (.t x5x) (.c (.n 1))) (.cons (some x51x) none (.ld 1 false (.t x50x)) (.cons (some x52x) none (.call 33 
  (.cons (.t x3x) (.cons (.t x49x) (.cons (.t x51x) (.cons (.c (.b true)) .nil))))) .nil))))))))) (.reg (.cons (some x53x) none (.bin .add (.t x16x) (.c (.n 1))) (.cons (some x16x) 
  none (.mv (.t x53x)) .nil))))))))) (.seq (.reg (.cons (some x2x) none (.mv (.c (.n 0))) .nil)) .ret))))) [(.tmp x2x)])
theorem cc18 : compF Tryz.prog drops true true Tryz.f18 = some i18 := by kernel_rfl
noncomputable def i19 : FnI := (.mk true true (.seq (.reg (.cons (some x1x) none (.box 32 (.t x0x)) (.cons (some x2x) none (.alloc 54 (.cons (.n 0) (.cons (.b false) (.cons (.b false) (.cons (.b false) (.cons 
  (.b false) (.cons (.b false) (.cons (.b false) (.cons (.b false) (.cons (.b false) (.cons (.b false) (.cons (.b false) (.cons (.b false) (.cons (.b false) (.cons (.b false) 
  (.cons (.b false) (.cons (.b false) (.cons (.b false) (.cons (.b false) (.cons (.b false) (.cons (.b false) (.cons (.b false) (.cons (.b false) (.cons (.b false) (.cons (.b 
  false) (.cons (.b false) (.cons (.b false) (.cons (.b false) (.cons (.b false) (.cons (.b false) (.cons (.b false) (.cons (.b false) (.cons (.b false) (.cons (.b false) (.cons 
  (.b false) (.cons (.b false) (.cons (.b false) (.cons (.b false) (.cons (.b false) (.cons (.b false) (.cons (.b false) (.cons (.b false) (.cons (.b false) (.cons (.b false) 
  (.cons (.b false) (.cons (.b false) (.cons (.b false) (.cons (.b false) (.cons (.b false) (.cons (.b false) (.cons (.b false) (.cons (.b false) (.cons (.b false) (.cons (.b 
  false) (.cons (.b false) (.cons (.b false) (.cons (.b false) (.cons (.b false) (.cons (.b false) (.cons (.b false) (.cons (.b false) (.cons (.b false) (.cons (.b false) (.cons 
  (.b false) (.cons (.b false) (.cons (.b false) .nil))))))))))))))))))))))))))))))))))))))))))))))))))))))))))))))))) 65) .nil))) (.seq (.reg (.cons (some x6x) none (.fad 0 (.t 
  x1x)) (.cons (some x7x) none (.ld 1 false (.t x6x)) (.cons (some x8x) none (.build (.cons (.n 0) (.cons (.b false) (.cons (.b false) (.cons (.b false) (.cons (.b false) (.cons 
  (.b false) (.cons (.b false) (.cons (.b false) (.cons (.b false) (.cons (.b false) (.cons (.b false) (.cons (.b false) (.cons (.b false) (.cons (.b false) (.cons (.b false) 
  (.cons (.b false) (.cons (.b false) (.cons (.b false) (.cons (.b false) (.cons (.b false) (.cons (.b false) (.cons (.b false) (.cons (.b false) (.cons (.b false) (.cons (.b 
  false) (.cons (.b false) (.cons (.b false) (.cons (.b false) (.cons (.b false) (.cons (.b false) (.cons (.b false) (.cons (.b false) (.cons (.b false) (.cons (.b false) (.cons 
  (.b false) (.cons (.b false) (.cons (.b false) (.cons (.b false) (.cons (.b false) (.cons (.b false) (.cons (.b false) (.cons (.b false) (.cons (.b false) (.cons (.b false) 
  (.cons (.b false) (.cons (.b false) (.cons (.b false) (.cons (.b false) (.cons (.b false) (.cons (.b false) (.cons (.b false) (.cons (.b false) (.cons (.b false) (.cons (.b 
  false) (.cons (.b false) (.cons (.b false) (.cons (.b false) (.cons (.b false) (.cons (.b false) (.cons (.b false) (.cons (.b false) (.cons (.b false) (.cons (.b false) (.cons 
  (.b false) (.cons (.b false) .nil))))))))))))))))))))))))))))))))))))))))))))))))))))))))))))))))) (.cons 0 1 (.t x7x) .nil)) (.cons (some x3x) none (.alloc 54 (.cons (.n 0) 
  (.cons (.b false) (.cons (.b false) (.cons (.b false) (.cons (.b false) (.cons (.b false) (.cons (.b false) (.cons (.b false) (.cons (.b false) (.cons (.b false) (.cons (.b 
  false) (.cons (.b false) (.cons (.b false) (.cons (.b false) (.cons (.b false) (.cons (.b false) (.cons (.b false) (.cons (.b false) (.cons (.b false) (.cons (.b false) (.cons 
  (.b false) (.cons (.b false) (.cons (.b false) (.cons (.b false) (.cons (.b false) (.cons (.b false) (.cons (.b false) (.cons (.b false) (.cons (.b false) (.cons (.b false) 
  (.cons (.b false) (.cons (.b false) (.cons (.b false) (.cons (.b false) (.cons (.b false) (.cons (.b false) (.cons (.b false) (.cons (.b false) (.cons (.b false) (.cons (.b 
  false) (.cons (.b false) (.cons (.b false) (.cons (.b false) (.cons (.b false) (.cons (.b false) (.cons (.b false) (.cons (.b false) (.cons (.b false) (.cons (.b false) (.cons 
  (.b false) (.cons (.b false) (.cons (.b false) (.cons (.b false) (.cons (.b false) (.cons (.b false) (.cons (.b false) (.cons (.b false) (.cons (.b false) (.cons (.b false) 
  (.cons (.b false) (.cons (.b false) (.cons (.b false) (.cons (.b false) (.cons (.b false) (.cons (.b false) .nil))))))))))))))))))))))))))))))))))))))))))))))))))))))))))))))))) 
  65) (.cons none none (.st 65 (.t x3x) (.t x8x)) .nil)))))) (.seq (.seq (.reg (.cons (some x9x) none (.fad 1 (.t x1x)) (.cons (some x10x) none (.ld 1 false (.t x9x)) (.cons (some 
  x11x) none (.len (.t x10x)) (.cons (some x12x) none (.mv (.c (.n 0))) .nil))))) (.block 0 (.loop (.seq (.reg (.cons (some x13x) none (.bin .lss (.t x12x) (.t x11x)) .nil)) (.seq 
  (.cond (.t x13x) .skip (.exit 0)) (.seq (.block 1 (.seq (.reg (.cons (some x14x) none (.ixs 2 (.t x10x) (.t x12x)) (.cons (some x15x) none (.ld 2 true (.t x14x)) (.cons (some 
  x5x) none (.alloc 33 (.cons (.n 0) (.cons (.n 0) .nil)) 2) (.cons none none (.st 2 (.t x5x) (.t x15x)) .nil))))) (.reg (.cons (some x16x) none (.ixa 2 1 (.t x5x) (.c (.n 0))) 
  (.cons (some x17x) none (.ld 1 false (.t x16x)) (.cons (some x18x) none (.ixa 2 1 (.t x5x) (.c (.n 1))) (.cons (some x19x) none (.ld 1 false (.t x18x)) (.cons (some x20x) none 
  (.call 33 (.cons (.t x3x) (.cons (.t x17x) (.cons (.t x19x) (.cons (.c (.b true)) .nil))))) .nil)))))))) (.reg (.cons (some x21x) none (.bin .add (.t x12x) (.c (.n 1))) (.cons 
  (some x12x) none (.mv (.t x21x)) .nil))))))))) (.seq (.reg (.cons (some x22x) none (.ld 65 true (.t x3x)) (.cons none none (.st 65 (.t x2x) (.t x22x)) .nil))) .ret)))) [(.cell 
  x2x 65 true)])
theorem cc19 : compF Tryz.prog drops true true Tryz.f19 = some i19 := by kernel_rfl
noncomputable def i20 : FnI := (.mk true true (.seq (.reg (.cons (some x1x) none (.box 54 (.t x0x)) (.cons (some x2x) none (.alloc 56 (.cons (.n 0) (.cons (.n 0) (.cons (.n 0) .nil))) 3) (.cons (some x3x) none 
  (.mv (.c (.b false))) .nil)))) (.seq (.reg (.cons (some x4x) none (.alloc 56 (.cons (.n 0) (.cons (.n 0) (.cons (.n 0) .nil))) 3) .nil)) (.seq (.reg (.cons (some x5x) none (.mv 
  (.c (.b false))) .nil)) (.seq .skip (.seq (.seq (.reg (.cons (some x9x) none (.fad 0 (.t x1x)) (.cons (some x10x) none (.ld 1 false (.t x9x)) (.cons (some x11x) none (.mv (.c (.n 
  0))) .nil)))) (.block 0 (.loop (.seq (.reg (.cons (some x12x) none (.bin .lss (.t x11x) (.t x10x)) .nil)) (.seq (.cond (.t x12x) .skip (.exit 0)) (.seq (.block 1 (.seq (.reg 
  (.cons (some x13x) none (.mv (.t x11x)) (.cons (some x6x) none (.mv (.t x13x)) .nil))) (.seq (.reg (.cons (some x14x) none (.fad 0 (.t x1x)) (.cons (some x15x) none (.ld 1 false 
  (.t x14x)) (.cons (some x16x) none (.mv (.c (.n 0))) .nil)))) (.block 2 (.loop (.seq (.reg (.cons (some x17x) none (.bin .lss (.t x16x) (.t x15x)) .nil)) (.seq (.cond (.t x17x) 
  .skip (.exit 2)) (.seq (.block 3 (.seq (.reg (.cons (some x18x) none (.mv (.t x16x)) (.cons (some x7x) none (.mv (.t x18x)) .nil))) (.seq (.reg (.cons (some x19x) none (.fad 0 
  (.t x1x)) (.cons (some x20x) none (.ld 1 false (.t x19x)) (.cons (some x21x) none (.mv (.c (.n 0))) .nil)))) (.block 4 (.loop (.seq (.reg (.cons (some x22x) none (.bin .lss (.t 
  x21x) (.t x20x)) .nil)) (.seq (.cond (.t x22x) .skip (.exit 4)) (.seq (.block 5 (.seq (.reg (.cons (some x23x) none (.mv (.t x21x)) (.cons (some x8x) none (.mv (.t x23x)) .nil))) 
  (.seq (.reg (.cons (some x24x) none (.mv (.t x6x)) (.cons (some x25x) none (.mv (.t x8x)) (.cons (some x26x) none (.fad 1 (.t x1x)) (.cons (some x27x) none (.ixa 8 8 (.t x26x) 
  (.t x24x)) (.cons (some x28x) none (.ixa 8 1 (.t x27x) (.t x25x)) (.cons (some x29x) none (.ld 1 false (.t x28x)) (.cons (some x30x) none (.mv (.t x29x)) (.cons (some x31x) (some 
  (.mk x30x true)) (.mv (.t x6x)) (.cons (some x32x) (some (.mk x30x true)) (.mv (.t x7x)) (.cons (some x33x) (some (.mk x30x true)) (.fad 1 (.t x1x)) (.cons (some x34x) (some (.mk 
  x30x true)) (.ixa 8 8 (.t x33x) (.t x31x)) (.cons (some x35x) (some (.mk x30x true)) (.ixa 8 1 (.t x34x) (.t x32x)) (.cons (some x36x) (some (.mk x30x true)) (.ld 1 false (.t 
  x35x)) (.cons (some x37x) (some (.mk x30x true)) (.not (.t x36x)) (.cons (some x38x) none (.pick (.t x30x) (.t x37x) (.c (.b false))) (.cons (some x39x) none (.mv (.t x38x)) 
  (.cons (some x40x) (some (.mk x39x true)) (.mv (.t x7x)) (.cons (some x41x) (some (.mk x39x true)) (.mv (.t x8x)) (.cons (some x42x) (some (.mk x39x true)) (.fad 1 (.t x1x)) 
  (.cons (some x43x) (some (.mk x39x true)) (.ixa 8 8 (.t x42x) (.t x40x)) (.cons (some x44x) (some (.mk x39x true)) (.ixa 8 1 (.t x43x) (.t x41x)) (.cons (some x45x) (some (.mk 
  x39x true)) (.ld 1 false (.t x44x)) (.cons (some x46x) (some (.mk x39x true)) (.not (.t x45x)) (.cons (some x47x) none (.pick (.t x39x) (.t x46x) (.c (.b false))) 
  .nil))))))))))))))))))))))))) (.cond (.t x47x) (.seq (.reg (.cons (some x48x) none (.mv (.t x6x)) (.cons (some x49x) none (.mv (.t x7x)) (.cons (some x50x) none (.mv (.t x8x)) 
  (.cons (some x51x) none (.build (.cons (.n 0) (.cons (.n 0) (.cons (.n 0) .nil))) (.cons 0 1 (.t x48x) (.cons 1 1 (.t x49x) (.cons 2 1 (.t x50x) .nil)))) (.cons none none (.st 3 
  (.t x4x) (.t x51x)) (.cons (some x5x) none (.mv (.c (.b true))) .nil))))))) (.exit 0)) .skip)))) (.reg (.cons (some x52x) none (.bin .add (.t x21x) (.c (.n 1))) (.cons (some 
  x21x) none (.mv (.t x52x)) .nil))))))))))) (.reg (.cons (some x53x) none (.bin .add (.t x16x) (.c (.n 1))) (.cons (some x16x) none (.mv (.t x53x)) .nil))))))))))) (.reg (.cons 
  (some x54x) none (.bin .add (.t x11x) (.c (.n 1))) (.cons (some x11x) none (.mv (.t x54x)) .nil))))))))) (.seq (.reg (.cons (some x55x) none (.ld 3 true (.t x4x)) (.cons (some 
  x56x) none (.mv (.t x5x)) (.cons none none (.st 3 (.t x2x) (.t x55x)) (.cons (some x3x) none (.mv (.t x56x)) .nil))))) .ret)))))) [(.cell x2x 3 true), (.tmp x3x)])
theorem cc20 : compF Tryz.prog drops true true Tryz.f20 = some i20 := by kernel_rfl
noncomputable def i21 : FnI := (.mk true false (.seq (.reg (.cons (some x1x) none (.box 54 (.t x0x)) (.cons (some x2x) none (.mv (.c .ns)) .nil))) (.seq (.reg (.cons (some x3x) none (.mv (.c .ns)) .nil)) (.seq 
  (.seq (.reg (.cons (some x6x) none (.fad 0 (.t x1x)) (.cons (some x7x) none (.ld 1 false (.t x6x)) (.cons (some x8x) none (.mv (.c (.n 0))) .nil)))) (.block 0 (.loop (.seq (.reg 
  (.cons (some x9x) none (.bin .lss (.t x8x) (.t x7x)) .nil)) (.seq (.cond (.t x9x) .skip (.exit 0)) (.seq (.block 1 (.seq (.reg (.cons (some x10x) none (.mv (.t x8x)) (.cons (some 
  x4x) none (.mv (.t x10x)) .nil))) (.seq (.reg (.cons (some x11x) none (.ld 65 true (.t x1x)) (.cons (some x12x) none (.mv (.t x4x)) (.cons (some x13x) none (.call 34 (.cons (.t 
  x11x) (.cons (.t x12x) .nil))) (.cons (some x5x) none (.mv (.t x13x)) .nil))))) (.seq (.reg (.cons (some x14x) none (.mv (.t x5x)) (.cons (some x15x) none (.ixs 1 (.t x14x) (.c 
  (.n 0))) (.cons (some x16x) none (.ld 1 false (.t x15x)) (.cons (some x17x) none (.mv (.t x4x)) (.cons (some x18x) none (.bin .eql (.t x16x) (.t x17x)) .nil)))))) (.cond (.t 
  x18x) (.reg (.cons (some x19x) none (.mv (.t x3x)) (.cons (some x20x) none (.mv (.t x5x)) (.cons (some x21x) none (.bsl 25 1 1 (.cons .ns .nil) (.cons 0 1 (.t x20x) .nil)) (.cons 
  (some x22x) none (.app 25 1 24 (.t x19x) (.t x21x)) (.cons (some x3x) none (.mv (.t x22x)) .nil)))))) .skip))))) (.reg (.cons (some x23x) none (.bin .add (.t x8x) (.c (.n 1))) 
  (.cons (some x8x) none (.mv (.t x23x)) .nil))))))))) (.seq (.reg (.cons (some x24x) none (.mv (.t x3x)) (.cons (some x2x) none (.mv (.t x24x)) .nil))) .ret)))) [(.tmp x2x)])
theorem cc21 : compF Tryz.prog drops true false Tryz.f21 = some i21 := by kernel_rfl
noncomputable def i22 : FnI := (.mk true false (.seq (.reg (.cons (some x1x) none (.box 54 (.t x0x)) (.cons (some x2x) none (.mv (.c .ns)) .nil))) (.seq (.reg (.cons (some x3x) none (.mv (.c .ns)) .nil)) (.seq 
  (.seq (.reg (.cons (some x6x) none (.ld 65 true (.t x1x)) (.cons (some x7x) none (.call 35 (.cons (.t x6x) .nil)) (.cons (some x8x) none (.len (.t x7x)) (.cons (some x9x) none 
  (.mv (.c (.n 0))) .nil))))) (.block 0 (.loop (.seq (.reg (.cons (some x10x) none (.bin .lss (.t x9x) (.t x8x)) .nil)) (.seq (.cond (.t x10x) .skip (.exit 0)) (.seq (.block 1 
  (.seq (.reg (.cons (some x11x) none (.ixs 1 (.t x7x) (.t x9x)) (.cons (some x12x) none (.ld 1 false (.t x11x)) (.cons (some x5x) none (.mv (.t x12x)) .nil)))) (.seq (.reg (.cons 
  (some x13x) none (.mv (.t x5x)) (.cons (some x14x) none (.len (.t x13x)) (.cons (some x15x) none (.mv (.t x3x)) (.cons (some x16x) none (.len (.t x15x)) (.cons (some x17x) none 
  (.bin .gtr (.t x14x) (.t x16x)) .nil)))))) (.cond (.t x17x) (.reg (.cons (some x18x) none (.mv (.t x5x)) (.cons (some x3x) none (.mv (.t x18x)) .nil))) .skip)))) (.reg (.cons 
  (some x19x) none (.bin .add (.t x9x) (.c (.n 1))) (.cons (some x9x) none (.mv (.t x19x)) .nil))))))))) (.seq (.reg (.cons (some x20x) none (.mv (.t x3x)) (.cons (some x2x) none 
  (.mv (.t x20x)) .nil))) .ret)))) [(.tmp x2x)])
theorem cc22 : compF Tryz.prog drops true false Tryz.f22 = some i22 := by kernel_rfl
noncomputable def i23 : FnI := (.mk true true (.seq (.reg (.cons (some x2x) none (.mv (.c (.b false))) .nil)) (.seq (.reg (.cons (some x3x) none (.mv (.t x0x)) (.cons (some x4x) none (.bin .geq (.t x3x) (.c (.n 
  1))) (.cons (some x5x) none (.mv (.t x4x)) (.cons (some x6x) (some (.mk x5x true)) (.mv (.t x0x)) (.cons (some x7x) (some (.mk x5x true)) (.bin .leq (.t x6x) (.c (.n 8))) (.cons 
  (some x8x) none (.pick (.t x5x) (.t x7x) (.c (.b false))) (.cons (some x2x) none (.mv (.t x8x)) .nil)))))))) .ret)) [(.tmp x2x)])
theorem cc23 : compF Tryz.prog drops true true Tryz.f23 = some i23 := by kernel_rfl
noncomputable def i24 : FnI := (.mk true true (.seq (.reg (.cons (some x4x) none (.alloc 54 (.cons (.n 0) (.cons (.b false) (.cons (.b false) (.cons (.b false) (.cons (.b false) (.cons (.b false) (.cons (.b 
  false) (.cons (.b false) (.cons (.b false) (.cons (.b false) (.cons (.b false) (.cons (.b false) (.cons (.b false) (.cons (.b false) (.cons (.b false) (.cons (.b false) (.cons 
  (.b false) (.cons (.b false) (.cons (.b false) (.cons (.b false) (.cons (.b false) (.cons (.b false) (.cons (.b false) (.cons (.b false) (.cons (.b false) (.cons (.b false) 
  (.cons (.b false) (.cons (.b false) (.cons (.b false) (.cons (.b false) (.cons (.b false) (.cons (.b false) (.cons (.b false) (.cons (.b false) (.cons (.b false) (.cons (.b 
  false) (.cons (.b false) (.cons (.b false) (.cons (.b false) (.cons (.b false) (.cons (.b false) (.cons (.b false) (.cons (.b false) (.cons (.b false) (.cons (.b false) (.cons 
  (.b false) (.cons (.b false) (.cons (.b false) (.cons (.b false) (.cons (.b false) (.cons (.b false) (.cons (.b false) (.cons (.b false) (.cons (.b false) (.cons (.b false) 
  (.cons (.b false) (.cons (.b false) (.cons (.b false) (.cons (.b false) (.cons (.b false) (.cons (.b false) (.cons (.b false) (.cons (.b false) (.cons (.b false) (.cons (.b 
  false) .nil))))))))))))))))))))))))))))))))))))))))))))))))))))))))))))))))) 65) .nil)) (.seq (.reg (.cons (some x8x) none (.mv (.t x0x)) (.cons (some x9x) none (.build (.cons 
  (.n 0) (.cons (.b false) (.cons (.b false) (.cons (.b false) (.cons (.b false) (.cons (.b false) (.cons (.b false) (.cons (.b false) (.cons (.b false) (.cons (.b false) (.cons 
  (.b false) (.cons (.b false) (.cons (.b false) (.cons (.b false) (.cons (.b false) (.cons (.b false) (.cons (.b false) (.cons (.b false) (.cons (.b false) (.cons (.b false) 
  (.cons (.b false) (.cons (.b false) (.cons (.b false) (.cons (.b false) (.cons (.b false) (.cons (.b false) (.cons (.b false) (.cons (.b false) (.cons (.b false) (.cons (.b 
  false) (.cons (.b false) (.cons (.b false) (.cons (.b false) (.cons (.b false) (.cons (.b false) (.cons (.b false) (.cons (.b false) (.cons (.b false) (.cons (.b false) (.cons 
  (.b false) (.cons (.b false) (.cons (.b false) (.cons (.b false) (.cons (.b false) (.cons (.b false) (.cons (.b false) (.cons (.b false) (.cons (.b false) (.cons (.b false) 
  (.cons (.b false) (.cons (.b false) (.cons (.b false) (.cons (.b false) (.cons (.b false) (.cons (.b false) (.cons (.b false) (.cons (.b false) (.cons (.b false) (.cons (.b 
  false) (.cons (.b false) (.cons (.b false) (.cons (.b false) (.cons (.b false) (.cons (.b false) (.cons (.b false) 
  .nil))))))))))))))))))))))))))))))))))))))))))))))))))))))))))))))))) (.cons 0 1 (.t x8x) .nil)) (.cons (some x5x) none (.alloc 54 (.cons (.n 0) (.cons (.b false) (.cons (.b 
  false) (.cons (.b false) (.cons (.b false) (.cons (.b false) (.cons (.b false) (.cons (.b false) (.cons (.b false) (.cons (.b false) (.cons (.b false) (.cons (.b false) (.cons 
  (.b false) (.cons (.b false) (.cons (.b false) (.cons (.b false) (.cons (.b false) (.cons (.b false) (.cons (.b false) (.cons (.b false) (.cons (.b false) (.cons (.b false) 
  (.cons (.b false) (.cons (.b false) (.cons (.b false) (.cons (.b false) (.cons (.b false) (.cons (.b false) (.cons (.b false) (.cons (.b false) (.cons (.b false) (.cons (.b 
  false) (.cons (.b false) (.cons (.b false) (.cons (.b false) (.cons (.b false) (.cons (.b false) (.cons (.b false) (.cons (.b false) (.cons (.b false) (.cons (.b false) (.cons 
  (.b false) (.cons (.b false) (.cons (.b false) (.cons (.b false) (.cons (.b false) (.cons (.b false) (.cons (.b false) (.cons (.b false) (.cons (.b false) (.cons (.b false) 
  (.cons (.b false) (.cons (.b false) (.cons (.b false) (.cons (.b false) (.cons (.b false) (.cons (.b false) (.cons (.b false) (.cons (.b false) (.cons (.b false) (.cons (.b 
  false) (.cons (.b false) (.cons (.b false) (.cons (.b false) (.cons (.b false) .nil))))))))))))))))))))))))))))))))))))))))))))))))))))))))))))))))) 65) (.cons none none (.st 65 
  (.t x5x) (.t x9x)) .nil))))) (.seq (.seq (.reg (.cons (some x10x) none (.mv (.t x0x)) (.cons (some x11x) none (.mv (.c (.n 0))) .nil))) (.block 0 (.loop (.seq (.reg (.cons (some 
  x12x) none (.bin .lss (.t x11x) (.t x10x)) .nil)) (.seq (.cond (.t x12x) .skip (.exit 0)) (.seq (.block 1 (.seq (.reg (.cons (some x13x) none (.mv (.t x11x)) (.cons (some x6x) 
  none (.mv (.t x13x)) .nil))) (.seq (.reg (.cons (some x14x) none (.mv (.t x6x)) (.cons (some x15x) none (.mv (.c (.n 0))) .nil))) (.block 2 (.loop (.seq (.reg (.cons (some x16x) 
  none (.bin .lss (.t x15x) (.t x14x)) .nil)) (.seq (.cond (.t x16x) .skip (.exit 2)) (.seq (.block 3 (.seq (.reg (.cons (some x17x) none (.mv (.t x15x)) (.cons (some x7x) none 
  (.mv (.t x17x)) .nil))) (.draw [(.mk (some x18x) none true [] false [] [] [x6x] (.mv (.t x6x)) false [] [] []), (.mk (some x19x) none true [] false [false] [] [x7x] (.mv (.t 
  x7x)) false [] [] []), (.mk (some x20x) none true [] false [false, false] [] [x6x] (.mv (.t x6x)) false [] [] []), (.mk (some x21x) none true [] false [false, false, false] [] 
  [x1x] (.mv (.t x1x)) false [] [] []), (.mk (some x22x) none true [] false [true, true, false, false] [] [x20x, x21x] (.bin .rem (.t x20x) (.t x21x)) false [] [] []), (.mk (some 
  x23x) none true [] false [false, false, false, false, false] [] [x7x] (.mv (.t x7x)) false [] [] []), (.mk (some x24x) none true [] false [false, false, false, false, false, 
  false] [] [x1x] (.mv (.t x1x)) false [] [] []), (.mk (some x25x) none true [] false [true, true, false, false, false, false, false] [] [x23x, x24x] (.bin .rem (.t x23x) (.t 
  x24x)) false [] [] []), (.mk (some x26x) none true [] false [true, true, true, true, true, true, false, false] [] [x22x, x25x] (.bin .neq (.t x22x) (.t x25x)) false [] [] []), 
  (.mk (some x27x) none true [] false [] [] [] (.call 33 (.cons (.t x5x) (.cons (.t x18x) (.cons (.t x19x) (.cons (.t x26x) .nil))))) true [] [] [])]))) (.reg (.cons (some x28x) 
  none (.bin .add (.t x15x) (.c (.n 1))) (.cons (some x15x) none (.mv (.t x28x)) .nil))))))))))) (.reg (.cons (some x29x) none (.bin .add (.t x11x) (.c (.n 1))) (.cons (some x11x) 
  none (.mv (.t x29x)) .nil))))))))) (.seq (.reg (.cons (some x30x) none (.ld 65 true (.t x5x)) (.cons none none (.st 65 (.t x4x) (.t x30x)) .nil))) .ret)))) [(.cell x4x 65 true)])
theorem cc24 : compF Tryz.prog drops true true Tryz.f24 = some i24 := by kernel_rfl
noncomputable def i25 : FnI := (.mk true true (.seq (.reg (.cons (some x1x) none (.box 54 (.t x0x)) (.cons (some x2x) none (.mv (.c (.n 0))) .nil))) (.seq (.reg (.cons (some x3x) none (.ld 65 true (.t x1x)) 
  (.cons (some x4x) none (.call 36 (.cons (.t x3x) .nil)) (.cons (some x5x) none (.part 1 1 false (.t x4x)) (.cons (some x6x) none (.len (.t x5x)) (.cons (some x2x) none (.mv (.t 
  x6x)) .nil)))))) .ret)) [(.tmp x2x)])
theorem cc25 : compF Tryz.prog drops true true Tryz.f25 = some i25 := by kernel_rfl
noncomputable def i26 : FnI := (.mk true false (.seq (.reg (.cons (some x1x) none (.box 32 (.t x0x)) (.cons (some x2x) none (.mv (.c .ns)) (.cons (some x3x) none (.mv (.c (.n 0))) .nil)))) (.seq (.seq (.reg 
  (.cons (some x5x) none (.ld 2 true (.t x1x)) (.cons (some x6x) none (.call 18 (.cons (.t x5x) .nil)) (.cons (some x4x) none (.mv (.t x6x)) .nil)))) (.seq (.reg (.cons (some x7x) 
  none (.mv (.t x4x)) (.cons (some x8x) none (.bin .neq (.t x7x) (.c (.n 0))) .nil))) (.cond (.t x8x) (.seq (.reg (.cons (some x9x) none (.mv (.t x4x)) (.cons (some x2x) none (.mv 
  (.c .ns)) (.cons (some x3x) none (.mv (.t x9x)) .nil)))) .ret) .skip))) (.seq (.reg (.cons (some x10x) none (.ld 2 true (.t x1x)) (.cons (some x11x) none (.call 19 (.cons (.t 
  x10x) .nil)) (.cons (some x12x) none (.call 37 (.cons (.t x11x) .nil)) (.cons (some x2x) none (.mv (.t x12x)) (.cons (some x3x) none (.mv (.c (.n 0))) .nil)))))) .ret))) [(.tmp 
  x2x), (.tmp x3x)])
theorem cc26 : compF Tryz.prog drops true false Tryz.f26 = some i26 := by kernel_rfl
noncomputable def i27 : FnI := (.mk true true (.seq (.reg (.cons (some x4x) none (.mv (.c (.b false))) .nil)) (.seq (.seq (.reg (.cons (some x6x) none (.mv (.t x0x)) (.cons (some x7x) none (.len (.t x6x)) (.cons 
  (some x8x) none (.mv (.t x1x)) (.cons (some x9x) none (.len (.t x8x)) (.cons (some x10x) none (.bin .neq (.t x7x) (.t x9x)) .nil)))))) (.cond (.t x10x) (.seq (.reg (.cons (some 
  x4x) none (.mv (.c (.b false))) .nil)) .ret) .skip)) (.seq (.seq (.reg (.cons (some x11x) none (.mv (.t x0x)) (.cons (some x12x) none (.len (.t x11x)) (.cons (some x13x) none 
  (.mv (.c (.n 0))) .nil)))) (.block 0 (.loop (.seq (.reg (.cons (some x14x) none (.bin .lss (.t x13x) (.t x12x)) .nil)) (.seq (.cond (.t x14x) .skip (.exit 0)) (.seq (.block 1 
  (.seq (.reg (.cons (some x15x) none (.mv (.t x13x)) (.cons (some x5x) none (.mv (.t x15x)) .nil))) (.seq (.draw [(.mk (some x16x) none true [] false [] [] [x0x] (.mv (.t x0x)) 
  false [] [] []), (.mk (some x17x) none true [] false [false] [] [x5x] (.mv (.t x5x)) false [] [] []), (.mk (some x18x) none true [] false [true, true] [] [x16x, x17x] (.ixs 1 (.t 
  x16x) (.t x17x)) false [] [] []), (.mk (some x19x) none false [] false [true, true, true] [] [x18x] (.ld 1 false (.t x18x)) false [] [] []), (.mk (some x20x) none true [] false 
  [false, false, false, false] [] [x1x] (.mv (.t x1x)) false [] [] []), (.mk (some x21x) none true [] false [false, false, false, false, false] [] [x5x] (.mv (.t x5x)) false [] [] 
  []), (.mk (some x22x) none true [] false [true, true, false, false, false, false] [] [x20x, x21x] (.ixs 1 (.t x20x) (.t x21x)) false [] [] []), (.mk (some x23x) none false [] 
  false [true, true, true, false, false, false, false] [] [x22x] (.ld 1 false (.t x22x)) false [] [] []), (.mk (some x24x) none true [] false [true, true, true, true, true, true, 
  true, true] [] [x19x, x23x] (.bin .neq (.t x19x) (.t x23x)) false [] [] [])]) (.cond (.t x24x) (.seq (.reg (.cons (some x4x) none (.mv (.c (.b false))) .nil)) .ret) .skip)))) 
  (.reg (.cons (some x25x) none (.bin .add (.t x13x) (.c (.n 1))) (.cons (some x13x) none (.mv (.t x25x)) .nil))))))))) (.seq (.reg (.cons (some x4x) none (.mv (.c (.b true))) 
  .nil)) .ret)))) [(.tmp x4x)])
theorem cc27 : compF Tryz.prog drops true true Tryz.f27 = some i27 := by kernel_rfl
noncomputable def i28 : FnI := (.mk true false (.seq (.reg (.cons (some x2x) none (.mv (.c .ns)) .nil)) (.seq (.reg (.cons (some x3x) none (.mv (.t x0x)) (.cons (some x2x) none (.mv (.t x3x)) .nil))) .ret)) 
  [(.tmp x2x)])
theorem cc28 : compF Tryz.prog drops true false Tryz.f28 = some i28 := by kernel_rfl
noncomputable def i29 : FnI := (compF Tryz.prog drops true true Tryz.f29).getD (.mk false false .skip [])
theorem cc29 : compF Tryz.prog drops true true Tryz.f29 = some i29 := by kernel_rfl
noncomputable def i30 : FnI := (.mk false false (.seq (.reg (.cons (some x4x) none (.box 46 (.t x1x)) (.cons (some x6x) none (.mv (.c (.n 0))) .nil))) (.seq (.seq (.reg (.cons (some x11x) none (.mv (.t x0x)) 
  (.cons (some x12x) none (.ld 2 true (.t x4x)) (.cons (some x13x) none (.lkp (.sh (.st (.cons 0 1 false .int (.cons 1 1 false .int .nil)))) (.n 0) true (.t x11x) (.t x12x)) (.cons 
  (some x10x) none (.mv (.t x13x)) (.cons (some x14x) none (.ext 0 (.t x10x)) (.cons (some x15x) none (.ext 1 (.t x10x)) (.cons (some x7x) none (.mv (.t x14x)) (.cons (some x8x) 
  none (.mv (.t x15x)) .nil))))))))) (.seq (.reg (.cons (some x16x) none (.mv (.t x8x)) .nil)) (.cond (.t x16x) (.seq (.reg (.cons (some x17x) none (.mv (.t x7x)) (.cons (some x6x) 
  none (.mv (.t x17x)) .nil))) .ret) .skip))) (.seq (.reg (.cons (some x18x) none (.mv (.t x2x)) (.cons (some x19x) none (.callv (.t x18x) .nil) (.cons (some x9x) none (.mv (.t 
  x19x)) .nil)))) (.seq (.reg (.cons (some x20x) none (.mv (.t x0x)) (.cons (some x21x) none (.ld 2 true (.t x4x)) (.cons (some x22x) none (.mv (.t x9x)) (.cons none none (.mup 
  (.sh (.st (.cons 0 1 false .int (.cons 1 1 false .int .nil)))) (.t x20x) (.t x21x) (.t x22x)) .nil))))) (.seq (.reg (.cons (some x23x) none (.mv (.t x9x)) (.cons (some x6x) none 
  (.mv (.t x23x)) .nil))) .ret))))) [(.tmp x6x)])
theorem cc30 : compF Tryz.prog drops false false Tryz.f30 = some i30 := by kernel_rfl
noncomputable def i31 : FnI := (.mk false false (.seq (.reg (.cons (some x2x) none (.mv (.c (.n 0))) .nil)) (.seq (.reg (.cons (some x3x) none (.mv (.c (.n 0))) .nil)) (.seq (.seq (.reg (.cons (some x6x) none 
  (.fad 0 (.t x0x)) (.cons (some x7x) none (.ld 1 false (.t x6x)) (.cons (some x8x) none (.fad 1 (.t x0x)) (.cons (some x9x) none (.ld 1 false (.t x8x)) (.cons (some x10x) none 
  (.mm false (.t x7x) (.cons (.t x9x) .nil)) (.cons (some x11x) none (.mv (.c (.n 0))) .nil))))))) (.block 0 (.loop (.seq (.reg (.cons (some x12x) none (.bin .lss (.t x11x) (.t 
  x10x)) .nil)) (.seq (.cond (.t x12x) .skip (.exit 0)) (.seq (.block 1 (.seq (.reg (.cons (some x13x) none (.mv (.t x11x)) (.cons (some x4x) none (.mv (.t x13x)) .nil))) (.seq 
  (.reg (.cons (some x14x) none (.mv (.t x4x)) (.cons (some x15x) none (.bin .add (.t x14x) (.c (.n 1))) (.cons (some x5x) none (.mv (.t x15x)) .nil)))) (.reg (.cons (some x16x) 
  none (.mv (.t x3x)) (.cons (some x17x) none (.ld 1 false (.t x1x)) (.cons (some x18x) none (.fad 0 (.t x0x)) (.cons (some x19x) none (.ld 1 false (.t x18x)) (.cons (some x20x) 
  none (.mv (.t x5x)) (.cons (some x21x) none (.bin .sub (.t x19x) (.t x20x)) (.cons (some x22x) none (.mv (.t x5x)) (.cons (some x23x) none (.build (.cons (.n 0) (.cons (.n 0) 
  .nil)) (.cons 0 1 (.t x21x) (.cons 1 1 (.t x22x) .nil))) (.cons (some x24x) none (.call 14 (.cons (.t x17x) (.cons (.t x23x) .nil))) (.cons (some x25x) none (.bin .add (.t x16x) 
  (.t x24x)) (.cons (some x3x) none (.mv (.t x25x)) .nil))))))))))))))) (.reg (.cons (some x26x) none (.bin .add (.t x11x) (.c (.n 1))) (.cons (some x11x) none (.mv (.t x26x)) 
  .nil))))))))) (.seq (.reg (.cons (some x27x) none (.mv (.t x3x)) (.cons (some x2x) none (.mv (.t x27x)) .nil))) .ret)))) [(.tmp x2x)])
theorem cc31 : compF Tryz.prog drops false false Tryz.f31 = some i31 := by kernel_rfl
noncomputable def i32 : FnI := (.mk true true (.seq (.reg (.cons (some x2x) none (.box 54 (.t x0x)) (.cons (some x4x) none (.mv (.c (.b false))) .nil))) (.seq (.reg (.cons (some x5x) none (.mv (.t x1x)) (.cons 
  (some x6x) none (.bin .geq (.t x5x) (.c (.n 0))) (.cons (some x7x) none (.mv (.t x6x)) (.cons (some x8x) (some (.mk x7x true)) (.mv (.t x1x)) (.cons (some x9x) (some (.mk x7x 
  true)) (.fad 0 (.t x2x)) (.cons (some x10x) (some (.mk x7x true)) (.ld 1 false (.t x9x)) (.cons (some x11x) (some (.mk x7x true)) (.bin .lss (.t x8x) (.t x10x)) (.cons (some 
  x12x) none (.pick (.t x7x) (.t x11x) (.c (.b false))) (.cons (some x4x) none (.mv (.t x12x)) .nil)))))))))) .ret)) [(.tmp x4x)])
theorem cc32 : compF Tryz.prog drops true true Tryz.f32 = some i32 := by kernel_rfl
noncomputable def i33 : FnI := (.mk false false (.seq (.reg (.cons (some x8x) none (.mv (.t x0x)) (.cons (some x9x) none (.mv (.t x1x)) (.cons (some x10x) none (.mv (.t x2x)) (.cons (some x11x) none (.mv (.t 
  x3x)) (.cons (some x12x) none (.nilck (.t x8x)) (.cons (some x13x) none (.fad 1 (.t x12x)) (.cons (some x14x) none (.ixa 8 8 (.t x13x) (.t x9x)) (.cons (some x15x) none (.ixa 8 1 
  (.t x14x) (.t x10x)) (.cons none none (.st 1 (.t x15x) (.t x11x)) .nil)))))))))) (.reg (.cons (some x16x) none (.mv (.t x0x)) (.cons (some x17x) none (.mv (.t x2x)) (.cons (some 
  x18x) none (.mv (.t x1x)) (.cons (some x19x) none (.mv (.t x3x)) (.cons (some x20x) none (.nilck (.t x16x)) (.cons (some x21x) none (.fad 1 (.t x20x)) (.cons (some x22x) none 
  (.ixa 8 8 (.t x21x) (.t x17x)) (.cons (some x23x) none (.ixa 8 1 (.t x22x) (.t x18x)) (.cons none none (.st 1 (.t x23x) (.t x19x)) .nil))))))))))) [])
theorem cc33 : compF Tryz.prog drops false false Tryz.f33 = some i33 := by kernel_rfl
noncomputable def i34 : FnI := (.mk true false (.seq (.reg (.cons (some x2x) none (.box 54 (.t x0x)) (.cons (some x4x) none (.mv (.c .ns)) .nil))) (.seq (.reg (.cons (some x5x) none (.mv (.c .ns)) .nil)) (.seq 
  (.seq (.reg (.cons (some x7x) none (.fad 0 (.t x2x)) (.cons (some x8x) none (.ld 1 false (.t x7x)) (.cons (some x9x) none (.mv (.c (.n 0))) .nil)))) (.block 0 (.loop (.seq (.reg 
  (.cons (some x10x) none (.bin .lss (.t x9x) (.t x8x)) .nil)) (.seq (.cond (.t x10x) .skip (.exit 0)) (.seq (.block 1 (.seq (.reg (.cons (some x11x) none (.mv (.t x9x)) (.cons 
  (some x6x) none (.mv (.t x11x)) .nil))) (.seq (.reg (.cons (some x12x) none (.mv (.t x1x)) (.cons (some x13x) none (.mv (.t x6x)) (.cons (some x14x) none (.fad 1 (.t x2x)) (.cons 
  (some x15x) none (.ixa 8 8 (.t x14x) (.t x12x)) (.cons (some x16x) none (.ixa 8 1 (.t x15x) (.t x13x)) (.cons (some x17x) none (.ld 1 false (.t x16x)) (.cons (some x18x) none 
  (.not (.t x17x)) .nil)))))))) (.cond (.t x18x) (.reg (.cons (some x19x) none (.mv (.t x5x)) (.cons (some x20x) none (.mv (.t x6x)) (.cons (some x21x) none (.bsl 3 1 1 (.cons (.n 
  0) .nil) (.cons 0 1 (.t x20x) .nil)) (.cons (some x22x) none (.app 3 1 8 (.t x19x) (.t x21x)) (.cons (some x5x) none (.mv (.t x22x)) .nil)))))) .skip)))) (.reg (.cons (some x23x) 
  none (.bin .add (.t x9x) (.c (.n 1))) (.cons (some x9x) none (.mv (.t x23x)) .nil))))))))) (.seq (.reg (.cons (some x24x) none (.mv (.t x5x)) (.cons (some x4x) none (.mv (.t 
  x24x)) .nil))) .ret)))) [(.tmp x4x)])
theorem cc34 : compF Tryz.prog drops true false Tryz.f34 = some i34 := by kernel_rfl
noncomputable def i35 : FnI := (.mk true false (.seq (.reg (.cons (some x1x) none (.box 54 (.t x0x)) (.cons (some x2x) none (.mv (.c .ns)) .nil))) (.seq (.reg (.cons (some x3x) none (.ld 65 true (.t x1x)) (.cons 
  (some x4x) none (.call 40 (.cons (.t x3x) (.cons (.c .ns) .nil))) (.cons (some x2x) none (.mv (.t x4x)) .nil)))) .ret)) [(.tmp x2x)])
theorem cc35 : compF Tryz.prog drops true false Tryz.f35 = some i35 := by kernel_rfl
noncomputable def i36 : FnI := (.mk true false (.seq (.reg (.cons (some x1x) none (.box 54 (.t x0x)) (.cons (some x2x) none (.alloc 32 (.cons (.n 0) (.cons .ns .nil)) 2) .nil))) (.seq (.reg (.cons (some x6x) 
  none (.fad 0 (.t x1x)) (.cons (some x7x) none (.ld 1 false (.t x6x)) (.cons (some x8x) none (.build (.cons (.n 0) (.cons .ns .nil)) (.cons 0 1 (.t x7x) .nil)) (.cons (some x3x) 
  none (.alloc 32 (.cons (.n 0) (.cons .ns .nil)) 2) (.cons none none (.st 2 (.t x3x) (.t x8x)) .nil)))))) (.seq (.seq (.reg (.cons (some x9x) none (.fad 0 (.t x1x)) (.cons (some 
  x10x) none (.ld 1 false (.t x9x)) (.cons (some x11x) none (.mv (.c (.n 0))) .nil)))) (.block 0 (.loop (.seq (.reg (.cons (some x12x) none (.bin .lss (.t x11x) (.t x10x)) .nil)) 
  (.seq (.cond (.t x12x) .skip (.exit 0)) (.seq (.block 1 (.seq (.reg (.cons (some x13x) none (.mv (.t x11x)) (.cons (some x4x) none (.mv (.t x13x)) .nil))) (.seq (.reg (.cons 
  (some x14x) none (.mv (.t x4x)) (.cons (some x15x) none (.bin .add (.t x14x) (.c (.n 1))) (.cons (some x5x) none (.mv (.t x15x)) .nil)))) (.block 2 (.loop (.seq (.seq (.reg 
  (.cons (some x16x) none (.mv (.t x5x)) (.cons (some x17x) none (.fad 0 (.t x1x)) (.cons (some x18x) none (.ld 1 false (.t x17x)) (.cons (some x19x) none (.bin .lss (.t x16x) (.t 
  x18x)) .nil))))) (.cond (.t x19x) .skip (.exit 2))) (.seq (.block 3 (.seq (.reg (.cons (some x22x) none (.mv (.t x4x)) (.cons (some x23x) none (.mv (.t x5x)) (.cons (some x24x) 
  none (.fad 1 (.t x1x)) (.cons (some x25x) none (.ixa 8 8 (.t x24x) (.t x22x)) (.cons (some x26x) none (.ixa 8 1 (.t x25x) (.t x23x)) (.cons (some x27x) none (.ld 1 false (.t 
  x26x)) .nil))))))) (.cond (.t x27x) (.reg (.cons (some x28x) none (.fad 1 (.t x3x)) (.cons (some x29x) none (.ld 1 false (.t x28x)) (.cons (some x30x) none (.mv (.t x4x)) (.cons 
  (some x31x) none (.mv (.t x5x)) (.cons (some x32x) none (.build (.cons (.n 0) (.cons (.n 0) .nil)) (.cons 0 1 (.t x30x) (.cons 1 1 (.t x31x) .nil))) (.cons (some x33x) none (.bsl 
  33 2 1 (.cons (.n 0) (.cons (.n 0) .nil)) (.cons 0 2 (.t x32x) .nil)) (.cons (some x34x) none (.app 33 2 16 (.t x29x) (.t x33x)) (.cons (some x35x) none (.fad 1 (.t x3x)) (.cons 
  none none (.st 1 (.t x35x) (.t x34x)) .nil)))))))))) .skip))) (.reg (.cons (some x20x) none (.mv (.t x5x)) (.cons (some x21x) none (.bin .add (.t x20x) (.c (.n 1))) (.cons (some 
  x5x) none (.mv (.t x21x)) .nil))))))))))) (.reg (.cons (some x36x) none (.bin .add (.t x11x) (.c (.n 1))) (.cons (some x11x) none (.mv (.t x36x)) .nil))))))))) (.seq (.reg (.cons 
  (some x37x) none (.ld 2 true (.t x3x)) (.cons none none (.st 2 (.t x2x) (.t x37x)) .nil))) .ret)))) [(.cell x2x 2 true)])
theorem cc36 : compF Tryz.prog drops true false Tryz.f36 = some i36 := by kernel_rfl
noncomputable def i37 : FnI := (.mk true false (.seq (.reg (.cons (some x1x) none (.box 54 (.t x0x)) (.cons (some x2x) none (.mv (.c .ns)) .nil))) (.seq (.seq (.reg (.cons (some x8x) none (.ld 65 true (.t x1x)) 
  (.cons (some x9x) none (.call 22 (.cons (.t x8x) .nil)) (.cons (some x10x) none (.len (.t x9x)) (.cons (some x3x) none (.mv (.t x10x)) .nil))))) (.block 0 (.loop (.seq (.seq 
  (.reg (.cons (some x11x) none (.mv (.t x3x)) (.cons (some x12x) none (.fad 0 (.t x1x)) (.cons (some x13x) none (.ld 1 false (.t x12x)) (.cons (some x14x) none (.bin .lss (.t 
  x11x) (.t x13x)) .nil))))) (.cond (.t x14x) .skip (.exit 0))) (.seq (.block 1 (.seq (.reg (.cons (some x18x) none (.ld 65 true (.t x1x)) (.cons (some x19x) none (.mv (.t x3x)) 
  (.cons (some x20x) none (.call 41 (.cons (.t x18x) (.cons (.c .ns) (.cons (.t x19x) .nil)))) (.cons (some x17x) none (.mv (.t x20x)) (.cons (some x21x) none (.ext 0 (.t x17x)) 
  (.cons (some x22x) none (.ext 1 (.t x17x)) (.cons (some x4x) none (.mv (.t x21x)) (.cons (some x5x) none (.mv (.t x22x)) .nil))))))))) (.seq (.reg (.cons (some x23x) none (.mv 
  (.t x5x)) .nil)) (.cond (.t x23x) (.seq (.reg (.cons (some x24x) none (.mv (.t x4x)) (.cons (some x2x) none (.mv (.t x24x)) .nil))) .ret) .skip)))) (.reg (.cons (some x15x) none 
  (.mv (.t x3x)) (.cons (some x16x) none (.bin .add (.t x15x) (.c (.n 1))) (.cons (some x3x) none (.mv (.t x16x)) .nil))))))))) (.seq (.reg (.cons (some x26x) none (.ld 65 true (.t 
  x1x)) (.cons (some x27x) none (.fad 0 (.t x1x)) (.cons (some x28x) none (.ld 1 false (.t x27x)) (.cons (some x29x) none (.call 41 (.cons (.t x26x) (.cons (.c .ns) (.cons (.t 
  x28x) .nil)))) (.cons (some x25x) none (.mv (.t x29x)) (.cons (some x30x) none (.ext 0 (.t x25x)) (.cons (some x31x) none (.ext 1 (.t x25x)) (.cons (some x6x) none (.mv (.t 
  x30x)) (.cons (some x7x) none (.mv (.t x31x)) .nil)))))))))) (.seq (.reg (.cons (some x32x) none (.mv (.t x6x)) (.cons (some x2x) none (.mv (.t x32x)) .nil))) .ret)))) [(.tmp 
  x2x)])
theorem cc37 : compF Tryz.prog drops true false Tryz.f37 = some i37 := by kernel_rfl
noncomputable def i38 : FnI := (.mk true false (.seq (.reg (.cons (some x2x) none (.mv (.c .ns)) (.cons (some x3x) none (.mv (.c (.n 0))) .nil))) (.seq (.seq (.reg (.cons (some x5x) none (.mv (.t x0x)) (.cons 
  (some x6x) none (.call 42 (.cons (.t x5x) .nil)) (.cons (some x4x) none (.mv (.t x6x)) .nil)))) (.seq (.reg (.cons (some x7x) none (.mv (.t x4x)) (.cons (some x8x) none (.bin 
  .neq (.t x7x) (.c (.n 0))) .nil))) (.cond (.t x8x) (.seq (.reg (.cons (some x9x) none (.mv (.t x4x)) (.cons (some x2x) none (.mv (.c .ns)) (.cons (some x3x) none (.mv (.t x9x)) 
  .nil)))) .ret) .skip))) (.seq (.reg (.cons (some x10x) none (.mv (.t x0x)) (.cons (some x11x) none (.call 43 (.cons (.t x10x) .nil)) (.cons (some x2x) none (.mv (.t x11x)) (.cons 
  (some x3x) none (.mv (.c (.n 0))) .nil))))) .ret))) [(.tmp x2x), (.tmp x3x)])
theorem cc38 : compF Tryz.prog drops true false Tryz.f38 = some i38 := by kernel_rfl
noncomputable def i39 : FnI := (compF Tryz.prog drops true true Tryz.f39).getD (.mk false false .skip [])
theorem cc39 : compF Tryz.prog drops true true Tryz.f39 = some i39 := by kernel_rfl
noncomputable def i40 : FnI := (.mk true false (.seq (.reg (.cons (some x2x) none (.box 54 (.t x0x)) (.cons (some x4x) none (.mv (.c .ns)) .nil))) (.seq (.reg (.cons (some x5x) none (.mv (.c (.n 0))) .nil)) 
  (.seq (.seq (.reg (.cons (some x11x) none (.mv (.t x1x)) (.cons (some x12x) none (.len (.t x11x)) (.cons (some x13x) none (.bin .gtr (.t x12x) (.c (.n 0))) .nil)))) (.cond (.t 
  x13x) (.reg (.cons (some x14x) none (.mv (.t x1x)) (.cons (some x15x) none (.mv (.t x1x)) (.cons (some x16x) none (.len (.t x15x)) (.cons (some x17x) none (.bin .sub (.t x16x) 
  (.c (.n 1))) (.cons (some x18x) none (.ixs 1 (.t x14x) (.t x17x)) (.cons (some x19x) none (.ld 1 false (.t x18x)) (.cons (some x20x) none (.bin .add (.t x19x) (.c (.n 1))) (.cons 
  (some x5x) none (.mv (.t x20x)) .nil))))))))) .skip)) (.seq (.reg (.cons (some x6x) none (.mv (.c .ns)) .nil)) (.seq .skip (.seq (.seq (.reg (.cons (some x21x) none (.mv (.t 
  x5x)) (.cons (some x7x) none (.mv (.t x21x)) .nil))) (.block 0 (.loop (.seq (.seq (.reg (.cons (some x22x) none (.mv (.t x7x)) (.cons (some x23x) none (.fad 0 (.t x2x)) (.cons 
  (some x24x) none (.ld 1 false (.t x23x)) (.cons (some x25x) none (.bin .lss (.t x22x) (.t x24x)) .nil))))) (.cond (.t x25x) .skip (.exit 0))) (.seq (.block 1 (.seq (.seq (.reg 
  (.cons (some x28x) none (.mv (.t x1x)) (.cons (some x29x) none (.len (.t x28x)) (.cons (some x30x) none (.mv (.c (.n 0))) .nil)))) (.block 2 (.loop (.seq (.reg (.cons (some x31x) 
  none (.bin .lss (.t x30x) (.t x29x)) .nil)) (.seq (.cond (.t x31x) .skip (.exit 2)) (.seq (.block 3 (.seq (.reg (.cons (some x32x) none (.ixs 1 (.t x28x) (.t x30x)) (.cons (some 
  x33x) none (.ld 1 false (.t x32x)) (.cons (some x9x) none (.mv (.t x33x)) .nil)))) (.seq (.reg (.cons (some x34x) none (.mv (.t x7x)) (.cons (some x35x) none (.mv (.t x9x)) 
  (.cons (some x36x) none (.fad 1 (.t x2x)) (.cons (some x37x) none (.ixa 8 8 (.t x36x) (.t x34x)) (.cons (some x38x) none (.ixa 8 1 (.t x37x) (.t x35x)) (.cons (some x39x) none 
  (.ld 1 false (.t x38x)) (.cons (some x40x) none (.not (.t x39x)) .nil)))))))) (.cond (.t x40x) (.exit 1) .skip)))) (.reg (.cons (some x41x) none (.bin .add (.t x30x) (.c (.n 1))) 
  (.cons (some x30x) none (.mv (.t x41x)) .nil))))))))) (.seq (.reg (.cons (some x42x) none (.mv (.t x1x)) (.cons (some x43x) none (.call 47 (.cons (.t x42x) .nil)) (.cons (some 
  x44x) none (.mv (.t x7x)) (.cons (some x45x) none (.bsl 3 1 1 (.cons (.n 0) .nil) (.cons 0 1 (.t x44x) .nil)) (.cons (some x46x) none (.app 3 1 8 (.t x43x) (.t x45x)) (.cons 
  (some x10x) none (.mv (.t x46x)) .nil))))))) (.seq (.reg (.cons (some x47x) none (.mv (.t x6x)) (.cons (some x48x) none (.mv (.t x10x)) (.cons (some x49x) none (.bsl 25 1 1 
  (.cons .ns .nil) (.cons 0 1 (.t x48x) .nil)) (.cons (some x50x) none (.app 25 1 24 (.t x47x) (.t x49x)) (.cons (some x6x) none (.mv (.t x50x)) .nil)))))) (.reg (.cons (some x51x) 
  none (.mv (.t x6x)) (.cons (some x52x) none (.ld 65 true (.t x2x)) (.cons (some x53x) none (.mv (.t x10x)) (.cons (some x54x) none (.call 40 (.cons (.t x52x) (.cons (.t x53x) 
  .nil))) (.cons (some x55x) none (.app 25 1 24 (.t x51x) (.t x54x)) (.cons (some x6x) none (.mv (.t x55x)) .nil))))))))))) (.reg (.cons (some x26x) none (.mv (.t x7x)) (.cons 
  (some x27x) none (.bin .add (.t x26x) (.c (.n 1))) (.cons (some x7x) none (.mv (.t x27x)) .nil))))))))) (.seq (.reg (.cons (some x56x) none (.mv (.t x6x)) (.cons (some x4x) none 
  (.mv (.t x56x)) .nil))) .ret))))))) [(.tmp x4x)])
theorem cc40 : compF Tryz.prog drops true false Tryz.f40 = some i40 := by kernel_rfl
noncomputable def i41 : FnI := (.mk true false (.seq (.reg (.cons (some x3x) none (.box 54 (.t x0x)) (.cons (some x6x) none (.mv (.c .ns)) (.cons (some x7x) none (.mv (.c (.b false))) .nil)))) (.seq (.reg (.cons 
  (some x14x) none (.mv (.t x1x)) (.cons (some x15x) none (.len (.t x14x)) (.cons (some x8x) none (.mv (.t x15x)) .nil)))) (.seq (.seq (.reg (.cons (some x16x) none (.mv (.t x8x)) 
  (.cons (some x17x) none (.fad 0 (.t x3x)) (.cons (some x18x) none (.ld 1 false (.t x17x)) (.cons (some x19x) none (.bin .eql (.t x16x) (.t x18x)) .nil))))) (.cond (.t x19x) (.seq 
  (.reg (.cons (some x20x) none (.mv (.t x1x)) (.cons (some x6x) none (.mv (.t x20x)) (.cons (some x7x) none (.mv (.c (.b true))) .nil)))) .ret) .skip)) (.seq .skip (.seq (.seq 
  (.reg (.cons (some x21x) none (.mv (.t x2x)) (.cons (some x22x) none (.mv (.c (.n 0))) .nil))) (.block 0 (.loop (.seq (.reg (.cons (some x23x) none (.bin .lss (.t x22x) (.t 
  x21x)) .nil)) (.seq (.cond (.t x23x) .skip (.exit 0)) (.seq (.block 1 (.seq (.reg (.cons (some x24x) none (.mv (.t x22x)) (.cons (some x9x) none (.mv (.t x24x)) .nil))) (.seq 
  (.seq (.reg (.cons (some x25x) none (.mv (.t x1x)) (.cons (some x26x) none (.len (.t x25x)) (.cons (some x27x) none (.mv (.c (.n 0))) .nil)))) (.block 2 (.loop (.seq (.reg (.cons 
  (some x28x) none (.bin .lss (.t x27x) (.t x26x)) .nil)) (.seq (.cond (.t x28x) .skip (.exit 2)) (.seq (.block 3 (.seq (.reg (.cons (some x29x) none (.mv (.t x27x)) (.cons (some 
  x30x) none (.ixs 1 (.t x25x) (.t x27x)) (.cons (some x31x) none (.ld 1 false (.t x30x)) (.cons (some x10x) none (.mv (.t x29x)) (.cons (some x11x) none (.mv (.t x31x)) .nil)))))) 
  (.seq (.reg (.cons (some x32x) none (.mv (.t x11x)) (.cons (some x33x) none (.mv (.t x9x)) (.cons (some x34x) none (.bin .eql (.t x32x) (.t x33x)) (.cons (some x35x) none (.mv 
  (.t x34x)) (.cons (some x36x) (some (.mk x35x true)) (.mv (.t x8x)) (.cons (some x37x) (some (.mk x35x true)) (.mv (.t x10x)) (.cons (some x38x) (some (.mk x35x true)) (.fad 1 
  (.t x3x)) (.cons (some x39x) (some (.mk x35x true)) (.ixa 8 8 (.t x38x) (.t x36x)) (.cons (some x40x) (some (.mk x35x true)) (.ixa 8 1 (.t x39x) (.t x37x)) (.cons (some x41x) 
  (some (.mk x35x true)) (.ld 1 false (.t x40x)) (.cons (some x42x) none (.pick (.t x35x) (.t x41x) (.c (.b false))) .nil)))))))))))) (.cond (.t x42x) (.exit 1) .skip)))) (.reg 
  (.cons (some x43x) none (.bin .add (.t x27x) (.c (.n 1))) (.cons (some x27x) none (.mv (.t x43x)) .nil))))))))) (.seq (.draw [(.mk (some x45x) none false [] false [] [] [x3x] 
  (.ld 65 true (.t x3x)) false [x3x] [] []), (.mk (some x46x) none true [] false [false] [] [x1x] (.mv (.t x1x)) false [] [] []), (.mk (some x47x) none false [] true [true, false] 
  [] [x46x] (.call 47 (.cons (.t x46x) .nil)) false [] [] []), (.mk (some x48x) none true [] false [false, false, false] [] [x9x] (.mv (.t x9x)) false [] [] []), (.mk (some x49x) 
  none true [] true [true, false, false, false] [] [x48x] (.bsl 3 1 1 (.cons (.n 0) .nil) (.cons 0 1 (.t x48x) .nil)) false [] [] []), (.mk (some x50x) none false [x47x, x49x] true 
  [true, true, true, true, false] [] [x47x, x49x] (.app 3 1 8 (.t x47x) (.t x49x)) false [] [x3x] []), (.mk (some x51x) none true [] false [false, false, false, false, false, 
  false] [] [x2x] (.mv (.t x2x)) false [] [] []), (.mk (some x52x) none false [] true [true, true, true, true, true, true, true] [] [x45x, x50x, x51x] (.call 41 (.cons (.t x45x) 
  (.cons (.t x50x) (.cons (.t x51x) .nil)))) false [] [] []), (.mk (some x44x) none true [] false [true, true, true, true, true, true, true, true] [] [x52x] (.mv (.t x52x)) false 
  [] [] []), (.mk (some x53x) none true [] false [true, true, true, true, true, true, true, true, true] [] [x44x] (.ext 0 (.t x44x)) false [] [] []), (.mk (some x54x) none true [] 
  false [false, true, true, true, true, true, true, true, true, true] [] [x44x] (.ext 1 (.t x44x)) false [] [] []), (.mk (some x12x) none true [] false [false, true, true, true, 
  true, true, true, true, true, true, true] [] [x53x] (.mv (.t x53x)) false [] [] []), (.mk (some x13x) none true [] false [true, true, true, true, true, true, true, true, true, 
  true, true, true] [] [x54x] (.mv (.t x54x)) false [] [] [])]) (.seq (.reg (.cons (some x55x) none (.mv (.t x13x)) .nil)) (.cond (.t x55x) (.seq (.reg (.cons (some x56x) none (.mv 
  (.t x12x)) (.cons (some x6x) none (.mv (.t x56x)) (.cons (some x7x) none (.mv (.c (.b true))) .nil)))) .ret) .skip)))))) (.reg (.cons (some x57x) none (.bin .add (.t x22x) (.c 
  (.n 1))) (.cons (some x22x) none (.mv (.t x57x)) .nil))))))))) (.seq (.reg (.cons (some x6x) none (.mv (.c .ns)) (.cons (some x7x) none (.mv (.c (.b false))) .nil))) .ret)))))) 
  [(.tmp x6x), (.tmp x7x)])
theorem cc41 : compF Tryz.prog drops true false Tryz.f41 = some i41 := by kernel_rfl
noncomputable def i42 : FnI := (.mk true true (.seq (.reg (.cons (some x2x) none (.mv (.c (.n 0))) .nil)) (.seq (.block 0 (.seq (.reg (.cons (some x4x) none (.mv (.t x0x)) (.cons (some x5x) none (.call 48 (.cons 
  (.t x4x) .nil)) (.cons (some x6x) none (.not (.t x5x)) (.cons (some x3x) none (.mv (.t x6x)) .nil))))) (.cond (.t x3x) (.seq (.reg (.cons (some x2x) none (.mv (.c (.n 1))) .nil)) 
  .ret) (.seq (.reg (.cons (some x8x) none (.mv (.t x0x)) (.cons (some x9x) none (.bin .gtr (.t x8x) (.c (.n 4))) (.cons (some x7x) none (.mv (.t x9x)) .nil)))) (.cond (.t x7x) 
  (.seq (.reg (.cons (some x2x) none (.mv (.c (.n 3))) .nil)) .ret) .skip))))) (.seq (.reg (.cons (some x2x) none (.mv (.c (.n 0))) .nil)) .ret))) [(.tmp x2x)])
theorem cc42 : compF Tryz.prog drops true true Tryz.f42 = some i42 := by kernel_rfl
noncomputable def i43 : FnI := (.mk true false (.seq (.reg (.cons (some x2x) none (.mv (.c .ns)) .nil)) (.seq (.reg (.cons (some x3x) none (.mv (.c (.n 1))) .nil)) (.block 0 (.loop (.block 1 (.seq (.seq (.reg 
  (.cons (some x7x) none (.mv (.t x0x)) (.cons (some x8x) none (.mv (.t x3x)) (.cons (some x9x) none (.call 49 (.cons (.t x7x) (.cons (.c .ns) (.cons (.t x8x) .nil)))) (.cons (some 
  x6x) none (.mv (.t x9x)) (.cons (some x10x) none (.ext 0 (.t x6x)) (.cons (some x11x) none (.ext 1 (.t x6x)) (.cons (some x4x) none (.mv (.t x10x)) (.cons (some x5x) none (.mv 
  (.t x11x)) .nil))))))))) (.seq (.reg (.cons (some x12x) none (.mv (.t x5x)) .nil)) (.cond (.t x12x) (.seq (.reg (.cons (some x13x) none (.mv (.t x4x)) (.cons (some x2x) none (.mv 
  (.t x13x)) .nil))) .ret) .skip))) (.reg (.cons (some x14x) none (.mv (.t x3x)) (.cons (some x15x) none (.bin .add (.t x14x) (.c (.n 1))) (.cons (some x3x) none (.mv (.t x15x)) 
  .nil)))))))))) [(.tmp x2x)])
theorem cc43 : compF Tryz.prog drops true false Tryz.f43 = some i43 := by kernel_rfl
noncomputable def i44 : FnI := (.mk true false (.seq (.reg (.cons (some x4x) none (.mv (.c .ns)) (.cons (some x5x) none (.mv (.c (.n 0))) .nil))) (.seq (.reg (.cons (some x9x) none (.mv (.t x0x)) (.cons (some 
  x10x) none (.mv (.t x1x)) (.cons (some x11x) none (.call 50 (.cons (.t x9x) (.cons (.t x10x) .nil))) (.cons (some x8x) none (.mv (.t x11x)) (.cons (some x12x) none (.ext 0 (.t 
  x8x)) (.cons (some x13x) none (.ext 1 (.t x8x)) (.cons (some x6x) none (.mv (.t x12x)) (.cons (some x7x) none (.mv (.t x13x)) .nil))))))))) (.seq (.seq (.reg (.cons (some x14x) 
  none (.mv (.t x7x)) (.cons (some x15x) none (.bin .neq (.t x14x) (.c (.n 0))) .nil))) (.cond (.t x15x) (.seq (.reg (.cons (some x16x) none (.mv (.t x7x)) (.cons (some x4x) none 
  (.mv (.c .ns)) (.cons (some x5x) none (.mv (.t x16x)) .nil)))) .ret) .skip)) (.seq (.reg (.cons (some x17x) none (.mv (.t x0x)) (.cons (some x18x) none (.mv (.t x6x)) (.cons 
  (some x19x) none (.call 51 (.cons (.t x17x) (.cons (.t x18x) .nil))) (.cons (some x20x) none (.call 52 (.cons (.t x19x) .nil)) (.cons (some x4x) none (.mv (.t x20x)) (.cons (some 
  x5x) none (.mv (.c (.n 0))) .nil))))))) .ret)))) [(.tmp x4x), (.tmp x5x)])
theorem cc44 : compF Tryz.prog drops true false Tryz.f44 = some i44 := by kernel_rfl
noncomputable def i45 : FnI := (.mk true true (.seq (.reg (.cons (some x6x) none (.mv (.c (.n 0))) (.cons (some x7x) none (.mv (.c (.n 0))) .nil))) (.seq (.reg (.cons (some x11x) none (.mv (.t x0x)) (.cons (some 
  x12x) none (.mv (.t x1x)) (.cons (some x13x) none (.mv (.t x2x)) (.cons (some x14x) none (.call 53 (.cons (.t x11x) (.cons (.t x12x) (.cons (.t x13x) .nil)))) (.cons (some x10x) 
  none (.mv (.t x14x)) (.cons (some x15x) none (.ext 0 (.t x10x)) (.cons (some x16x) none (.ext 1 (.t x10x)) (.cons (some x8x) none (.alloc 85 (.cons (.n 0) (.cons (.n 0) (.cons 
  (.n 0) .nil))) 3) (.cons none none (.st 3 (.t x8x) (.t x15x)) (.cons (some x9x) none (.mv (.t x16x)) .nil))))))))))) (.seq (.seq (.reg (.cons (some x17x) none (.mv (.t x9x)) 
  (.cons (some x18x) none (.bin .neq (.t x17x) (.c (.n 0))) .nil))) (.cond (.t x18x) (.seq (.reg (.cons (some x19x) none (.mv (.t x9x)) (.cons (some x6x) none (.mv (.c (.n 0))) 
  (.cons (some x7x) none (.mv (.t x19x)) .nil)))) .ret) .skip)) (.seq (.reg (.cons (some x20x) none (.ld 3 true (.t x8x)) (.cons (some x21x) none (.call 54 (.cons (.t x20x) .nil)) 
  (.cons (some x6x) none (.mv (.t x21x)) (.cons (some x7x) none (.mv (.c (.n 0))) .nil))))) .ret)))) [(.tmp x6x), (.tmp x7x)])
theorem cc45 : compF Tryz.prog drops true true Tryz.f45 = some i45 := by kernel_rfl
noncomputable def i46 : FnI := (compF Tryz.prog drops true true Tryz.f46).getD (.mk false false .skip [])
theorem cc46 : compF Tryz.prog drops true true Tryz.f46 = some i46 := by kernel_rfl
noncomputable def i47 : FnI := (.mk true false (.seq (.reg (.cons (some x2x) none (.mv (.c .ns)) .nil)) (.seq (.seq (.reg (.cons (some x3x) none (.mv (.t x0x)) (.cons (some x4x) none (.eqn false (.t x3x) (.c 
  .ns)) .nil))) (.cond (.t x4x) (.seq (.reg (.cons (some x2x) none (.mv (.c .ns)) .nil)) .ret) .skip)) (.seq (.reg (.cons (some x5x) none (.bsl 3 1 0 .nil .nil) (.cons (some x6x) 
  none (.mv (.t x0x)) (.cons (some x7x) none (.app 3 1 8 (.t x5x) (.t x6x)) (.cons (some x2x) none (.mv (.t x7x)) .nil))))) .ret))) [(.tmp x2x)])
theorem cc47 : compF Tryz.prog drops true false Tryz.f47 = some i47 := by kernel_rfl
noncomputable def i48 : FnI := (.mk true true (.seq (.reg (.cons (some x2x) none (.mv (.c (.b false))) .nil)) (.seq (.reg (.cons (some x3x) none (.mv (.t x0x)) (.cons (some x4x) none (.bin .geq (.t x3x) (.c (.n 
  1))) (.cons (some x5x) none (.mv (.t x4x)) (.cons (some x6x) (some (.mk x5x true)) (.mv (.t x0x)) (.cons (some x7x) (some (.mk x5x true)) (.bin .leq (.t x6x) (.c (.n 7))) (.cons 
  (some x8x) none (.pick (.t x5x) (.t x7x) (.c (.b false))) (.cons (some x2x) none (.mv (.t x8x)) .nil)))))))) .ret)) [(.tmp x2x)])
theorem cc48 : compF Tryz.prog drops true true Tryz.f48 = some i48 := by kernel_rfl
noncomputable def i49 : FnI := (.mk true false (.seq (.reg (.cons (some x6x) none (.mv (.c .ns)) (.cons (some x7x) none (.mv (.c (.b false))) .nil))) (.seq (.seq (.reg (.cons (some x12x) none (.mv (.t x1x)) 
  (.cons (some x13x) none (.len (.t x12x)) (.cons (some x14x) none (.mv (.t x2x)) (.cons (some x15x) none (.bin .eql (.t x13x) (.t x14x)) .nil))))) (.cond (.t x15x) (.seq (.reg 
  (.cons (some x16x) none (.mv (.t x1x)) (.cons (some x17x) none (.mv (.t x0x)) (.cons (some x18x) none (.mv (.t x1x)) (.cons (some x19x) none (.call 57 (.cons (.t x17x) (.cons (.t 
  x18x) .nil))) (.cons (some x6x) none (.mv (.t x16x)) (.cons (some x7x) none (.mv (.t x19x)) .nil))))))) .ret) .skip)) (.seq (.reg (.cons (some x8x) none (.mv (.c (.n 0))) .nil)) 
  (.seq (.seq (.reg (.cons (some x20x) none (.mv (.t x1x)) (.cons (some x21x) none (.len (.t x20x)) (.cons (some x22x) none (.bin .gtr (.t x21x) (.c (.n 0))) .nil)))) (.cond (.t 
  x22x) (.reg (.cons (some x23x) none (.mv (.t x1x)) (.cons (some x24x) none (.mv (.t x1x)) (.cons (some x25x) none (.len (.t x24x)) (.cons (some x26x) none (.bin .sub (.t x25x) 
  (.c (.n 1))) (.cons (some x27x) none (.ixs 1 (.t x23x) (.t x26x)) (.cons (some x28x) none (.ld 1 false (.t x27x)) (.cons (some x29x) none (.bin .add (.t x28x) (.c (.n 1))) (.cons 
  (some x8x) none (.mv (.t x29x)) .nil))))))))) .skip)) (.seq (.block 0 (.loop (.seq (.seq (.reg (.cons (some x30x) none (.mv (.t x8x)) (.cons (some x31x) none (.mv (.t x0x)) 
  (.cons (some x32x) none (.call 58 (.cons (.t x31x) .nil)) (.cons (some x33x) none (.bin .lss (.t x30x) (.t x32x)) .nil))))) (.cond (.t x33x) .skip (.exit 0))) (.seq (.block 1 
  (.seq (.reg (.cons (some x36x) none (.mv (.t x1x)) (.cons (some x37x) none (.call 47 (.cons (.t x36x) .nil)) (.cons (some x38x) none (.mv (.t x8x)) (.cons (some x39x) none (.bsl 
  3 1 1 (.cons (.n 0) .nil) (.cons 0 1 (.t x38x) .nil)) (.cons (some x40x) none (.app 3 1 8 (.t x37x) (.t x39x)) (.cons (some x9x) none (.mv (.t x40x)) .nil))))))) (.seq (.reg 
  (.cons (some x42x) none (.mv (.t x0x)) (.cons (some x43x) none (.mv (.t x9x)) (.cons (some x44x) none (.mv (.t x2x)) (.cons (some x45x) none (.call 49 (.cons (.t x42x) (.cons (.t 
  x43x) (.cons (.t x44x) .nil)))) (.cons (some x41x) none (.mv (.t x45x)) (.cons (some x46x) none (.ext 0 (.t x41x)) (.cons (some x47x) none (.ext 1 (.t x41x)) (.cons (some x10x) 
  none (.mv (.t x46x)) (.cons (some x11x) none (.mv (.t x47x)) .nil)))))))))) (.seq (.reg (.cons (some x48x) none (.mv (.t x11x)) .nil)) (.cond (.t x48x) (.seq (.reg (.cons (some 
  x49x) none (.mv (.t x10x)) (.cons (some x6x) none (.mv (.t x49x)) (.cons (some x7x) none (.mv (.c (.b true))) .nil)))) .ret) .skip))))) (.reg (.cons (some x34x) none (.mv (.t 
  x8x)) (.cons (some x35x) none (.bin .add (.t x34x) (.c (.n 1))) (.cons (some x8x) none (.mv (.t x35x)) .nil)))))))) (.seq (.reg (.cons (some x6x) none (.mv (.c .ns)) (.cons (some 
  x7x) none (.mv (.c (.b false))) .nil))) .ret)))))) [(.tmp x6x), (.tmp x7x)])
theorem cc49 : compF Tryz.prog drops true false Tryz.f49 = some i49 := by kernel_rfl
noncomputable def i50 : FnI := (.mk true true (.seq (.reg (.cons (some x4x) none (.mv (.c (.i .u64 (.ofNat 0)))) (.cons (some x5x) none (.mv (.c (.n 0))) .nil))) (.seq (.reg (.cons (some x9x) none (.mv (.t x0x)) 
  (.cons (some x10x) none (.mv (.t x1x)) (.cons (some x11x) none (.bsl 25 1 1 (.cons .ns .nil) (.cons 0 1 (.t x10x) .nil)) (.cons (some x12x) none (.build (.cons (.n 0) (.cons .ns 
  .nil)) (.cons 0 1 (.t x9x) (.cons 1 1 (.t x11x) .nil))) (.cons (some x13x) none (.call 59 (.cons (.t x12x) .nil)) (.cons (some x8x) none (.mv (.t x13x)) (.cons (some x14x) none 
  (.ext 0 (.t x8x)) (.cons (some x15x) none (.ext 1 (.t x8x)) (.cons (some x6x) none (.mv (.t x14x)) (.cons (some x7x) none (.mv (.t x15x)) .nil))))))))))) (.seq (.seq (.reg (.cons 
  (some x16x) none (.mv (.t x7x)) (.cons (some x17x) none (.bin .neq (.t x16x) (.c (.n 0))) .nil))) (.cond (.t x17x) (.seq (.reg (.cons (some x18x) none (.mv (.t x7x)) (.cons (some 
  x4x) none (.mv (.c (.i .u64 (.ofNat 0)))) (.cons (some x5x) none (.mv (.t x18x)) .nil)))) .ret) .skip)) (.seq (.reg (.cons (some x19x) none (.mv (.t x6x)) (.cons (some x20x) none 
  (.ixs 1 (.t x19x) (.c (.n 0))) (.cons (some x21x) none (.ld 1 false (.t x20x)) (.cons (some x4x) none (.mv (.t x21x)) (.cons (some x5x) none (.mv (.c (.n 0))) .nil)))))) .ret)))) 
  [(.tmp x4x), (.tmp x5x)])
theorem cc50 : compF Tryz.prog drops true true Tryz.f50 = some i50 := by kernel_rfl
noncomputable def i51 : FnI := (.mk true true (.seq (.reg (.cons (some x4x) none (.mv (.c (.i .u64 (.ofNat 0)))) .nil)) (.seq (.reg (.cons (some x9x) none (.mv (.t x0x)) (.cons (some x10x) none (.call 60 (.cons 
  (.t x9x) .nil)) (.cons (some x5x) none (.mv (.t x10x)) .nil)))) (.seq (.reg (.cons (some x6x) none (.mv (.c (.i .u64 (.ofNat 0)))) .nil)) (.seq (.seq (.reg (.cons (some x11x) 
  none (.mv (.t x0x)) (.cons (some x12x) none (.mv (.c (.n 0))) .nil))) (.block 0 (.loop (.seq (.reg (.cons (some x13x) none (.bin .lss (.t x12x) (.t x11x)) .nil)) (.seq (.cond (.t 
  x13x) .skip (.exit 0)) (.seq (.block 1 (.seq (.reg (.cons (some x14x) none (.mv (.t x12x)) (.cons (some x7x) none (.mv (.t x14x)) .nil))) (.seq (.seq (.reg (.cons (some x15x) 
  none (.mv (.t x1x)) (.cons (some x16x) none (.mv (.t x7x)) (.cons (some x17x) none (.call 61 (.cons (.t x15x) (.cons (.t x16x) .nil))) (.cons (some x18x) none (.not (.t x17x)) 
  .nil))))) (.cond (.t x18x) (.seq (.reg (.cons (some x19x) none (.mv (.t x6x)) (.cons (some x20x) none (.mv (.t x7x)) (.cons (some x21x) none (.call 62 (.cons (.t x19x) (.cons (.t 
  x20x) .nil))) (.cons (some x6x) none (.mv (.t x21x)) .nil))))) (.exit 1)) .skip)) (.seq (.seq (.reg (.cons (some x22x) none (.mv (.t x6x)) (.cons (some x23x) none (.bin .eql (.t 
  x22x) (.c (.i .u64 (.ofNat 0)))) .nil))) (.cond (.t x23x) (.exit 1) .skip)) (.seq (.reg (.cons (some x24x) none (.mv (.t x6x)) (.cons (some x25x) none (.call 63 (.cons (.t x24x) 
  .nil)) (.cons (some x8x) none (.mv (.t x25x)) .nil)))) (.seq (.reg (.cons (some x26x) none (.mv (.t x6x)) (.cons (some x27x) none (.mv (.t x8x)) (.cons (some x28x) none (.bsl 3 1 
  1 (.cons (.n 0) .nil) (.cons 0 1 (.t x27x) .nil)) (.cons (some x29x) none (.call 65 (.cons (.t x28x) .nil)) (.cons (some x30x) none (.call 64 (.cons (.t x26x) (.cons (.t x29x) 
  .nil))) (.cons (some x6x) none (.mv (.t x30x)) .nil))))))) (.reg (.cons (some x31x) none (.mv (.t x5x)) (.cons (some x32x) none (.mv (.t x8x)) (.cons (some x33x) none (.mv (.t 
  x7x)) (.cons (some x34x) none (.bsl 3 1 2 (.cons (.n 0) (.cons (.n 0) .nil)) (.cons 0 1 (.t x32x) (.cons 1 1 (.t x33x) .nil))) (.cons (some x35x) none (.call 65 (.cons (.t x34x) 
  .nil)) (.cons (some x36x) none (.call 64 (.cons (.t x31x) (.cons (.t x35x) .nil))) (.cons (some x5x) none (.mv (.t x36x)) .nil)))))))))))))) (.reg (.cons (some x37x) none (.bin 
  .add (.t x12x) (.c (.n 1))) (.cons (some x12x) none (.mv (.t x37x)) .nil))))))))) (.seq (.reg (.cons (some x38x) none (.mv (.t x5x)) (.cons (some x4x) none (.mv (.t x38x)) 
  .nil))) .ret))))) [(.tmp x4x)])
theorem cc51 : compF Tryz.prog drops true true Tryz.f51 = some i51 := by kernel_rfl
noncomputable def i52 : FnI := (.mk true false (.seq (.reg (.cons (some x2x) none (.mv (.c .ns)) .nil)) (.seq (.reg (.cons (some x3x) none (.mv (.c .ns)) .nil)) (.seq (.seq (.reg (.cons (some x5x) none (.mv (.t 
  x0x)) (.cons (some x4x) none (.mv (.t x5x)) .nil))) (.block 0 (.loop (.seq (.seq (.reg (.cons (some x6x) none (.mv (.t x4x)) (.cons (some x7x) none (.bin .neq (.t x6x) (.c (.i 
  .u64 (.ofNat 0)))) .nil))) (.cond (.t x7x) .skip (.exit 0))) (.seq (.block 1 (.reg (.cons (some x14x) none (.mv (.t x3x)) (.cons (some x15x) none (.mv (.t x4x)) (.cons (some 
  x16x) none (.call 66 (.cons (.t x15x) .nil)) (.cons (some x17x) none (.bsl 3 1 1 (.cons (.n 0) .nil) (.cons 0 1 (.t x16x) .nil)) (.cons (some x18x) none (.app 3 1 8 (.t x14x) (.t 
  x17x)) (.cons (some x3x) none (.mv (.t x18x)) .nil)))))))) (.reg (.cons (some x8x) none (.mv (.t x4x)) (.cons (some x9x) none (.mv (.t x4x)) (.cons (some x10x) none (.call 66 
  (.cons (.t x9x) .nil)) (.cons (some x11x) none (.bsl 3 1 1 (.cons (.n 0) .nil) (.cons 0 1 (.t x10x) .nil)) (.cons (some x12x) none (.call 65 (.cons (.t x11x) .nil)) (.cons (some 
  x13x) none (.call 64 (.cons (.t x8x) (.cons (.t x12x) .nil))) (.cons (some x4x) none (.mv (.t x13x)) .nil))))))))))))) (.seq (.reg (.cons (some x19x) none (.mv (.t x3x)) (.cons 
  (some x2x) none (.mv (.t x19x)) .nil))) .ret)))) [(.tmp x2x)])
theorem cc52 : compF Tryz.prog drops true false Tryz.f52 = some i52 := by kernel_rfl
noncomputable def i53 : FnI := (.mk true true (.seq (.reg (.cons (some x6x) none (.alloc 85 (.cons (.n 0) (.cons (.n 0) (.cons (.n 0) .nil))) 3) (.cons (some x7x) none (.mv (.c (.n 0))) .nil))) (.seq (.seq (.reg 
  (.cons (some x8x) none (.mv (.t x0x)) (.cons (some x9x) none (.bin .lss (.t x8x) (.c (.n 0))) (.cons (some x10x) none (.mv (.t x9x)) (.cons (some x11x) (some (.mk x10x false)) 
  (.mv (.t x0x)) (.cons (some x12x) (some (.mk x10x false)) (.bin .gtr (.t x11x) (.c (.n 16))) (.cons (some x13x) none (.pick (.t x10x) (.c (.b true)) (.t x12x)) (.cons (some x14x) 
  none (.mv (.t x13x)) (.cons (some x15x) (some (.mk x14x false)) (.mv (.t x1x)) (.cons (some x16x) (some (.mk x14x false)) (.bin .lss (.t x15x) (.c (.n 0))) (.cons (some x17x) 
  none (.pick (.t x14x) (.c (.b true)) (.t x16x)) (.cons (some x18x) none (.mv (.t x17x)) (.cons (some x19x) (some (.mk x18x false)) (.mv (.t x1x)) (.cons (some x20x) (some (.mk 
  x18x false)) (.mv (.t x0x)) (.cons (some x21x) (some (.mk x18x false)) (.bin .sub (.c (.n 16)) (.t x20x)) (.cons (some x22x) (some (.mk x18x false)) (.bin .gtr (.t x19x) (.t 
  x21x)) (.cons (some x23x) none (.pick (.t x18x) (.c (.b true)) (.t x22x)) .nil))))))))))))))))) (.cond (.t x23x) (.seq (.reg (.cons (some x24x) none (.build (.cons (.n 0) (.cons 
  (.n 0) (.cons (.n 0) .nil))) .nil) (.cons none none (.st 3 (.t x6x) (.t x24x)) (.cons (some x7x) none (.mv (.c (.n 1))) .nil)))) .ret) .skip)) (.seq (.seq (.reg (.cons (some 
  x25x) none (.mv (.t x2x)) (.cons (some x26x) none (.bin .lss (.t x25x) (.c (.n 0))) (.cons (some x27x) none (.mv (.t x26x)) (.cons (some x28x) (some (.mk x27x false)) (.mv (.t 
  x2x)) (.cons (some x29x) (some (.mk x27x false)) (.bin .gtr (.t x28x) (.c (.n 20))) (.cons (some x30x) none (.pick (.t x27x) (.c (.b true)) (.t x29x)) .nil))))))) (.cond (.t 
  x30x) (.seq (.reg (.cons (some x31x) none (.build (.cons (.n 0) (.cons (.n 0) (.cons (.n 0) .nil))) .nil) (.cons none none (.st 3 (.t x6x) (.t x31x)) (.cons (some x7x) none (.mv 
  (.c (.n 1))) .nil)))) .ret) .skip)) (.seq (.reg (.cons (some x32x) none (.mv (.t x0x)) (.cons (some x33x) none (.mv (.t x1x)) (.cons (some x34x) none (.mv (.t x2x)) (.cons (some 
  x35x) none (.build (.cons (.n 0) (.cons (.n 0) (.cons (.n 0) .nil))) (.cons 0 1 (.t x32x) (.cons 1 1 (.t x33x) (.cons 2 1 (.t x34x) .nil)))) (.cons none none (.st 3 (.t x6x) (.t 
  x35x)) (.cons (some x7x) none (.mv (.c (.n 0))) .nil))))))) .ret)))) [(.cell x6x 3 true), (.tmp x7x)])
theorem cc53 : compF Tryz.prog drops true true Tryz.f53 = some i53 := by kernel_rfl
noncomputable def i54 : FnI := (.mk true true (.seq (.reg (.cons (some x1x) none (.box 85 (.t x0x)) (.cons (some x2x) none (.mv (.c (.n 0))) .nil))) (.seq (.seq (.reg (.cons (some x4x) none (.fad 0 (.t x1x)) 
  (.cons (some x5x) none (.ld 1 false (.t x4x)) (.cons (some x6x) none (.bin .lss (.t x5x) (.c (.n 0))) (.cons (some x7x) none (.mv (.t x6x)) (.cons (some x8x) (some (.mk x7x 
  false)) (.fad 1 (.t x1x)) (.cons (some x9x) (some (.mk x7x false)) (.ld 1 false (.t x8x)) (.cons (some x10x) (some (.mk x7x false)) (.fad 0 (.t x1x)) (.cons (some x11x) (some 
  (.mk x7x false)) (.ld 1 false (.t x10x)) (.cons (some x12x) (some (.mk x7x false)) (.fad 2 (.t x1x)) (.cons (some x13x) (some (.mk x7x false)) (.ld 1 false (.t x12x)) (.cons 
  (some x14x) (some (.mk x7x false)) (.bin .add (.t x11x) (.t x13x)) (.cons (some x15x) (some (.mk x7x false)) (.bin .gtr (.t x9x) (.t x14x)) (.cons (some x16x) none (.pick (.t 
  x7x) (.c (.b true)) (.t x15x)) .nil)))))))))))))) (.cond (.t x16x) (.seq (.reg (.cons (some x2x) none (.mv (.c (.n 0))) .nil)) .ret) .skip)) (.seq (.reg (.cons (some x17x) none 
  (.fad 0 (.t x1x)) (.cons (some x18x) none (.ld 1 false (.t x17x)) (.cons (some x19x) none (.fad 1 (.t x1x)) (.cons (some x20x) none (.ld 1 false (.t x19x)) (.cons (some x21x) 
  none (.bin .add (.t x18x) (.t x20x)) (.cons (some x3x) none (.mv (.t x21x)) .nil))))))) (.seq (.draw [(.mk (some x22x) none true [] false [] [] [x3x] (.mv (.t x3x)) false [] [] 
  []), (.mk (some x23x) none true [] false [false] [] [x1x] (.fad 1 (.t x1x)) false [] [] []), (.mk (some x24x) none false [] false [true, false] [] [x23x] (.ld 1 false (.t x23x)) 
  false [] [] []), (.mk (some x25x) none false [] false [true, true, true] [] [x22x, x24x] (.call 67 (.cons (.t x22x) (.cons (.t x24x) .nil))) false [] [] []), (.mk (some x26x) 
  none true [] false [false, false, false, false] [] [x3x] (.mv (.t x3x)) false [] [] []), (.mk (some x27x) none true [] false [false, false, false, false, false] [] [x1x] (.fad 1 
  (.t x1x)) false [] [] []), (.mk (some x28x) none false [] false [true, false, false, false, false, false] [] [x27x] (.ld 1 false (.t x27x)) false [] [] []), (.mk (some x29x) none 
  true [] false [false, false, false, false, false, false, false] [] [x1x] (.fad 2 (.t x1x)) false [] [] []), (.mk (some x30x) none false [] false [true, false, false, false, 
  false, false, false, false] [] [x29x] (.ld 1 false (.t x29x)) false [] [] []), (.mk (some x31x) none true [] false [true, true, true, true, false, false, false, false, false] [] 
  [x28x, x30x] (.bin .sub (.t x28x) (.t x30x)) false [] [] []), (.mk (some x32x) none true [] false [true, true, true, true, true, false, false, false, false, false] [] [x31x] 
  (.bin .sub (.t x31x) (.c (.n 1))) false [] [] []), (.mk (some x33x) none false [] false [true, true, true, true, true, true, true, true, true, true, true] [] [x26x, x32x] (.call 
  67 (.cons (.t x26x) (.cons (.t x32x) .nil))) false [] [] []), (.mk (some x34x) none true [] false [true, true, true, true, true, true, true, true, true, true, true, true] [] 
  [x25x, x33x] (.bin .sub (.t x25x) (.t x33x)) false [] [] []), (.mk (some x2x) none true [] false [true, true, true, true, true, true, true, true, true, true, true, true, true] [] 
  [x34x] (.mv (.t x34x)) false [] [] [])]) .ret)))) [(.tmp x2x)])
theorem cc54 : compF Tryz.prog drops true true Tryz.f54 = some i54 := by kernel_rfl
noncomputable def i55 : FnI := (.mk true false (.seq (.reg (.cons (some x2x) none (.mv (.c .ns)) (.cons (some x3x) none (.mv (.c (.n 0))) .nil))) (.seq (.seq (.reg (.cons (some x5x) none (.mv (.t x0x)) (.cons 
  (some x6x) none (.call 68 (.cons (.t x5x) .nil)) (.cons (some x4x) none (.mv (.t x6x)) .nil)))) (.seq (.reg (.cons (some x7x) none (.mv (.t x4x)) (.cons (some x8x) none (.bin 
  .neq (.t x7x) (.c (.n 0))) .nil))) (.cond (.t x8x) (.seq (.reg (.cons (some x9x) none (.mv (.t x4x)) (.cons (some x2x) none (.mv (.c .ns)) (.cons (some x3x) none (.mv (.t x9x)) 
  .nil)))) .ret) .skip))) (.seq (.reg (.cons (some x10x) none (.mv (.t x0x)) (.cons (some x11x) none (.call 69 (.cons (.t x10x) .nil)) (.cons (some x12x) none (.call 70 (.cons (.t 
  x11x) (.cons (.c (.fn 71 .nil .nil)) .nil))) (.cons (some x2x) none (.mv (.t x12x)) (.cons (some x3x) none (.mv (.c (.n 0))) .nil)))))) .ret))) [(.tmp x2x), (.tmp x3x)])
theorem cc55 : compF Tryz.prog drops true false Tryz.f55 = some i55 := by kernel_rfl
noncomputable def i56 : FnI := (compF Tryz.prog drops true true Tryz.f56).getD (.mk false false .skip [])
theorem cc56 : compF Tryz.prog drops true true Tryz.f56 = some i56 := by kernel_rfl
noncomputable def i57 : FnI := (.mk true true (.seq (.reg (.cons (some x4x) none (.mv (.c (.b false))) .nil)) (.seq (.reg (.cons (some x5x) none (.mv (.t x0x)) (.cons (some x6x) none (.mv (.t x1x)) (.cons (some 
  x7x) none (.call 75 (.cons (.t x5x) (.cons (.t x6x) .nil))) (.cons (some x8x) none (.call 74 (.cons (.t x7x) (.cons (.c (.n 0)) .nil))) (.cons (some x9x) none (.not (.t x8x)) 
  (.cons (some x4x) none (.mv (.t x9x)) .nil))))))) .ret)) [(.tmp x4x)])
theorem cc57 : compF Tryz.prog drops true true Tryz.f57 = some i57 := by kernel_rfl
noncomputable def i58 : FnI := (.mk true true (.seq (.reg (.cons (some x2x) none (.mv (.c (.n 0))) .nil)) (.seq (.reg (.cons (some x3x) none (.mv (.t x0x)) (.cons (some x4x) none (.bin .shl (.c (.n 1)) (.t x3x)) 
  (.cons (some x2x) none (.mv (.t x4x)) .nil)))) .ret)) [(.tmp x2x)])
theorem cc58 : compF Tryz.prog drops true true Tryz.f58 = some i58 := by kernel_rfl
noncomputable def i59 : FnI := (.mk true false (.seq (.reg (.cons (some x1x) none (.box 95 (.t x0x)) (.cons (some x2x) none (.mv (.c .ns)) (.cons (some x3x) none (.mv (.c (.n 0))) .nil)))) (.seq (.seq (.reg 
  (.cons (some x9x) none (.fad 0 (.t x1x)) (.cons (some x10x) none (.ld 1 false (.t x9x)) (.cons (some x11x) none (.call 76 (.cons (.t x10x) .nil)) (.cons (some x12x) none (.not 
  (.t x11x)) .nil))))) (.cond (.t x12x) (.seq (.reg (.cons (some x2x) none (.mv (.c .ns)) (.cons (some x3x) none (.mv (.c (.n 1))) .nil))) .ret) .skip)) (.seq (.reg (.cons (some 
  x4x) none (.mv (.c .ns)) .nil)) (.seq (.seq (.reg (.cons (some x13x) none (.fad 1 (.t x1x)) (.cons (some x14x) none (.ld 1 false (.t x13x)) (.cons (some x15x) none (.len (.t 
  x14x)) (.cons (some x16x) none (.mv (.c (.n 0))) .nil))))) (.block 0 (.loop (.seq (.reg (.cons (some x17x) none (.bin .lss (.t x16x) (.t x15x)) .nil)) (.seq (.cond (.t x17x) 
  .skip (.exit 0)) (.seq (.block 1 (.seq (.reg (.cons (some x18x) none (.ixs 1 (.t x14x) (.t x16x)) (.cons (some x19x) none (.ld 1 false (.t x18x)) (.cons (some x6x) none (.mv (.t 
  x19x)) .nil)))) (.seq (.seq (.reg (.cons (some x20x) none (.fad 0 (.t x1x)) (.cons (some x21x) none (.ld 1 false (.t x20x)) (.cons (some x22x) none (.mv (.t x6x)) (.cons (some 
  x23x) none (.call 77 (.cons (.t x21x) (.cons (.t x22x) .nil))) (.cons (some x7x) none (.mv (.t x23x)) .nil)))))) (.seq (.reg (.cons (some x24x) none (.mv (.t x7x)) (.cons (some 
  x25x) none (.bin .neq (.t x24x) (.c (.n 0))) .nil))) (.cond (.t x25x) (.seq (.reg (.cons (some x26x) none (.mv (.t x7x)) (.cons (some x2x) none (.mv (.c .ns)) (.cons (some x3x) 
  none (.mv (.t x26x)) .nil)))) .ret) .skip))) (.seq (.reg (.cons (some x27x) none (.mv (.t x6x)) (.cons (some x28x) none (.call 65 (.cons (.t x27x) .nil)) (.cons (some x8x) none 
  (.mv (.t x28x)) .nil)))) (.seq (.seq (.reg (.cons (some x29x) none (.mv (.t x4x)) (.cons (some x30x) none (.mv (.t x8x)) (.cons (some x31x) none (.call 78 (.cons (.t x29x) (.cons 
  (.t x30x) .nil))) .nil)))) (.cond (.t x31x) (.seq (.reg (.cons (some x2x) none (.mv (.c .ns)) (.cons (some x3x) none (.mv (.c (.n 6))) .nil))) .ret) .skip)) (.reg (.cons (some 
  x32x) none (.mv (.t x4x)) (.cons (some x33x) none (.mv (.t x8x)) (.cons (some x34x) none (.bsl 80 1 1 (.cons (.i .u64 (.ofNat 0)) .nil) (.cons 0 1 (.t x33x) .nil)) (.cons (some 
  x35x) none (.app 80 1 8 (.t x32x) (.t x34x)) (.cons (some x4x) none (.mv (.t x35x)) .nil))))))))))) (.reg (.cons (some x36x) none (.bin .add (.t x16x) (.c (.n 1))) (.cons (some 
  x16x) none (.mv (.t x36x)) .nil))))))))) (.seq (.reg (.cons (some x37x) none (.mv (.t x4x)) (.cons (some x2x) none (.mv (.t x37x)) (.cons (some x3x) none (.mv (.c (.n 0))) 
  .nil)))) .ret))))) [(.tmp x2x), (.tmp x3x)])
theorem cc59 : compF Tryz.prog drops true false Tryz.f59 = some i59 := by kernel_rfl
noncomputable def i60 : FnI := (.mk true true (.seq (.reg (.cons (some x2x) none (.mv (.c (.i .u64 (.ofNat 0)))) .nil)) (.seq (.reg (.cons (some x3x) none (.mv (.t x0x)) (.cons (some x4x) none (.bin .shl (.c (.i 
  .u64 (.ofNat 1))) (.t x3x)) (.cons (some x5x) none (.bin .sub (.t x4x) (.c (.i .u64 (.ofNat 1)))) (.cons (some x2x) none (.mv (.t x5x)) .nil))))) .ret)) [(.tmp x2x)])
theorem cc60 : compF Tryz.prog drops true true Tryz.f60 = some i60 := by kernel_rfl
noncomputable def i61 : FnI := (.mk true true (.seq (.reg (.cons (some x4x) none (.mv (.c (.b false))) .nil)) (.seq (.reg (.cons (some x5x) none (.mv (.t x0x)) (.cons (some x6x) none (.mv (.t x1x)) (.cons (some 
  x7x) none (.bsl 3 1 1 (.cons (.n 0) .nil) (.cons 0 1 (.t x6x) .nil)) (.cons (some x8x) none (.call 65 (.cons (.t x7x) .nil)) (.cons (some x9x) none (.bin .and (.t x5x) (.t x8x)) 
  (.cons (some x10x) none (.bin .neq (.t x9x) (.c (.i .u64 (.ofNat 0)))) (.cons (some x4x) none (.mv (.t x10x)) .nil)))))))) .ret)) [(.tmp x4x)])
theorem cc61 : compF Tryz.prog drops true true Tryz.f61 = some i61 := by kernel_rfl
noncomputable def i62 : FnI := (.mk true true (.seq (.reg (.cons (some x4x) none (.mv (.c (.i .u64 (.ofNat 0)))) .nil)) (.seq (.reg (.cons (some x5x) none (.mv (.t x0x)) (.cons (some x6x) none (.mv (.t x1x)) 
  (.cons (some x7x) none (.bin .shl (.c (.i .u64 (.ofNat 1))) (.t x6x)) (.cons (some x8x) none (.bin .or (.t x5x) (.t x7x)) (.cons (some x4x) none (.mv (.t x8x)) .nil)))))) .ret)) 
  [(.tmp x4x)])
theorem cc62 : compF Tryz.prog drops true true Tryz.f62 = some i62 := by kernel_rfl
noncomputable def i63 : FnI := (.mk true true (.seq (.reg (.cons (some x2x) none (.mv (.c (.n 0))) .nil)) (.seq (.reg (.cons (some x3x) none (.mv (.t x0x)) (.cons (some x4x) none (.call 79 (.cons (.t x3x) .nil)) 
  (.cons (some x5x) none (.bin .sub (.t x4x) (.c (.n 1))) (.cons (some x2x) none (.mv (.t x5x)) .nil))))) .ret)) [(.tmp x2x)])
theorem cc63 : compF Tryz.prog drops true true Tryz.f63 = some i63 := by kernel_rfl
noncomputable def i64 : FnI := (.mk true true (.seq (.reg (.cons (some x4x) none (.mv (.c (.i .u64 (.ofNat 0)))) .nil)) (.seq (.reg (.cons (some x5x) none (.mv (.t x0x)) (.cons (some x6x) none (.mv (.t x1x)) 
  (.cons (some x7x) none (.bin .andNot (.t x5x) (.t x6x)) (.cons (some x4x) none (.mv (.t x7x)) .nil))))) .ret)) [(.tmp x4x)])
theorem cc64 : compF Tryz.prog drops true true Tryz.f64 = some i64 := by kernel_rfl
noncomputable def i65 : FnI := (.mk true true (.seq (.reg (.cons (some x2x) none (.mv (.c (.i .u64 (.ofNat 0)))) .nil)) (.seq (.reg (.cons (some x3x) none (.mv (.c (.i .u64 (.ofNat 0)))) .nil)) (.seq (.seq (.reg 
  (.cons (some x6x) none (.mv (.t x0x)) (.cons (some x7x) none (.len (.t x6x)) (.cons (some x8x) none (.mv (.c (.n 0))) .nil)))) (.block 0 (.loop (.seq (.reg (.cons (some x9x) none 
  (.bin .lss (.t x8x) (.t x7x)) .nil)) (.seq (.cond (.t x9x) .skip (.exit 0)) (.seq (.block 1 (.seq (.reg (.cons (some x10x) none (.ixs 1 (.t x6x) (.t x8x)) (.cons (some x11x) none 
  (.ld 1 false (.t x10x)) (.cons (some x5x) none (.mv (.t x11x)) .nil)))) (.reg (.cons (some x12x) none (.mv (.t x3x)) (.cons (some x13x) none (.mv (.t x5x)) (.cons (some x14x) 
  none (.call 62 (.cons (.t x12x) (.cons (.t x13x) .nil))) (.cons (some x3x) none (.mv (.t x14x)) .nil))))))) (.reg (.cons (some x15x) none (.bin .add (.t x8x) (.c (.n 1))) (.cons 
  (some x8x) none (.mv (.t x15x)) .nil))))))))) (.seq (.reg (.cons (some x16x) none (.mv (.t x3x)) (.cons (some x2x) none (.mv (.t x16x)) .nil))) .ret)))) [(.tmp x2x)])
theorem cc65 : compF Tryz.prog drops true true Tryz.f65 = some i65 := by kernel_rfl
noncomputable def i66 : FnI := (.mk true true (.seq (.reg (.cons (some x2x) none (.mv (.c (.n 0))) .nil)) (.seq (.reg (.cons (some x3x) none (.mv (.t x0x)) (.cons (some x4x) none (.call 80 (.cons (.t x3x) .nil)) 
  (.cons (some x2x) none (.mv (.t x4x)) .nil)))) .ret)) [(.tmp x2x)])
theorem cc66 : compF Tryz.prog drops true true Tryz.f66 = some i66 := by kernel_rfl
noncomputable def i67 : FnI := (.mk true true (.seq (.reg (.cons (some x4x) none (.mv (.c (.n 0))) .nil)) (.seq (.seq (.reg (.cons (some x7x) none (.mv (.t x1x)) (.cons (some x8x) none (.bin .lss (.t x7x) (.c 
  (.n 0))) .nil))) (.cond (.t x8x) (.seq (.reg (.cons (some x4x) none (.mv (.c (.n 0))) .nil)) .ret) .skip)) (.seq (.reg (.cons (some x5x) none (.mv (.c (.n 1))) .nil)) (.seq (.seq 
  (.reg (.cons (some x9x) none (.mv (.t x1x)) (.cons (some x10x) none (.mv (.c (.n 0))) .nil))) (.block 0 (.loop (.seq (.reg (.cons (some x11x) none (.bin .lss (.t x10x) (.t x9x)) 
  .nil)) (.seq (.cond (.t x11x) .skip (.exit 0)) (.seq (.block 1 (.seq (.reg (.cons (some x12x) none (.mv (.t x10x)) (.cons (some x6x) none (.mv (.t x12x)) .nil))) (.reg (.cons 
  (some x13x) none (.mv (.t x5x)) (.cons (some x14x) none (.mv (.t x0x)) (.cons (some x15x) none (.mv (.t x6x)) (.cons (some x16x) none (.bin .sub (.t x14x) (.t x15x)) (.cons (some 
  x17x) none (.bin .mul (.t x13x) (.t x16x)) (.cons (some x18x) none (.mv (.t x6x)) (.cons (some x19x) none (.bin .add (.t x18x) (.c (.n 1))) (.cons (some x20x) none (.bin .quo (.t 
  x17x) (.t x19x)) (.cons (some x5x) none (.mv (.t x20x)) .nil)))))))))))) (.reg (.cons (some x21x) none (.bin .add (.t x10x) (.c (.n 1))) (.cons (some x10x) none (.mv (.t x21x)) 
  .nil))))))))) (.seq (.reg (.cons (some x22x) none (.mv (.t x5x)) (.cons (some x4x) none (.mv (.t x22x)) .nil))) .ret))))) [(.tmp x4x)])
theorem cc67 : compF Tryz.prog drops true true Tryz.f67 = some i67 := by kernel_rfl
noncomputable def i68 : FnI := (.mk true true (.seq (.reg (.cons (some x2x) none (.mv (.c (.n 0))) .nil)) (.seq (.seq (.reg (.cons (some x6x) none (.mv (.t x0x)) (.cons (some x7x) none (.len (.t x6x)) (.cons 
  (some x8x) none (.bin .eql (.t x7x) (.c (.n 0))) .nil)))) (.cond (.t x8x) (.seq (.reg (.cons (some x2x) none (.mv (.c (.n 4))) .nil)) .ret) .skip)) (.seq (.seq (.reg (.cons (some 
  x9x) none (.mv (.t x0x)) (.cons (some x10x) none (.len (.t x9x)) (.cons (some x11x) none (.bin .gtr (.t x10x) (.c (.n 5))) (.cons (some x12x) none (.mv (.t x11x)) (.cons (some 
  x13x) (some (.mk x12x false)) (.mv (.t x0x)) (.cons (some x14x) (some (.mk x12x false)) (.ixs 1 (.t x13x) (.c (.n 0))) (.cons (some x15x) (some (.mk x12x false)) (.ld 1 false (.t 
  x14x)) (.cons (some x16x) (some (.mk x12x false)) (.len (.t x15x)) (.cons (some x17x) (some (.mk x12x false)) (.bin .gtr (.t x16x) (.c (.n 5))) (.cons (some x18x) none (.pick (.t 
  x12x) (.c (.b true)) (.t x17x)) .nil))))))))))) (.cond (.t x18x) (.seq (.reg (.cons (some x2x) none (.mv (.c (.n 3))) .nil)) .ret) .skip)) (.seq (.seq (.reg (.cons (some x19x) 
  none (.mv (.t x0x)) (.cons (some x20x) none (.len (.t x19x)) (.cons (some x21x) none (.mv (.c (.n 0))) .nil)))) (.block 0 (.loop (.seq (.reg (.cons (some x22x) none (.bin .lss 
  (.t x21x) (.t x20x)) .nil)) (.seq (.cond (.t x22x) .skip (.exit 0)) (.seq (.block 1 (.seq (.reg (.cons (some x23x) none (.ixs 1 (.t x19x) (.t x21x)) (.cons (some x24x) none (.ld 
  1 false (.t x23x)) (.cons (some x4x) none (.mv (.t x24x)) .nil)))) (.seq (.reg (.cons (some x25x) none (.mv (.t x4x)) (.cons (some x26x) none (.mv (.t x0x)) (.cons (some x27x) 
  none (.ixs 1 (.t x26x) (.c (.n 0))) (.cons (some x28x) none (.ld 1 false (.t x27x)) (.cons (some x29x) none (.len (.t x28x)) (.cons (some x30x) none (.call 81 (.cons (.t x25x) 
  (.cons (.t x29x) .nil))) (.cons (some x5x) none (.mv (.t x30x)) .nil)))))))) (.seq (.reg (.cons (some x31x) none (.mv (.t x5x)) (.cons (some x32x) none (.bin .neq (.t x31x) (.c 
  (.n 0))) .nil))) (.cond (.t x32x) (.seq (.reg (.cons (some x33x) none (.mv (.t x5x)) (.cons (some x2x) none (.mv (.t x33x)) .nil))) .ret) .skip))))) (.reg (.cons (some x34x) none 
  (.bin .add (.t x21x) (.c (.n 1))) (.cons (some x21x) none (.mv (.t x34x)) .nil))))))))) (.seq (.reg (.cons (some x2x) none (.mv (.c (.n 0))) .nil)) .ret))))) [(.tmp x2x)])
theorem cc68 : compF Tryz.prog drops true true Tryz.f68 = some i68 := by kernel_rfl
noncomputable def i69 : FnI := (.mk true false (.seq (.reg (.cons (some x2x) none (.alloc 103 (.cons .ns (.cons .nm (.cons .ns .nil))) 3) .nil)) (.seq (.reg (.cons (some x4x) none (.mv (.t x0x)) (.cons (some 
  x5x) none .mkm (.cons (some x6x) none (.build (.cons .ns (.cons .nm (.cons .ns .nil))) (.cons 0 1 (.t x4x) (.cons 1 1 (.t x5x) .nil))) (.cons (some x3x) none (.alloc 103 (.cons 
  .ns (.cons .nm (.cons .ns .nil))) 3) (.cons none none (.st 3 (.t x3x) (.t x6x)) .nil)))))) (.seq (.reg (.cons (some x7x) none (.ld 3 true (.t x3x)) (.cons (some x8x) none (.call 
  82 (.cons (.t x7x) .nil)) (.cons (some x9x) none (.fad 2 (.t x3x)) (.cons none none (.st 1 (.t x9x) (.t x8x)) .nil))))) (.seq (.reg (.cons (some x10x) none (.ld 3 true (.t x3x)) 
  (.cons none none (.st 3 (.t x2x) (.t x10x)) .nil))) .ret)))) [(.cell x2x 3 true)])
theorem cc69 : compF Tryz.prog drops true false Tryz.f69 = some i69 := by kernel_rfl
noncomputable def i70 : FnI := (.mk false false (.seq (.reg (.cons (some x2x) none (.box 103 (.t x0x)) (.cons (some x4x) none (.mv (.c .ns)) .nil))) (.seq (.reg (.cons (some x7x) none (.fad 0 (.t x2x)) (.cons 
  (some x8x) none (.ld 1 false (.t x7x)) (.cons (some x9x) none (.len (.t x8x)) (.cons (some x10x) none (.mks 3 1 8 1 (.cons (.n 0) .nil) (.t x9x) (.t x9x)) (.cons (some x5x) none 
  (.mv (.t x10x)) .nil)))))) (.seq (.seq (.reg (.cons (some x11x) none (.mv (.t x5x)) (.cons (some x12x) none (.len (.t x11x)) (.cons (some x13x) none (.mv (.c (.n 0))) .nil)))) 
  (.block 0 (.loop (.seq (.reg (.cons (some x14x) none (.bin .lss (.t x13x) (.t x12x)) .nil)) (.seq (.cond (.t x14x) .skip (.exit 0)) (.seq (.block 1 (.seq (.reg (.cons (some x15x) 
  none (.mv (.t x13x)) (.cons (some x6x) none (.mv (.t x15x)) .nil))) (.reg (.cons (some x16x) none (.mv (.t x5x)) (.cons (some x17x) none (.mv (.t x6x)) (.cons (some x18x) none 
  (.mv (.t x1x)) (.cons (some x19x) none (.ld 3 true (.t x2x)) (.cons (some x20x) none (.mv (.t x6x)) (.cons (some x21x) none (.callv (.t x18x) (.cons (.t x19x) (.cons (.t x20x) 
  .nil))) (.cons (some x22x) none (.ixs 1 (.t x16x) (.t x17x)) (.cons none none (.st 1 (.t x22x) (.t x21x)) .nil))))))))))) (.reg (.cons (some x23x) none (.bin .add (.t x13x) (.c 
  (.n 1))) (.cons (some x13x) none (.mv (.t x23x)) .nil))))))))) (.seq (.reg (.cons (some x24x) none (.mv (.t x5x)) (.cons (some x4x) none (.mv (.t x24x)) .nil))) .ret)))) [(.tmp 
  x4x)])
theorem cc70 : compF Tryz.prog drops false false Tryz.f70 = some i70 := by kernel_rfl
noncomputable def i71 : FnI := (.mk false false (.seq (.reg (.cons (some x2x) none (.box 103 (.t x0x)) (.cons (some x4x) none (.mv (.c (.n 0))) .nil))) (.seq (.reg (.cons (some x7x) none (.ld 3 true (.t x2x)) 
  (.cons (some x8x) none (.call 83 (.cons (.t x7x) .nil)) (.cons (some x5x) none (.alloc 118 (.cons (.i .u64 (.ofNat 0)) (.cons (.i .u64 (.ofNat 0)) .nil)) 2) (.cons none none (.st 
  2 (.t x5x) (.t x8x)) .nil))))) (.seq (.draw [(.mk (some x9x) none false [] false [] [] [x2x] (.ld 3 true (.t x2x)) false [] [] []), (.mk (some x10x) none false [] false [false] 
  [] [x5x] (.ld 2 true (.t x5x)) false [] [] []), (.mk (some x11x) none true [] false [false, false] [] [x1x] (.mv (.t x1x)) false [] [] []), (.mk (some x12x) none false [] false 
  [true, true, false] [] [x10x, x11x] (.call 85 (.cons (.t x10x) (.cons (.t x11x) (.cons (.c (.i .i64 (.negSucc 0))) .nil)))) false [] [] []), (.mk (some x13x) none false [] true 
  [true, true, true, true] [] [x9x, x12x] (.call 84 (.cons (.t x9x) (.cons (.t x12x) .nil))) true [] [] [x1x]), (.mk (some x14x) none true [] false [true, true, true, true, true] 
  [] [x13x] (.part 0 1 false (.t x13x)) false [] [] []), (.mk (some x6x) none true [] false [true, true, true, true, true, true] [] [x14x] (.mv (.t x14x)) false [] [] [])]) (.seq 
  (.draw [(.mk (some x15x) none true [] false [] [] [x6x] (.mv (.t x6x)) false [] [] []), (.mk (some x16x) none false [] false [false] [] [x2x] (.ld 3 true (.t x2x)) false [] [] 
  []), (.mk (some x17x) none false [] false [false, false] [] [x5x] (.ld 2 true (.t x5x)) false [] [] []), (.mk (some x18x) none false [] true [true, true, false] [] [x16x, x17x] 
  (.call 84 (.cons (.t x16x) (.cons (.t x17x) .nil))) true [] [] [x1x]), (.mk (some x19x) none true [] false [true, true, true, false] [] [x18x] (.part 0 1 false (.t x18x)) false 
  [] [] []), (.mk (some x20x) none false [] false [false, false, false, false, false] [] [x2x] (.ld 3 true (.t x2x)) false [] [] []), (.mk (some x21x) none true [] false [false, 
  false, false, false, false, false] [] [x1x] (.mv (.t x1x)) false [] [] []), (.mk (some x22x) none false [] false [true, true, false, true, true, true, false] [] [x20x, x21x] 
  (.call 86 (.cons (.t x20x) (.cons (.t x21x) .nil))) false [] [] []), (.mk (some x23x) none true [] false [true, true, true, true, true, true, true, false] [] [x19x, x22x] (.bin 
  .sub (.t x19x) (.t x22x)) false [] [] []), (.mk (some x24x) none true [] false [true, true, true, true, true, true, true, true, true] [] [x15x, x23x] (.bin .sub (.t x15x) (.t 
  x23x)) false [] [] []), (.mk (some x4x) none true [] false [true, true, true, true, true, true, true, true, true, true] [] [x24x] (.mv (.t x24x)) false [] [] [])]) .ret)))) 
  [(.tmp x4x)])
theorem cc71 : compF Tryz.prog drops false false Tryz.f71 = some i71 := by kernel_rfl
noncomputable def i72 : FnI := (.mk true false (.seq (.reg (.cons (some x2x) none (.box 109 (.t x0x)) (.cons (some x4x) none (.mv (.c .ns)) (.cons (some x5x) none (.mv (.c (.n 0))) .nil)))) (.seq (.reg (.cons 
  (some x12x) none (.ld 3 true (.t x2x)) (.cons (some x13x) none (.mv (.t x1x)) (.cons (some x14x) none (.call 87 (.cons (.t x12x) (.cons (.t x13x) .nil))) (.cons (some x11x) none 
  (.mv (.t x14x)) (.cons (some x15x) none (.ext 0 (.t x11x)) (.cons (some x16x) none (.ext 1 (.t x11x)) (.cons (some x6x) none (.alloc 127 (.cons (.n 0) (.cons (.b false) (.cons 
  (.n 0) (.cons (.n 0) (.cons (.n 0) (.cons (.n 0) (.cons (.n 0) (.cons (.n 0) (.cons (.n 0) (.cons (.n 0) (.cons (.n 0) (.cons (.n 0) (.cons (.n 0) (.cons (.n 0) (.cons (.n 0) 
  (.cons (.n 0) (.cons (.n 0) (.cons (.n 0) .nil)))))))))))))))))) 18) (.cons none none (.st 18 (.t x6x) (.t x15x)) (.cons (some x7x) none (.mv (.t x16x)) .nil)))))))))) (.seq 
  (.seq (.reg (.cons (some x17x) none (.mv (.t x7x)) (.cons (some x18x) none (.bin .neq (.t x17x) (.c (.n 0))) .nil))) (.cond (.t x18x) (.seq (.reg (.cons (some x19x) none (.mv (.t 
  x7x)) (.cons (some x4x) none (.mv (.c .ns)) (.cons (some x5x) none (.mv (.t x19x)) .nil)))) .ret) .skip)) (.seq (.reg (.cons (some x20x) none (.ld 18 true (.t x6x)) (.cons (some 
  x21x) none (.mv (.t x1x)) (.cons (some x22x) none (.call 88 (.cons (.t x20x) (.cons (.t x21x) .nil))) (.cons (some x8x) none (.mv (.t x22x)) .nil))))) (.seq (.reg (.cons (some 
  x9x) none (.mv (.c .ns)) .nil)) (.seq (.seq (.reg (.cons (some x10x) none (.mv (.c (.n 1))) .nil)) (.block 0 (.loop (.seq (.seq (.reg (.cons (some x23x) none (.mv (.t x10x)) 
  (.cons (some x24x) none (.fad 0 (.t x6x)) (.cons (some x25x) none (.ld 1 false (.t x24x)) (.cons (some x26x) none (.bin .leq (.t x23x) (.t x25x)) .nil))))) (.cond (.t x26x) .skip 
  (.exit 0))) (.seq (.block 1 (.seq (.reg (.cons (some x29x) none (.mv (.t x8x)) (.cons (some x30x) none (.mv (.t x10x)) (.cons (some x31x) none (.call 89 (.cons (.t x29x) (.cons 
  (.t x30x) .nil))) (.cons (some x32x) none (.len (.t x31x)) (.cons (some x33x) none (.bin .eql (.t x32x) (.c (.n 1))) .nil)))))) (.cond (.t x33x) (.reg (.cons (some x34x) none 
  (.mv (.t x9x)) (.cons (some x35x) none (.mv (.t x10x)) (.cons (some x36x) none (.bsl 3 1 1 (.cons (.n 0) .nil) (.cons 0 1 (.t x35x) .nil)) (.cons (some x37x) none (.app 3 1 8 (.t 
  x34x) (.t x36x)) (.cons (some x9x) none (.mv (.t x37x)) .nil)))))) .skip))) (.reg (.cons (some x27x) none (.mv (.t x10x)) (.cons (some x28x) none (.bin .add (.t x27x) (.c (.n 
  1))) (.cons (some x10x) none (.mv (.t x28x)) .nil))))))))) (.seq (.reg (.cons (some x38x) none (.mv (.t x9x)) (.cons (some x4x) none (.mv (.t x38x)) (.cons (some x5x) none (.mv 
  (.c (.n 0))) .nil)))) .ret))))))) [(.tmp x4x), (.tmp x5x)])
theorem cc72 : compF Tryz.prog drops true false Tryz.f72 = some i72 := by kernel_rfl
noncomputable def i73 : FnI := (compF Tryz.prog drops true true Tryz.f73).getD (.mk false false .skip [])
theorem cc73 : compF Tryz.prog drops true true Tryz.f73 = some i73 := by kernel_rfl
noncomputable def i74 : FnI := (.mk true true (.seq (.reg (.cons (some x4x) none (.mv (.c (.b false))) .nil)) (.seq (.reg (.cons (some x5x) none (.mv (.t x0x)) (.cons (some x6x) none (.mv (.t x1x)) (.cons (some 
  x7x) none (.call 92 (.cons (.t x5x) (.cons (.t x6x) .nil))) (.cons (some x8x) none (.bin .geq (.t x7x) (.c (.n 0))) (.cons (some x4x) none (.mv (.t x8x)) .nil)))))) .ret)) [(.tmp 
  x4x)])
theorem cc74 : compF Tryz.prog drops true true Tryz.f74 = some i74 := by kernel_rfl
noncomputable def i75 : FnI := (.mk true false (.seq (.reg (.cons (some x4x) none (.mv (.c .ns)) .nil)) (.seq (.reg (.cons (some x9x) none (.mv (.t x0x)) (.cons (some x10x) none (.call 58 (.cons (.t x9x) .nil)) 
  (.cons (some x11x) none (.mks 3 1 8 1 (.cons (.n 0) .nil) (.t x10x) (.t x10x)) (.cons (some x5x) none (.mv (.t x11x)) .nil))))) (.seq (.seq (.reg (.cons (some x12x) none (.mv (.t 
  x1x)) (.cons (some x13x) none (.len (.t x12x)) (.cons (some x14x) none (.mv (.c (.n 0))) .nil)))) (.block 0 (.loop (.seq (.reg (.cons (some x15x) none (.bin .lss (.t x14x) (.t 
  x13x)) .nil)) (.seq (.cond (.t x15x) .skip (.exit 0)) (.seq (.block 1 (.seq (.reg (.cons (some x16x) none (.ixs 1 (.t x12x) (.t x14x)) (.cons (some x17x) none (.ld 1 false (.t 
  x16x)) (.cons (some x7x) none (.mv (.t x17x)) .nil)))) (.seq (.reg (.cons (some x18x) none (.mv (.t x5x)) (.cons (some x19x) none (.mv (.t x7x)) (.cons (some x20x) none (.ixs 1 
  (.t x18x) (.t x19x)) (.cons (some x21x) none (.ld 1 false (.t x20x)) (.cons (some x22x) none (.bin .add (.t x21x) (.c (.n 1))) (.cons (some x23x) none (.ixs 1 (.t x18x) (.t 
  x19x)) (.cons none none (.st 1 (.t x23x) (.t x22x)) .nil)))))))) (.seq (.reg (.cons (some x24x) none (.mv (.t x0x)) (.cons (some x25x) none (.mv (.c (.n 0))) .nil))) (.block 2 
  (.loop (.seq (.reg (.cons (some x26x) none (.bin .lss (.t x25x) (.t x24x)) .nil)) (.seq (.cond (.t x26x) .skip (.exit 2)) (.seq (.block 3 (.seq (.reg (.cons (some x27x) none (.mv 
  (.t x25x)) (.cons (some x8x) none (.mv (.t x27x)) .nil))) (.reg (.cons (some x28x) none (.mv (.t x5x)) (.cons (some x29x) none (.mv (.t x7x)) (.cons (some x30x) none (.mv (.t 
  x8x)) (.cons (some x31x) none (.call 93 (.cons (.t x29x) (.cons (.t x30x) .nil))) (.cons (some x32x) none (.ixs 1 (.t x28x) (.t x31x)) (.cons (some x33x) none (.ld 1 false (.t 
  x32x)) (.cons (some x34x) none (.bin .add (.t x33x) (.c (.n 1))) (.cons (some x35x) none (.ixs 1 (.t x28x) (.t x31x)) (.cons none none (.st 1 (.t x35x) (.t x34x)) 
  .nil)))))))))))) (.reg (.cons (some x36x) none (.bin .add (.t x25x) (.c (.n 1))) (.cons (some x25x) none (.mv (.t x36x)) .nil)))))))))))) (.reg (.cons (some x37x) none (.bin .add 
  (.t x14x) (.c (.n 1))) (.cons (some x14x) none (.mv (.t x37x)) .nil))))))))) (.seq (.reg (.cons (some x38x) none (.mv (.t x5x)) (.cons (some x4x) none (.mv (.t x38x)) .nil))) 
  .ret)))) [(.tmp x4x)])
theorem cc75 : compF Tryz.prog drops true false Tryz.f75 = some i75 := by kernel_rfl
noncomputable def i76 : FnI := (.mk true true (.seq (.reg (.cons (some x2x) none (.mv (.c (.b false))) .nil)) (.seq (.reg (.cons (some x3x) none (.mv (.t x0x)) (.cons (some x4x) none (.bin .geq (.t x3x) (.c (.n 
  1))) (.cons (some x5x) none (.mv (.t x4x)) (.cons (some x6x) (some (.mk x5x true)) (.mv (.t x0x)) (.cons (some x7x) (some (.mk x5x true)) (.bin .leq (.t x6x) (.c (.n 6))) (.cons 
  (some x8x) none (.pick (.t x5x) (.t x7x) (.c (.b false))) (.cons (some x2x) none (.mv (.t x8x)) .nil)))))))) .ret)) [(.tmp x2x)])
theorem cc76 : compF Tryz.prog drops true true Tryz.f76 = some i76 := by kernel_rfl
noncomputable def i77 : FnI := (.mk true true (.seq (.reg (.cons (some x4x) none (.mv (.c (.n 0))) .nil)) (.seq (.seq (.reg (.cons (some x7x) none (.mv (.t x1x)) (.cons (some x8x) none (.len (.t x7x)) (.cons 
  (some x9x) none (.mv (.c (.n 0))) .nil)))) (.block 0 (.loop (.seq (.reg (.cons (some x10x) none (.bin .lss (.t x9x) (.t x8x)) .nil)) (.seq (.cond (.t x10x) .skip (.exit 0)) (.seq 
  (.block 1 (.seq (.reg (.cons (some x11x) none (.mv (.t x9x)) (.cons (some x12x) none (.ixs 1 (.t x7x) (.t x9x)) (.cons (some x13x) none (.ld 1 false (.t x12x)) (.cons (some x5x) 
  none (.mv (.t x11x)) (.cons (some x6x) none (.mv (.t x13x)) .nil)))))) (.seq (.seq (.reg (.cons (some x14x) none (.mv (.t x6x)) (.cons (some x15x) none (.bin .lss (.t x14x) (.c 
  (.n 0))) (.cons (some x16x) none (.mv (.t x15x)) (.cons (some x17x) (some (.mk x16x false)) (.mv (.t x6x)) (.cons (some x18x) (some (.mk x16x false)) (.mv (.t x0x)) (.cons (some 
  x19x) (some (.mk x16x false)) (.bin .geq (.t x17x) (.t x18x)) (.cons (some x20x) none (.pick (.t x16x) (.c (.b true)) (.t x19x)) .nil)))))))) (.cond (.t x20x) (.seq (.reg (.cons 
  (some x4x) none (.mv (.c (.n 2))) .nil)) .ret) .skip)) (.seq (.reg (.cons (some x21x) none (.mv (.t x5x)) (.cons (some x22x) none (.bin .gtr (.t x21x) (.c (.n 0))) (.cons (some 
  x23x) none (.mv (.t x22x)) (.cons (some x24x) (some (.mk x23x true)) (.mv (.t x6x)) (.cons (some x25x) (some (.mk x23x true)) (.mv (.t x1x)) (.cons (some x26x) (some (.mk x23x 
  true)) (.mv (.t x5x)) (.cons (some x27x) (some (.mk x23x true)) (.bin .sub (.t x26x) (.c (.n 1))) (.cons (some x28x) (some (.mk x23x true)) (.ixs 1 (.t x25x) (.t x27x)) (.cons 
  (some x29x) (some (.mk x23x true)) (.ld 1 false (.t x28x)) (.cons (some x30x) (some (.mk x23x true)) (.bin .leq (.t x24x) (.t x29x)) (.cons (some x31x) none (.pick (.t x23x) (.t 
  x30x) (.c (.b false))) .nil)))))))))))) (.cond (.t x31x) (.seq (.reg (.cons (some x4x) none (.mv (.c (.n 7))) .nil)) .ret) .skip))))) (.reg (.cons (some x32x) none (.bin .add (.t 
  x9x) (.c (.n 1))) (.cons (some x9x) none (.mv (.t x32x)) .nil))))))))) (.seq (.reg (.cons (some x4x) none (.mv (.c (.n 0))) .nil)) .ret))) [(.tmp x4x)])
theorem cc77 : compF Tryz.prog drops true true Tryz.f77 = some i77 := by kernel_rfl
noncomputable def i78 : FnI := (.mk true true (.seq (.reg (.cons (some x4x) none (.mv (.c (.b false))) .nil)) (.seq (.reg (.cons (some x5x) none (.mv (.t x0x)) (.cons (some x6x) none (.mv (.t x1x)) (.cons (some 
  x7x) none (.call 94 (.cons (.t x5x) (.cons (.t x6x) .nil))) (.cons (some x8x) none (.bin .geq (.t x7x) (.c (.n 0))) (.cons (some x4x) none (.mv (.t x8x)) .nil)))))) .ret)) [(.tmp 
  x4x)])
theorem cc78 : compF Tryz.prog drops true true Tryz.f78 = some i78 := by kernel_rfl
noncomputable def i79 : FnI := (.mk true true (.seq (.reg (.cons (some x2x) none (.mv (.c (.n 0))) .nil)) (.seq (.cond (.c (.b false)) (.seq (.reg (.cons (some x3x) none (.mv (.t x0x)) (.cons (some x4x) none 
  (.conv .u32 (.t x3x)) (.cons (some x5x) none (.call 95 (.cons (.t x4x) .nil)) (.cons (some x2x) none (.mv (.t x5x)) .nil))))) .ret) .skip) (.seq (.reg (.cons (some x6x) none (.mv 
  (.t x0x)) (.cons (some x7x) none (.call 96 (.cons (.t x6x) .nil)) (.cons (some x2x) none (.mv (.t x7x)) .nil)))) .ret))) [(.tmp x2x)])
theorem cc79 : compF Tryz.prog drops true true Tryz.f79 = some i79 := by kernel_rfl
noncomputable def i80 : FnI := (.mk true true (.seq (.reg (.cons (some x2x) none (.mv (.c (.n 0))) .nil)) (.seq (.cond (.c (.b false)) (.seq (.reg (.cons (some x3x) none (.mv (.t x0x)) (.cons (some x4x) none 
  (.conv .u32 (.t x3x)) (.cons (some x5x) none (.call 97 (.cons (.t x4x) .nil)) (.cons (some x2x) none (.mv (.t x5x)) .nil))))) .ret) .skip) (.seq (.reg (.cons (some x6x) none (.mv 
  (.t x0x)) (.cons (some x7x) none (.call 98 (.cons (.t x6x) .nil)) (.cons (some x2x) none (.mv (.t x7x)) .nil)))) .ret))) [(.tmp x2x)])
theorem cc80 : compF Tryz.prog drops true true Tryz.f80 = some i80 := by kernel_rfl
noncomputable def i81 : FnI := (.mk true true (.seq (.reg (.cons (some x4x) none (.mv (.c (.n 0))) .nil)) (.seq (.seq (.reg (.cons (some x7x) none (.mv (.t x0x)) (.cons (some x8x) none (.len (.t x7x)) (.cons 
  (some x9x) none (.mv (.t x1x)) (.cons (some x10x) none (.bin .neq (.t x8x) (.t x9x)) .nil))))) (.cond (.t x10x) (.seq (.reg (.cons (some x4x) none (.mv (.c (.n 5))) .nil)) .ret) 
  .skip)) (.seq (.seq (.reg (.cons (some x11x) none (.mv (.t x0x)) (.cons (some x12x) none (.len (.t x11x)) (.cons (some x13x) none (.mv (.c (.n 0))) .nil)))) (.block 0 (.loop 
  (.seq (.reg (.cons (some x14x) none (.bin .lss (.t x13x) (.t x12x)) .nil)) (.seq (.cond (.t x14x) .skip (.exit 0)) (.seq (.block 1 (.seq (.reg (.cons (some x15x) none (.ixs 1 (.t 
  x11x) (.t x13x)) (.cons (some x16x) none (.ld 1 false (.t x15x)) (.cons (some x6x) none (.mv (.t x16x)) .nil)))) (.seq (.reg (.cons (some x17x) none (.mv (.t x6x)) (.cons (some 
  x18x) none (.bin .lss (.t x17x) (.c (.n 0))) (.cons (some x19x) none (.mv (.t x18x)) (.cons (some x20x) (some (.mk x19x false)) (.mv (.t x6x)) (.cons (some x21x) (some (.mk x19x 
  false)) (.bin .gtr (.t x20x) (.c (.n 99))) (.cons (some x22x) none (.pick (.t x19x) (.c (.b true)) (.t x21x)) .nil))))))) (.cond (.t x22x) (.seq (.reg (.cons (some x4x) none (.mv 
  (.c (.n 1))) .nil)) .ret) .skip)))) (.reg (.cons (some x23x) none (.bin .add (.t x13x) (.c (.n 1))) (.cons (some x13x) none (.mv (.t x23x)) .nil))))))))) (.seq (.reg (.cons (some 
  x4x) none (.mv (.c (.n 0))) .nil)) .ret)))) [(.tmp x4x)])
theorem cc81 : compF Tryz.prog drops true true Tryz.f81 = some i81 := by kernel_rfl
noncomputable def i82 : FnI := (.mk false false (.seq (.reg (.cons (some x1x) none (.box 103 (.t x0x)) (.cons (some x2x) none (.mv (.c .ns)) .nil))) (.seq (.reg (.cons (some x6x) none (.ld 3 true (.t x1x)) 
  (.cons (some x7x) none (.call 83 (.cons (.t x6x) .nil)) (.cons (some x3x) none (.alloc 118 (.cons (.i .u64 (.ofNat 0)) (.cons (.i .u64 (.ofNat 0)) .nil)) 2) (.cons none none (.st 
  2 (.t x3x) (.t x7x)) .nil))))) (.seq (.reg (.cons (some x8x) none (.fad 0 (.t x1x)) (.cons (some x9x) none (.ld 1 false (.t x8x)) (.cons (some x10x) none (.len (.t x9x)) (.cons 
  (some x11x) none (.mks 3 1 8 1 (.cons (.n 0) .nil) (.t x10x) (.t x10x)) (.cons (some x4x) none (.mv (.t x11x)) .nil)))))) (.seq (.seq (.reg (.cons (some x12x) none (.mv (.t x4x)) 
  (.cons (some x13x) none (.len (.t x12x)) (.cons (some x14x) none (.mv (.c (.n 0))) .nil)))) (.block 0 (.loop (.seq (.reg (.cons (some x15x) none (.bin .lss (.t x14x) (.t x13x)) 
  .nil)) (.seq (.cond (.t x15x) .skip (.exit 0)) (.seq (.block 1 (.seq (.reg (.cons (some x16x) none (.mv (.t x14x)) (.cons (some x5x) none (.mv (.t x16x)) .nil))) (.seq (.reg 
  (.cons (some x17x) none (.mv (.t x4x)) (.cons (some x18x) none (.mv (.t x5x)) (.cons (some x19x) none (.ld 3 true (.t x1x)) (.cons (some x20x) none (.ld 2 true (.t x3x)) (.cons 
  (some x21x) none (.call 84 (.cons (.t x19x) (.cons (.t x20x) .nil))) (.cons (some x22x) none (.part 2 1 false (.t x21x)) (.cons (some x23x) none (.ixs 1 (.t x17x) (.t x18x)) 
  (.cons none none (.st 1 (.t x23x) (.t x22x)) .nil))))))))) (.draw [(.mk (some x24x) none false [] false [] [] [x3x] (.ld 2 true (.t x3x)) false [] [] []), (.mk (some x25x) none 
  true [] false [false] [] [x5x] (.mv (.t x5x)) false [] [] []), (.mk (some x26x) none true [] false [false, false] [] [x4x] (.mv (.t x4x)) false [] [] []), (.mk (some x27x) none 
  true [] false [false, false, false] [] [x5x] (.mv (.t x5x)) false [] [] []), (.mk (some x28x) none true [] false [true, true, false, false] [] [x26x, x27x] (.ixs 1 (.t x26x) (.t 
  x27x)) false [] [] []), (.mk (some x29x) none false [] false [true, true, true, false, false] [] [x28x] (.ld 1 false (.t x28x)) false [] [] []), (.mk (some x30x) none false [] 
  false [true, true, true, true, true, true] [] [x24x, x25x, x29x] (.call 85 (.cons (.t x24x) (.cons (.t x25x) (.cons (.t x29x) .nil)))) false [] [] []), (.mk none none false [x3x] 
  false [true, true, true, true, true, true, true] [] [x3x, x30x] (.st 2 (.t x3x) (.t x30x)) false [] [] [])])))) (.reg (.cons (some x31x) none (.bin .add (.t x14x) (.c (.n 1))) 
  (.cons (some x14x) none (.mv (.t x31x)) .nil))))))))) (.seq (.reg (.cons (some x32x) none (.mv (.t x4x)) (.cons (some x2x) none (.mv (.t x32x)) .nil))) .ret))))) [(.tmp x2x)])
theorem cc82 : compF Tryz.prog drops false false Tryz.f82 = some i82 := by kernel_rfl
noncomputable def i83 : FnI := (.mk true true (.seq (.reg (.cons (some x1x) none (.box 103 (.t x0x)) (.cons (some x2x) none (.alloc 118 (.cons (.i .u64 (.ofNat 0)) (.cons (.i .u64 (.ofNat 0)) .nil)) 2) .nil))) 
  (.seq (.draw [(.mk (some x3x) none true [] false [] [] [x1x] (.fad 0 (.t x1x)) false [] [] []), (.mk (some x4x) none false [] false [true] [] [x3x] (.ld 1 false (.t x3x)) false 
  [] [] []), (.mk (some x5x) none true [] false [true, true] [] [x4x] (.len (.t x4x)) false [] [] []), (.mk (some x6x) none false [] false [true, true, true] [] [x5x] (.call 99 
  (.cons (.t x5x) .nil)) false [] [] []), (.mk (some x7x) none true [] false [false, false, false, false] [] [x1x] (.fad 0 (.t x1x)) false [] [] []), (.mk (some x8x) none false [] 
  false [true, false, false, false, false] [] [x7x] (.ld 1 false (.t x7x)) false [] [] []), (.mk (some x9x) none true [] false [true, true, false, false, false, false] [] [x8x] 
  (.ixs 1 (.t x8x) (.c (.n 0))) false [] [] []), (.mk (some x10x) none false [] false [true, true, true, false, false, false, false] [] [x9x] (.ld 1 false (.t x9x)) false [] [] 
  []), (.mk (some x11x) none true [] false [true, true, true, true, false, false, false, false] [] [x10x] (.len (.t x10x)) false [] [] []), (.mk (some x12x) none false [] false 
  [true, true, true, true, true, true, true, true, true] [] [x11x] (.call 99 (.cons (.t x11x) .nil)) false [] [] []), (.mk (some x13x) none true [] false [true, true, true, true, 
  true, true, true, true, true, true] [] [x6x, x12x] (.build (.cons (.i .u64 (.ofNat 0)) (.cons (.i .u64 (.ofNat 0)) .nil)) (.cons 0 1 (.t x6x) (.cons 1 1 (.t x12x) .nil))) false 
  [] [] []), (.mk none none false [x2x] false [true, true, true, true, true, true, true, true, true, true, true] [] [x2x, x13x] (.st 2 (.t x2x) (.t x13x)) false [] [] [])]) .ret)) 
  [(.cell x2x 2 true)])
theorem cc83 : compF Tryz.prog drops true true Tryz.f83 = some i83 := by kernel_rfl
noncomputable def i84 : FnI := (.mk false false (.seq (.reg (.cons (some x2x) none (.box 103 (.t x0x)) (.cons (some x3x) none (.box 118 (.t x1x)) (.cons (some x4x) none (.alloc 121 (.cons (.n 0) (.cons (.n 0) 
  (.cons (.n 0) .nil))) 3) .nil)))) (.seq (.seq (.reg (.cons (some x10x) none (.fad 0 (.t x3x)) (.cons (some x11x) none (.ld 1 false (.t x10x)) (.cons (some x12x) none (.bin .eql 
  (.t x11x) (.c (.i .u64 (.ofNat 0)))) .nil)))) (.cond (.t x12x) (.seq (.reg (.cons (some x13x) none (.build (.cons (.n 0) (.cons (.n 0) (.cons (.n 0) .nil))) (.cons 1 1 (.c (.n 
  1)) .nil)) (.cons none none (.st 3 (.t x4x) (.t x13x)) .nil))) .ret) .skip)) (.seq (.seq (.reg (.cons (some x15x) none (.fad 1 (.t x2x)) (.cons (some x16x) none (.ld 1 false (.t 
  x15x)) (.cons (some x17x) none (.ld 2 true (.t x3x)) (.cons (some x18x) none (.lkp (.sh (.st (.cons 0 1 false .int (.cons 1 1 false .int .nil)))) (.ag (.cons (.n 0) (.cons (.n 0) 
  (.cons (.n 0) .nil)))) true (.t x16x) (.t x17x)) (.cons (some x14x) none (.mv (.t x18x)) (.cons (some x19x) none (.ext 0 (.t x14x)) (.cons (some x20x) none (.ext 1 (.t x14x)) 
  (.cons (some x5x) none (.alloc 121 (.cons (.n 0) (.cons (.n 0) (.cons (.n 0) .nil))) 3) (.cons none none (.st 3 (.t x5x) (.t x19x)) (.cons (some x6x) none (.mv (.t x20x)) 
  .nil))))))))))) (.seq (.reg (.cons (some x21x) none (.mv (.t x6x)) .nil)) (.cond (.t x21x) (.seq (.reg (.cons (some x22x) none (.ld 3 true (.t x5x)) (.cons none none (.st 3 (.t 
  x4x) (.t x22x)) .nil))) .ret) .skip))) (.seq (.reg (.cons (some x23x) none (.ld 3 true (.t x2x)) (.cons (some x24x) none (.ld 2 true (.t x3x)) (.cons (some x25x) none (.call 100 
  (.cons (.t x23x) (.cons (.t x24x) (.cons (.c (.i .i64 (.negSucc 0))) .nil)))) (.cons (some x7x) none (.alloc 121 (.cons (.n 0) (.cons (.n 0) (.cons (.n 0) .nil))) 3) (.cons none 
  none (.st 3 (.t x7x) (.t x25x)) .nil)))))) (.seq (.seq (.reg (.cons (some x26x) none (.fad 1 (.t x3x)) (.cons (some x27x) none (.ld 1 false (.t x26x)) (.cons (some x28x) none 
  (.call 101 (.cons (.t x27x) .nil)) (.cons (some x29x) none (.len (.t x28x)) (.cons (some x30x) none (.mv (.c (.n 0))) .nil)))))) (.block 0 (.loop (.seq (.reg (.cons (some x31x) 
  none (.bin .lss (.t x30x) (.t x29x)) .nil)) (.seq (.cond (.t x31x) .skip (.exit 0)) (.seq (.block 1 (.seq (.reg (.cons (some x32x) none (.ixs 1 (.t x28x) (.t x30x)) (.cons (some 
  x33x) none (.ld 1 false (.t x32x)) (.cons (some x9x) none (.mv (.t x33x)) .nil)))) (.draw [(.mk (some x34x) none false [] false [] [] [x7x] (.ld 3 true (.t x7x)) false [x7x] [] 
  []), (.mk (some x35x) none false [] false [false] [] [x2x] (.ld 3 true (.t x2x)) false [] [] []), (.mk (some x36x) none false [] false [false, false] [] [x3x] (.ld 2 true (.t 
  x3x)) false [] [] []), (.mk (some x37x) none true [] false [false, false, false] [] [x9x] (.mv (.t x9x)) false [] [] []), (.mk (some x38x) none false [] true [true, true, true, 
  false] [] [x35x, x36x, x37x] (.call 100 (.cons (.t x35x) (.cons (.t x36x) (.cons (.t x37x) .nil)))) true [] [x7x] [x1x]), (.mk (some x39x) none false [] false [true, true, true, 
  true, true] [] [x34x, x38x] (.call 102 (.cons (.t x34x) (.cons (.t x38x) .nil))) false [] [] []), (.mk none none false [x7x] false [true, true, true, true, true, true] [] [x7x, 
  x39x] (.st 3 (.t x7x) (.t x39x)) false [] [] [])]))) (.reg (.cons (some x40x) none (.bin .add (.t x30x) (.c (.n 1))) (.cons (some x30x) none (.mv (.t x40x)) .nil))))))))) (.seq 
  (.reg (.cons (some x41x) none (.fad 1 (.t x2x)) (.cons (some x42x) none (.ld 1 false (.t x41x)) (.cons (some x43x) none (.ld 2 true (.t x3x)) (.cons (some x44x) none (.ld 3 true 
  (.t x7x)) (.cons none none (.mup (.sh (.st (.cons 0 1 false .int (.cons 1 1 false .int .nil)))) (.t x42x) (.t x43x) (.t x44x)) .nil)))))) (.seq (.reg (.cons (some x45x) none (.ld 
  3 true (.t x7x)) (.cons none none (.st 3 (.t x4x) (.t x45x)) .nil))) .ret))))))) [(.cell x4x 3 true)])
theorem cc84 : compF Tryz.prog drops false false Tryz.f84 = some i84 := by kernel_rfl
noncomputable def i85 : FnI := (.mk true true (.seq (.reg (.cons (some x3x) none (.box 118 (.t x0x)) (.cons (some x6x) none (.alloc 118 (.cons (.i .u64 (.ofNat 0)) (.cons (.i .u64 (.ofNat 0)) .nil)) 2) .nil))) 
  (.seq (.draw [(.mk (some x8x) none true [] false [] [] [x3x] (.fad 0 (.t x3x)) false [] [] []), (.mk (some x9x) none false [] false [true] [] [x8x] (.ld 1 false (.t x8x)) false 
  [] [] []), (.mk (some x10x) none true [] false [false, false] [] [x1x] (.mv (.t x1x)) false [] [] []), (.mk (some x11x) none false [] false [true, true, true] [] [x9x, x10x] 
  (.call 103 (.cons (.t x9x) (.cons (.t x10x) .nil))) false [] [] []), (.mk (some x12x) none true [] false [false, false, false, false] [] [x3x] (.fad 1 (.t x3x)) false [] [] []), 
  (.mk (some x13x) none false [] false [true, false, false, false, false] [] [x12x] (.ld 1 false (.t x12x)) false [] [] []), (.mk (some x14x) none true [] false [true, true, true, 
  true, true, true] [] [x11x, x13x] (.build (.cons (.i .u64 (.ofNat 0)) (.cons (.i .u64 (.ofNat 0)) .nil)) (.cons 0 1 (.t x11x) (.cons 1 1 (.t x13x) .nil))) false [] [] []), (.mk 
  (some x7x) none true [] true [false, false, false, false, false, false, false] [] [] (.alloc 118 (.cons (.i .u64 (.ofNat 0)) (.cons (.i .u64 (.ofNat 0)) .nil)) 2) false [] [] 
  []), (.mk none none false [x7x] false [true, true, true, true, true, true, true, true] [] [x7x, x14x] (.st 2 (.t x7x) (.t x14x)) false [] [] [])]) (.seq (.seq (.reg (.cons (some 
  x15x) none (.mv (.t x2x)) (.cons (some x16x) none (.bin .neq (.t x15x) (.c (.i .i64 (.negSucc 0)))) .nil))) (.cond (.t x16x) (.reg (.cons (some x17x) none (.fad 1 (.t x3x)) 
  (.cons (some x18x) none (.ld 1 false (.t x17x)) (.cons (some x19x) none (.mv (.t x2x)) (.cons (some x20x) none (.call 103 (.cons (.t x18x) (.cons (.t x19x) .nil))) (.cons (some 
  x21x) none (.fad 1 (.t x7x)) (.cons none none (.st 1 (.t x21x) (.t x20x)) .nil))))))) .skip)) (.seq (.reg (.cons (some x22x) none (.ld 2 true (.t x7x)) (.cons none none (.st 2 
  (.t x6x) (.t x22x)) .nil))) .ret)))) [(.cell x6x 2 true)])
theorem cc85 : compF Tryz.prog drops true true Tryz.f85 = some i85 := by kernel_rfl
noncomputable def i86 : FnI := (.mk true true (.seq (.reg (.cons (some x2x) none (.box 103 (.t x0x)) (.cons (some x4x) none (.mv (.c (.n 0))) .nil))) (.seq (.draw [(.mk (some x5x) none true [] false [] [] [x2x] 
  (.fad 0 (.t x2x)) false [] [] []), (.mk (some x6x) none false [] false [true] [] [x5x] (.ld 1 false (.t x5x)) false [] [] []), (.mk (some x7x) none true [] false [false, false] 
  [] [x1x] (.mv (.t x1x)) false [] [] []), (.mk (some x8x) none true [] false [true, true, true] [] [x6x, x7x] (.ixs 1 (.t x6x) (.t x7x)) false [] [] []), (.mk (some x9x) none 
  false [] false [true, true, true, true] [] [x8x] (.ld 1 false (.t x8x)) false [] [] []), (.mk (some x10x) none true [] false [false, false, false, false, false] [] [x2x] (.fad 2 
  (.t x2x)) false [] [] []), (.mk (some x11x) none false [] false [true, false, false, false, false, false] [] [x10x] (.ld 1 false (.t x10x)) false [] [] []), (.mk (some x12x) none 
  true [] false [false, false, false, false, false, false, false] [] [x1x] (.mv (.t x1x)) false [] [] []), (.mk (some x13x) none true [] false [true, true, true, false, false, 
  false, false, false] [] [x11x, x12x] (.ixs 1 (.t x11x) (.t x12x)) false [] [] []), (.mk (some x14x) none false [] false [true, true, true, true, false, false, false, false, 
  false] [] [x13x] (.ld 1 false (.t x13x)) false [] [] []), (.mk (some x15x) none false [] false [true, true, true, true, true, true, true, true, true, true] [] [x9x, x14x] (.call 
  104 (.cons (.t x9x) (.cons (.t x14x) .nil))) false [] [] []), (.mk (some x4x) none true [] false [true, true, true, true, true, true, true, true, true, true, true] [] [x15x] (.mv 
  (.t x15x)) false [] [] [])]) .ret)) [(.tmp x4x)])
theorem cc86 : compF Tryz.prog drops true true Tryz.f86 = some i86 := by kernel_rfl
noncomputable def i87 : FnI := (.mk true true (.seq (.reg (.cons (some x2x) none (.box 109 (.t x0x)) (.cons (some x4x) none (.alloc 127 (.cons (.n 0) (.cons (.b false) (.cons (.n 0) (.cons (.n 0) (.cons (.n 0) 
  (.cons (.n 0) (.cons (.n 0) (.cons (.n 0) (.cons (.n 0) (.cons (.n 0) (.cons (.n 0) (.cons (.n 0) (.cons (.n 0) (.cons (.n 0) (.cons (.n 0) (.cons (.n 0) (.cons (.n 0) (.cons (.n 
  0) .nil)))))))))))))))))) 18) (.cons (some x5x) none (.mv (.c (.n 0))) .nil)))) (.seq (.reg (.cons (some x9x) none (.ld 3 true (.t x2x)) (.cons (some x10x) none (.call 105 (.cons 
  (.t x9x) .nil)) (.cons (some x8x) none (.mv (.t x10x)) (.cons (some x11x) none (.ext 0 (.t x8x)) (.cons (some x12x) none (.ext 1 (.t x8x)) (.cons (some x6x) none (.alloc 127 
  (.cons (.n 0) (.cons (.b false) (.cons (.n 0) (.cons (.n 0) (.cons (.n 0) (.cons (.n 0) (.cons (.n 0) (.cons (.n 0) (.cons (.n 0) (.cons (.n 0) (.cons (.n 0) (.cons (.n 0) (.cons 
  (.n 0) (.cons (.n 0) (.cons (.n 0) (.cons (.n 0) (.cons (.n 0) (.cons (.n 0) .nil)))))))))))))))))) 18) (.cons none none (.st 18 (.t x6x) (.t x11x)) (.cons (some x7x) none (.mv 
  (.t x12x)) .nil))))))))) (.seq (.seq (.reg (.cons (some x13x) none (.mv (.t x7x)) (.cons (some x14x) none (.bin .neq (.t x13x) (.c (.n 0))) .nil))) (.cond (.t x14x) (.seq (.reg 
  (.cons (some x15x) none (.build (.cons (.n 0) (.cons (.b false) (.cons (.n 0) (.cons (.n 0) (.cons (.n 0) (.cons (.n 0) (.cons (.n 0) (.cons (.n 0) (.cons (.n 0) (.cons (.n 0) 
  (.cons (.n 0) (.cons (.n 0) (.cons (.n 0) (.cons (.n 0) (.cons (.n 0) (.cons (.n 0) (.cons (.n 0) (.cons (.n 0) .nil)))))))))))))))))) .nil) (.cons (some x16x) none (.mv (.t 
  x7x)) (.cons none none (.st 18 (.t x4x) (.t x15x)) (.cons (some x5x) none (.mv (.t x16x)) .nil))))) .ret) .skip)) (.seq (.seq (.reg (.cons (some x17x) none (.ld 18 true (.t x6x)) 
  (.cons (some x18x) none (.mv (.t x1x)) (.cons (some x19x) none (.call 106 (.cons (.t x17x) (.cons (.t x18x) .nil))) (.cons (some x20x) none (.not (.t x19x)) .nil))))) (.cond (.t 
  x20x) (.seq (.reg (.cons (some x21x) none (.build (.cons (.n 0) (.cons (.b false) (.cons (.n 0) (.cons (.n 0) (.cons (.n 0) (.cons (.n 0) (.cons (.n 0) (.cons (.n 0) (.cons (.n 
  0) (.cons (.n 0) (.cons (.n 0) (.cons (.n 0) (.cons (.n 0) (.cons (.n 0) (.cons (.n 0) (.cons (.n 0) (.cons (.n 0) (.cons (.n 0) .nil)))))))))))))))))) .nil) (.cons none none 
  (.st 18 (.t x4x) (.t x21x)) (.cons (some x5x) none (.mv (.c (.n 2))) .nil)))) .ret) .skip)) (.seq (.seq (.reg (.cons (some x22x) none (.fad 2 (.t x6x)) (.cons (some x23x) none 
  (.ld 16 true (.t x22x)) (.cons (some x24x) none (.mv (.t x1x)) (.cons (some x25x) none (.call 107 (.cons (.t x23x) (.cons (.t x24x) .nil))) (.cons (some x26x) none (.not (.t 
  x25x)) .nil)))))) (.cond (.t x26x) (.seq (.reg (.cons (some x27x) none (.build (.cons (.n 0) (.cons (.b false) (.cons (.n 0) (.cons (.n 0) (.cons (.n 0) (.cons (.n 0) (.cons (.n 
  0) (.cons (.n 0) (.cons (.n 0) (.cons (.n 0) (.cons (.n 0) (.cons (.n 0) (.cons (.n 0) (.cons (.n 0) (.cons (.n 0) (.cons (.n 0) (.cons (.n 0) (.cons (.n 0) 
  .nil)))))))))))))))))) .nil) (.cons none none (.st 18 (.t x4x) (.t x27x)) (.cons (some x5x) none (.mv (.c (.n 12))) .nil)))) .ret) .skip)) (.seq (.reg (.cons (some x28x) none 
  (.ld 18 true (.t x6x)) (.cons none none (.st 18 (.t x4x) (.t x28x)) (.cons (some x5x) none (.mv (.c (.n 0))) .nil)))) .ret)))))) [(.cell x4x 18 true), (.tmp x5x)])
theorem cc87 : compF Tryz.prog drops true true Tryz.f87 = some i87 := by kernel_rfl
noncomputable def i88 : FnI := (.mk true false (.seq (.reg (.cons (some x2x) none (.box 127 (.t x0x)) (.cons (some x4x) none (.mv (.c .ns)) .nil))) (.seq (.reg (.cons (some x8x) none (.ld 18 true (.t x2x)) 
  (.cons (some x9x) none (.mv (.t x1x)) (.cons (some x10x) none (.call 108 (.cons (.t x8x) (.cons (.t x9x) .nil))) (.cons (some x7x) none (.mv (.t x10x)) (.cons (some x11x) none 
  (.ext 0 (.t x7x)) (.cons (some x12x) none (.ext 1 (.t x7x)) (.cons (some x5x) none (.mv (.t x11x)) (.cons (some x6x) none (.mv (.t x12x)) .nil))))))))) (.seq (.reg (.cons (some 
  x13x) none (.fad 2 (.t x2x)) (.cons (some x14x) none (.mv (.t x5x)) (.cons (some x15x) none (.bin .add (.t x14x) (.c (.n 1))) (.cons (some x16x) none (.mv (.t x6x)) (.cons (some 
  x17x) none (.sla 16 1 (.t x13x) (some (.t x15x)) (some (.t x16x)) none) (.cons (some x18x) none (.call 47 (.cons (.t x17x) .nil)) (.cons (some x4x) none (.mv (.t x18x)) 
  .nil)))))))) .ret))) [(.tmp x4x)])
theorem cc88 : compF Tryz.prog drops true false Tryz.f88 = some i88 := by kernel_rfl
noncomputable def i89 : FnI := (.mk true false (.seq (.reg (.cons (some x4x) none (.mv (.c .ns)) .nil)) (.seq (.reg (.cons (some x5x) none (.mv (.c .ns)) .nil)) (.seq (.seq (.reg (.cons (some x8x) none (.mv (.t 
  x0x)) (.cons (some x9x) none (.len (.t x8x)) (.cons (some x10x) none (.mv (.c (.n 0))) .nil)))) (.block 0 (.loop (.seq (.reg (.cons (some x11x) none (.bin .lss (.t x10x) (.t 
  x9x)) .nil)) (.seq (.cond (.t x11x) .skip (.exit 0)) (.seq (.block 1 (.seq (.reg (.cons (some x12x) none (.mv (.t x10x)) (.cons (some x13x) none (.ixs 1 (.t x8x) (.t x10x)) 
  (.cons (some x14x) none (.ld 1 false (.t x13x)) (.cons (some x6x) none (.mv (.t x12x)) (.cons (some x7x) none (.mv (.t x14x)) .nil)))))) (.seq (.reg (.cons (some x15x) none (.mv 
  (.t x7x)) (.cons (some x16x) none (.mv (.t x1x)) (.cons (some x17x) none (.bin .eql (.t x15x) (.t x16x)) .nil)))) (.cond (.t x17x) (.reg (.cons (some x18x) none (.mv (.t x5x)) 
  (.cons (some x19x) none (.mv (.t x6x)) (.cons (some x20x) none (.bsl 3 1 1 (.cons (.n 0) .nil) (.cons 0 1 (.t x19x) .nil)) (.cons (some x21x) none (.app 3 1 8 (.t x18x) (.t 
  x20x)) (.cons (some x5x) none (.mv (.t x21x)) .nil)))))) .skip)))) (.reg (.cons (some x22x) none (.bin .add (.t x10x) (.c (.n 1))) (.cons (some x10x) none (.mv (.t x22x)) 
  .nil))))))))) (.seq (.reg (.cons (some x23x) none (.mv (.t x5x)) (.cons (some x4x) none (.mv (.t x23x)) .nil))) .ret)))) [(.tmp x4x)])
theorem cc89 : compF Tryz.prog drops true false Tryz.f89 = some i89 := by kernel_rfl
noncomputable def i90 : FnI := (.mk true false (.seq (.reg (.cons (some x6x) none (.mv (.c .ns)) (.cons (some x7x) none (.mv (.c (.n 0))) .nil))) (.seq (.seq (.reg (.cons (some x9x) none (.mv (.t x0x)) (.cons 
  (some x10x) none (.mv (.t x1x)) (.cons (some x11x) none (.mv (.t x2x)) (.cons (some x12x) none (.call 109 (.cons (.t x9x) (.cons (.t x10x) (.cons (.t x11x) .nil)))) (.cons (some 
  x8x) none (.mv (.t x12x)) .nil)))))) (.seq (.reg (.cons (some x13x) none (.mv (.t x8x)) (.cons (some x14x) none (.bin .neq (.t x13x) (.c (.n 0))) .nil))) (.cond (.t x14x) (.seq 
  (.reg (.cons (some x15x) none (.mv (.t x8x)) (.cons (some x6x) none (.mv (.c .ns)) (.cons (some x7x) none (.mv (.t x15x)) .nil)))) .ret) .skip))) (.seq (.reg (.cons (some x16x) 
  none (.mv (.t x0x)) (.cons (some x17x) none (.mv (.t x1x)) (.cons (some x18x) none (.mv (.t x2x)) (.cons (some x19x) none (.call 110 (.cons (.t x16x) (.cons (.t x17x) (.cons (.t 
  x18x) .nil)))) (.cons (some x20x) none (.ext 0 (.t x19x)) (.cons (some x21x) none (.ext 1 (.t x19x)) (.cons (some x6x) none (.mv (.t x20x)) (.cons (some x7x) none (.mv (.t x21x)) 
  .nil))))))))) .ret))) [(.tmp x6x), (.tmp x7x)])
theorem cc90 : compF Tryz.prog drops true false Tryz.f90 = some i90 := by kernel_rfl
noncomputable def i91 : FnI := (.mk true false (.seq (.reg (.cons (some x2x) none (.mv (.c .ns)) (.cons (some x3x) none (.mv (.c (.n 0))) .nil))) (.seq (.seq (.reg (.cons (some x6x) none (.mv (.t x0x)) (.cons 
  (some x7x) none (.call 111 (.cons (.t x6x) .nil)) (.cons (some x4x) none (.mv (.t x7x)) .nil)))) (.seq (.reg (.cons (some x8x) none (.mv (.t x4x)) (.cons (some x9x) none (.bin 
  .neq (.t x8x) (.c (.n 0))) .nil))) (.cond (.t x9x) (.seq (.reg (.cons (some x10x) none (.mv (.t x4x)) (.cons (some x2x) none (.mv (.c .ns)) (.cons (some x3x) none (.mv (.t x10x)) 
  .nil)))) .ret) .skip))) (.seq (.reg (.cons (some x11x) none (.mv (.t x0x)) (.cons (some x12x) none (.call 112 (.cons (.t x11x) .nil)) (.cons (some x5x) none (.mv (.t x12x)) 
  .nil)))) (.seq (.seq (.reg (.cons (some x13x) none (.mv (.t x5x)) (.cons (some x14x) none (.len (.t x13x)) (.cons (some x15x) none (.bin .eql (.t x14x) (.c (.n 0))) .nil)))) 
  (.cond (.t x15x) (.seq (.reg (.cons (some x2x) none (.mv (.c .ns)) (.cons (some x3x) none (.mv (.c (.n 13))) .nil))) .ret) .skip)) (.seq (.reg (.cons (some x16x) none (.mv (.t 
  x5x)) (.cons (some x2x) none (.mv (.t x16x)) (.cons (some x3x) none (.mv (.c (.n 0))) .nil)))) .ret))))) [(.tmp x2x), (.tmp x3x)])
theorem cc91 : compF Tryz.prog drops true false Tryz.f91 = some i91 := by kernel_rfl
noncomputable def i92 : FnI := (.mk true true (.seq (.reg (.cons (some x4x) none (.mv (.c (.n 0))) .nil)) (.seq (.seq (.reg (.cons (some x6x) none (.mv (.t x0x)) (.cons (some x7x) none (.len (.t x6x)) (.cons 
  (some x8x) none (.mv (.c (.n 0))) .nil)))) (.block 0 (.loop (.seq (.reg (.cons (some x9x) none (.bin .lss (.t x8x) (.t x7x)) .nil)) (.seq (.cond (.t x9x) .skip (.exit 0)) (.seq 
  (.block 1 (.seq (.reg (.cons (some x10x) none (.mv (.t x8x)) (.cons (some x5x) none (.mv (.t x10x)) .nil))) (.seq (.reg (.cons (some x11x) none (.mv (.t x1x)) (.cons (some x12x) 
  none (.mv (.t x0x)) (.cons (some x13x) none (.mv (.t x5x)) (.cons (some x14x) none (.ixs 1 (.t x12x) (.t x13x)) (.cons (some x15x) none (.ld 1 false (.t x14x)) (.cons (some x16x) 
  none (.bin .eql (.t x11x) (.t x15x)) .nil))))))) (.cond (.t x16x) (.seq (.reg (.cons (some x17x) none (.mv (.t x5x)) (.cons (some x4x) none (.mv (.t x17x)) .nil))) .ret) 
  .skip)))) (.reg (.cons (some x18x) none (.bin .add (.t x8x) (.c (.n 1))) (.cons (some x8x) none (.mv (.t x18x)) .nil))))))))) (.seq (.reg (.cons (some x4x) none (.mv (.c (.i .i64 
  (.negSucc 0)))) .nil)) .ret))) [(.tmp x4x)])
theorem cc92 : compF Tryz.prog drops true true Tryz.f92 = some i92 := by kernel_rfl
noncomputable def i93 : FnI := (.mk true true (.seq (.reg (.cons (some x4x) none (.mv (.c (.n 0))) .nil)) (.seq (.reg (.cons (some x5x) none (.mv (.t x0x)) (.cons (some x6x) none (.mv (.t x1x)) (.cons (some x7x) 
  none (.bin .shl (.c (.n 1)) (.t x6x)) (.cons (some x8x) none (.bin .xor (.t x5x) (.t x7x)) (.cons (some x4x) none (.mv (.t x8x)) .nil)))))) .ret)) [(.tmp x4x)])
theorem cc93 : compF Tryz.prog drops true true Tryz.f93 = some i93 := by kernel_rfl
noncomputable def i94 : FnI := (.mk true true (.seq (.reg (.cons (some x4x) none (.mv (.c (.n 0))) .nil)) (.seq (.seq (.reg (.cons (some x6x) none (.mv (.t x0x)) (.cons (some x7x) none (.len (.t x6x)) (.cons 
  (some x8x) none (.mv (.c (.n 0))) .nil)))) (.block 0 (.loop (.seq (.reg (.cons (some x9x) none (.bin .lss (.t x8x) (.t x7x)) .nil)) (.seq (.cond (.t x9x) .skip (.exit 0)) (.seq 
  (.block 1 (.seq (.reg (.cons (some x10x) none (.mv (.t x8x)) (.cons (some x5x) none (.mv (.t x10x)) .nil))) (.seq (.reg (.cons (some x11x) none (.mv (.t x1x)) (.cons (some x12x) 
  none (.mv (.t x0x)) (.cons (some x13x) none (.mv (.t x5x)) (.cons (some x14x) none (.ixs 1 (.t x12x) (.t x13x)) (.cons (some x15x) none (.ld 1 false (.t x14x)) (.cons (some x16x) 
  none (.bin .eql (.t x11x) (.t x15x)) .nil))))))) (.cond (.t x16x) (.seq (.reg (.cons (some x17x) none (.mv (.t x5x)) (.cons (some x4x) none (.mv (.t x17x)) .nil))) .ret) 
  .skip)))) (.reg (.cons (some x18x) none (.bin .add (.t x8x) (.c (.n 1))) (.cons (some x8x) none (.mv (.t x18x)) .nil))))))))) (.seq (.reg (.cons (some x4x) none (.mv (.c (.i .i64 
  (.negSucc 0)))) .nil)) .ret))) [(.tmp x4x)])
theorem cc94 : compF Tryz.prog drops true true Tryz.f94 = some i94 := by kernel_rfl
noncomputable def i95 : FnI := (.mk true true (.seq (.reg (.cons (some x2x) none (.mv (.c (.n 0))) .nil)) (.seq (.seq (.reg (.cons (some x3x) none (.mv (.t x0x)) (.cons (some x4x) none (.bin .geq (.t x3x) (.c 
  (.i .u32 (.ofNat 65536)))) .nil))) (.cond (.t x4x) (.seq (.reg (.cons (some x5x) none (.mv (.t x0x)) (.cons (some x6x) none (.bin .shr (.t x5x) (.c (.i .u64 (.ofNat 16)))) (.cons 
  (some x0x) none (.mv (.t x6x)) .nil)))) (.reg (.cons (some x2x) none (.mv (.c (.n 16))) .nil))) .skip)) (.seq (.seq (.reg (.cons (some x7x) none (.mv (.t x0x)) (.cons (some x8x) 
  none (.bin .geq (.t x7x) (.c (.i .u32 (.ofNat 256)))) .nil))) (.cond (.t x8x) (.seq (.reg (.cons (some x9x) none (.mv (.t x0x)) (.cons (some x10x) none (.bin .shr (.t x9x) (.c 
  (.i .u64 (.ofNat 8)))) (.cons (some x0x) none (.mv (.t x10x)) .nil)))) (.reg (.cons (some x11x) none (.mv (.t x2x)) (.cons (some x12x) none (.bin .add (.t x11x) (.c (.n 8))) 
  (.cons (some x2x) none (.mv (.t x12x)) .nil))))) .skip)) (.seq (.reg (.cons (some x13x) none (.mv (.t x2x)) (.cons (some x14x) none (.mv (.t x0x)) (.cons (some x15x) none (.conv 
  .u8 (.t x14x)) (.cons (some x16x) none (.six (.c (.s [0, 1, 2, 2, 3, 3, 3, 3, 4, 4, 4, 4, 4, 4, 4, 4, 5, 5, 5, 5, 5, 5, 5, 5, 5, 5, 5, 5, 5, 5, 5, 5, 6, 6, 6, 6, 6, 6, 6, 6, 6, 
  6, 6, 6, 6, 6, 6, 6, 6, 6, 6, 6, 6, 6, 6, 6, 6, 6, 6, 6, 6, 6, 6, 6, 7, 7, 7, 7, 7, 7, 7, 7, 7, 7, 7, 7, 7, 7, 7, 7, 7, 7, 7, 7, 7, 7, 7, 7, 7, 7, 7, 7, 7, 7, 7, 7, 7, 7, 7, 7, 
  7, 7, 7, 7, 7, 7, 7, 7, 7, 7, 7, 7, 7, 7, 7, 7, 7, 7, 7, 7, 7, 7, 7, 7, 7, 7, 7, 7, 8, 8, 8, 8, 8, 8, 8, 8, 8, 8, 8, 8, 8, 8, 8, 8, 8, 8, 8, 8, 8, 8, 8, 8, 8, 8, 8, 8, 8, 8, 8, 
  8, 8, 8, 8, 8, 8, 8, 8, 8, 8, 8, 8, 8, 8, 8, 8, 8, 8, 8, 8, 8, 8, 8, 8, 8, 8, 8, 8, 8, 8, 8, 8, 8, 8, 8, 8, 8, 8, 8, 8, 8, 8, 8, 8, 8, 8, 8, 8, 8, 8, 8, 8, 8, 8, 8, 8, 8, 8, 8, 
  8, 8, 8, 8, 8, 8, 8, 8, 8, 8, 8, 8, 8, 8, 8, 8, 8, 8, 8, 8, 8, 8, 8, 8, 8, 8, 8, 8, 8, 8, 8, 8, 8, 8, 8, 8, 8, 8])) (.t x15x)) (.cons (some x17x) none (.conv .i64 (.t x16x)) 
  (.cons (some x18x) none (.bin .add (.t x13x) (.t x17x)) (.cons (some x2x) none (.mv (.t x18x)) .nil)))))))) .ret)))) [(.tmp x2x)])
theorem cc95 : compF Tryz.prog drops true true Tryz.f95 = some i95 := by kernel_rfl
noncomputable def i96 : FnI := (.mk true true (.seq (.reg (.cons (some x2x) none (.mv (.c (.n 0))) .nil)) (.seq (.seq (.reg (.cons (some x3x) none (.mv (.t x0x)) (.cons (some x4x) none (.bin .geq (.t x3x) (.c 
  (.i .u64 (.ofNat 4294967296)))) .nil))) (.cond (.t x4x) (.seq (.reg (.cons (some x5x) none (.mv (.t x0x)) (.cons (some x6x) none (.bin .shr (.t x5x) (.c (.i .u64 (.ofNat 32)))) 
  (.cons (some x0x) none (.mv (.t x6x)) .nil)))) (.reg (.cons (some x2x) none (.mv (.c (.n 32))) .nil))) .skip)) (.seq (.seq (.reg (.cons (some x7x) none (.mv (.t x0x)) (.cons 
  (some x8x) none (.bin .geq (.t x7x) (.c (.i .u64 (.ofNat 65536)))) .nil))) (.cond (.t x8x) (.seq (.reg (.cons (some x9x) none (.mv (.t x0x)) (.cons (some x10x) none (.bin .shr 
  (.t x9x) (.c (.i .u64 (.ofNat 16)))) (.cons (some x0x) none (.mv (.t x10x)) .nil)))) (.reg (.cons (some x11x) none (.mv (.t x2x)) (.cons (some x12x) none (.bin .add (.t x11x) (.c 
  (.n 16))) (.cons (some x2x) none (.mv (.t x12x)) .nil))))) .skip)) (.seq (.seq (.reg (.cons (some x13x) none (.mv (.t x0x)) (.cons (some x14x) none (.bin .geq (.t x13x) (.c (.i 
  .u64 (.ofNat 256)))) .nil))) (.cond (.t x14x) (.seq (.reg (.cons (some x15x) none (.mv (.t x0x)) (.cons (some x16x) none (.bin .shr (.t x15x) (.c (.i .u64 (.ofNat 8)))) (.cons 
  (some x0x) none (.mv (.t x16x)) .nil)))) (.reg (.cons (some x17x) none (.mv (.t x2x)) (.cons (some x18x) none (.bin .add (.t x17x) (.c (.n 8))) (.cons (some x2x) none (.mv (.t 
  x18x)) .nil))))) .skip)) (.seq (.reg (.cons (some x19x) none (.mv (.t x2x)) (.cons (some x20x) none (.mv (.t x0x)) (.cons (some x21x) none (.conv .u8 (.t x20x)) (.cons (some 
  x22x) none (.six (.c (.s [0, 1, 2, 2, 3, 3, 3, 3, 4, 4, 4, 4, 4, 4, 4, 4, 5, 5, 5, 5, 5, 5, 5, 5, 5, 5, 5, 5, 5, 5, 5, 5, 6, 6, 6, 6, 6, 6, 6, 6, 6, 6, 6, 6, 6, 6, 6, 6, 6, 6, 6, 
  6, 6, 6, 6, 6, 6, 6, 6, 6, 6, 6, 6, 6, 7, 7, 7, 7, 7, 7, 7, 7, 7, 7, 7, 7, 7, 7, 7, 7, 7, 7, 7, 7, 7, 7, 7, 7, 7, 7, 7, 7, 7, 7, 7, 7, 7, 7, 7, 7, 7, 7, 7, 7, 7, 7, 7, 7, 7, 7, 
  7, 7, 7, 7, 7, 7, 7, 7, 7, 7, 7, 7, 7, 7, 7, 7, 7, 7, 8, 8, 8, 8, 8, 8, 8, 8, 8, 8, 8, 8, 8, 8, 8, 8, 8, 8, 8, 8, 8, 8, 8, 8, 8, 8, 8, 8, 8, 8, 8, 8, 8, 8, 8, 8, 8, 8, 8, 8, 8, 
  8, 8, 8, 8, 8, 8, 8, 8, 8, 8, 8, 8, 8, 8, 8, 8, 8, 8, 8, 8, 8, 8, 8, 8, 8, 8, 8, 8, 8, 8, 8, 8, 8, 8, 8, 8, 8, 8, 8, 8, 8, 8, 8, 8, 8, 8, 8, 8, 8, 8, 8, 8, 8, 8, 8, 8, 8, 8, 8, 
  8, 8, 8, 8, 8, 8, 8, 8, 8, 8, 8, 8, 8, 8, 8, 8, 8, 8, 8, 8, 8, 8, 8, 8, 8, 8, 8, 8])) (.t x21x)) (.cons (some x23x) none (.conv .i64 (.t x22x)) (.cons (some x24x) none (.bin .add 
  (.t x19x) (.t x23x)) (.cons (some x2x) none (.mv (.t x24x)) .nil)))))))) .ret))))) [(.tmp x2x)])
theorem cc96 : compF Tryz.prog drops true true Tryz.f96 = some i96 := by kernel_rfl
noncomputable def i97 : FnI := (.mk true true (.seq (.reg (.cons (some x2x) none (.mv (.c (.n 0))) .nil)) (.seq (.seq (.reg (.cons (some x3x) none (.mv (.t x0x)) (.cons (some x4x) none (.bin .eql (.t x3x) (.c 
  (.i .u32 (.ofNat 0)))) .nil))) (.cond (.t x4x) (.seq (.reg (.cons (some x2x) none (.mv (.c (.n 32))) .nil)) .ret) .skip)) (.seq (.reg (.cons (some x5x) none (.mv (.t x0x)) (.cons 
  (some x6x) none (.mv (.t x0x)) (.cons (some x7x) none (.neg (.t x6x)) (.cons (some x8x) none (.bin .and (.t x5x) (.t x7x)) (.cons (some x9x) none (.bin .mul (.t x8x) (.c (.i .u32 
  (.ofNat 125613361)))) (.cons (some x10x) none (.bin .shr (.t x9x) (.c (.i .u64 (.ofNat 27)))) (.cons (some x11x) none (.ixa 32 1 (.c (.p x0x 0)) (.t x10x)) (.cons (some x12x) 
  none (.ld 1 false (.t x11x)) (.cons (some x13x) none (.conv .i64 (.t x12x)) (.cons (some x2x) none (.mv (.t x13x)) .nil))))))))))) .ret))) [(.tmp x2x)])
theorem cc97 : compF Tryz.prog drops true true Tryz.f97 = some i97 := by kernel_rfl
noncomputable def i98 : FnI := (.mk true true (.seq (.reg (.cons (some x2x) none (.mv (.c (.n 0))) .nil)) (.seq (.seq (.reg (.cons (some x3x) none (.mv (.t x0x)) (.cons (some x4x) none (.bin .eql (.t x3x) (.c 
  (.i .u64 (.ofNat 0)))) .nil))) (.cond (.t x4x) (.seq (.reg (.cons (some x2x) none (.mv (.c (.n 64))) .nil)) .ret) .skip)) (.seq (.reg (.cons (some x5x) none (.mv (.t x0x)) (.cons 
  (some x6x) none (.mv (.t x0x)) (.cons (some x7x) none (.neg (.t x6x)) (.cons (some x8x) none (.bin .and (.t x5x) (.t x7x)) (.cons (some x9x) none (.bin .mul (.t x8x) (.c (.i .u64 
  (.ofNat 285870213051353865)))) (.cons (some x10x) none (.bin .shr (.t x9x) (.c (.i .u64 (.ofNat 58)))) (.cons (some x11x) none (.ixa 64 1 (.c (.p x1x 0)) (.t x10x)) (.cons (some 
  x12x) none (.ld 1 false (.t x11x)) (.cons (some x13x) none (.conv .i64 (.t x12x)) (.cons (some x2x) none (.mv (.t x13x)) .nil))))))))))) .ret))) [(.tmp x2x)])
theorem cc98 : compF Tryz.prog drops true true Tryz.f98 = some i98 := by kernel_rfl
noncomputable def i99 : FnI := (.mk true true (.seq (.reg (.cons (some x2x) none (.mv (.c (.i .u64 (.ofNat 0)))) .nil)) (.seq (.reg (.cons (some x3x) none (.mv (.t x0x)) (.cons (some x4x) none (.bin .shl (.c (.i 
  .u64 (.ofNat 1))) (.t x3x)) (.cons (some x5x) none (.bin .sub (.t x4x) (.c (.i .u64 (.ofNat 1)))) (.cons (some x2x) none (.mv (.t x5x)) .nil))))) .ret)) [(.tmp x2x)])
theorem cc99 : compF Tryz.prog drops true true Tryz.f99 = some i99 := by kernel_rfl
noncomputable def i100 : FnI := (.mk false false (.seq (.reg (.cons (some x3x) none (.box 103 (.t x0x)) (.cons (some x4x) none (.box 118 (.t x1x)) (.cons (some x6x) none (.alloc 121 (.cons (.n 0) (.cons (.n 0) 
  (.cons (.n 0) .nil))) 3) .nil)))) (.seq (.reg (.cons (some x9x) none (.fad 0 (.t x4x)) (.cons (some x10x) none (.ld 1 false (.t x9x)) (.cons (some x11x) none (.call 113 (.cons 
  (.t x10x) .nil)) (.cons (some x7x) none (.mv (.t x11x)) .nil))))) (.seq (.draw [(.mk (some x12x) none false [] false [] [] [x3x] (.ld 3 true (.t x3x)) false [] [] []), (.mk (some 
  x13x) none false [] false [false] [] [x4x] (.ld 2 true (.t x4x)) false [] [] []), (.mk (some x14x) none true [] false [false, false] [] [x7x] (.mv (.t x7x)) false [] [] []), (.mk 
  (some x15x) none true [] false [false, false, false] [] [x2x] (.mv (.t x2x)) false [] [] []), (.mk (some x16x) none false [] false [true, true, true, false] [] [x13x, x14x, x15x] 
  (.call 85 (.cons (.t x13x) (.cons (.t x14x) (.cons (.t x15x) .nil)))) false [] [] []), (.mk (some x17x) none false [] true [true, true, true, true, true] [] [x12x, x16x] (.call 
  84 (.cons (.t x12x) (.cons (.t x16x) .nil))) true [] [] [x1x]), (.mk (some x8x) none true [] true [false, false, false, false, false, false] [] [] (.alloc 121 (.cons (.n 0) 
  (.cons (.n 0) (.cons (.n 0) .nil))) 3) false [] [] []), (.mk none none false [x8x] false [true, true, true, true, true, true, true] [] [x8x, x17x] (.st 3 (.t x8x) (.t x17x)) 
  false [] [] [])]) (.seq (.draw [(.mk (some x18x) none true [] false [] [] [x8x] (.fad 0 (.t x8x)) false [] [] []), (.mk (some x19x) none false [] false [true] [] [x18x] (.ld 1 
  false (.t x18x)) false [] [] []), (.mk (some x20x) none true [] false [false, false] [] [x3x] (.fad 0 (.t x3x)) false [] [] []), (.mk (some x21x) none false [] false [true, 
  false, false] [] [x20x] (.ld 1 false (.t x20x)) false [] [] []), (.mk (some x22x) none true [] false [false, false, false, false] [] [x7x] (.mv (.t x7x)) false [] [] []), (.mk 
  (some x23x) none true [] false [true, true, true, false, false] [] [x21x, x22x] (.ixs 1 (.t x21x) (.t x22x)) false [] [] []), (.mk (some x24x) none false [] false [true, true, 
  true, true, false, false] [] [x23x] (.ld 1 false (.t x23x)) false [] [] []), (.mk (some x25x) none true [] false [false, false, false, false, false, false, false] [] [x2x] (.mv 
  (.t x2x)) false [] [] []), (.mk (some x26x) none false [] false [true, true, true, true, true, true, false, false] [] [x24x, x25x] (.call 104 (.cons (.t x24x) (.cons (.t x25x) 
  .nil))) false [] [] []), (.mk (some x27x) none true [] false [true, true, true, true, true, true, true, true, true] [] [x19x, x26x] (.bin .add (.t x19x) (.t x26x)) false [] [] 
  []), (.mk (some x28x) none true [] false [false, false, false, false, false, false, false, false, false, false] [] [x8x] (.fad 1 (.t x8x)) false [] [] []), (.mk (some x29x) none 
  false [] false [true, false, false, false, false, false, false, false, false, false, false] [] [x28x] (.ld 1 false (.t x28x)) false [] [] []), (.mk (some x30x) none true [] false 
  [false, false, false, false, false, false, false, false, false, false, false, false] [] [x2x] (.mv (.t x2x)) false [] [] []), (.mk (some x31x) none true [] false [true, true, 
  true, true, true, true, true, true, true, true, true, true, true] [] [x27x, x29x, x30x] (.build (.cons (.n 0) (.cons (.n 0) (.cons (.n 0) .nil))) (.cons 0 1 (.t x27x) (.cons 1 1 
  (.t x29x) (.cons 2 1 (.t x30x) .nil)))) false [] [] []), (.mk none none false [x6x] false [true, true, true, true, true, true, true, true, true, true, true, true, true, true] [] 
  [x6x, x31x] (.st 3 (.t x6x) (.t x31x)) false [] [] [])]) .ret)))) [(.cell x6x 3 true)])
theorem cc100 : compF Tryz.prog drops false false Tryz.f100 = some i100 := by kernel_rfl
noncomputable def i101 : FnI := (.mk true false (.seq (.reg (.cons (some x2x) none (.mv (.c .ns)) .nil)) (.seq (.reg (.cons (some x3x) none (.mv (.c .ns)) .nil)) (.seq (.seq (.reg (.cons (some x5x) none (.mv (.t 
  x0x)) (.cons (some x4x) none (.mv (.t x5x)) .nil))) (.block 0 (.loop (.seq (.seq (.reg (.cons (some x6x) none (.mv (.t x4x)) (.cons (some x7x) none (.bin .neq (.t x6x) (.c (.i 
  .u64 (.ofNat 0)))) .nil))) (.cond (.t x7x) .skip (.exit 0))) (.seq (.block 1 (.reg (.cons (some x12x) none (.mv (.t x3x)) (.cons (some x13x) none (.mv (.t x4x)) (.cons (some 
  x14x) none (.call 113 (.cons (.t x13x) .nil)) (.cons (some x15x) none (.bsl 3 1 1 (.cons (.n 0) .nil) (.cons 0 1 (.t x14x) .nil)) (.cons (some x16x) none (.app 3 1 8 (.t x12x) 
  (.t x15x)) (.cons (some x3x) none (.mv (.t x16x)) .nil)))))))) (.reg (.cons (some x8x) none (.mv (.t x4x)) (.cons (some x9x) none (.mv (.t x4x)) (.cons (some x10x) none (.call 
  113 (.cons (.t x9x) .nil)) (.cons (some x11x) none (.call 103 (.cons (.t x8x) (.cons (.t x10x) .nil))) (.cons (some x4x) none (.mv (.t x11x)) .nil))))))))))) (.seq (.reg (.cons 
  (some x17x) none (.mv (.t x3x)) (.cons (some x2x) none (.mv (.t x17x)) .nil))) .ret)))) [(.tmp x2x)])
theorem cc101 : compF Tryz.prog drops true false Tryz.f101 = some i101 := by kernel_rfl
noncomputable def i102 : FnI := (.mk true true (.seq (.reg (.cons (some x2x) none (.box 121 (.t x0x)) (.cons (some x3x) none (.box 121 (.t x1x)) (.cons (some x4x) none (.alloc 121 (.cons (.n 0) (.cons (.n 0) 
  (.cons (.n 0) .nil))) 3) .nil)))) (.seq (.block 0 (.seq (.reg (.cons (some x6x) none (.fad 0 (.t x3x)) (.cons (some x7x) none (.ld 1 false (.t x6x)) (.cons (some x8x) none (.fad 
  0 (.t x2x)) (.cons (some x9x) none (.ld 1 false (.t x8x)) (.cons (some x10x) none (.bin .gtr (.t x7x) (.t x9x)) (.cons (some x5x) none (.mv (.t x10x)) .nil))))))) (.cond (.t x5x) 
  (.seq (.reg (.cons (some x11x) none (.ld 3 true (.t x3x)) (.cons none none (.st 3 (.t x4x) (.t x11x)) .nil))) .ret) (.seq (.reg (.cons (some x13x) none (.fad 0 (.t x3x)) (.cons 
  (some x14x) none (.ld 1 false (.t x13x)) (.cons (some x15x) none (.fad 0 (.t x2x)) (.cons (some x16x) none (.ld 1 false (.t x15x)) (.cons (some x17x) none (.bin .eql (.t x14x) 
  (.t x16x)) (.cons (some x12x) none (.mv (.t x17x)) .nil))))))) (.cond (.t x12x) (.reg (.cons (some x18x) none (.fad 1 (.t x2x)) (.cons (some x19x) none (.ld 1 false (.t x18x)) 
  (.cons (some x20x) none (.fad 1 (.t x3x)) (.cons (some x21x) none (.ld 1 false (.t x20x)) (.cons (some x22x) none (.bin .add (.t x19x) (.t x21x)) (.cons (some x23x) none (.fad 1 
  (.t x2x)) (.cons none none (.st 1 (.t x23x) (.t x22x)) .nil)))))))) .skip))))) (.seq (.reg (.cons (some x24x) none (.ld 3 true (.t x2x)) (.cons none none (.st 3 (.t x4x) (.t 
  x24x)) .nil))) .ret))) [(.cell x4x 3 true)])
theorem cc102 : compF Tryz.prog drops true true Tryz.f102 = some i102 := by kernel_rfl
noncomputable def i103 : FnI := (.mk true true (.seq (.reg (.cons (some x4x) none (.mv (.c (.i .u64 (.ofNat 0)))) .nil)) (.seq (.reg (.cons (some x5x) none (.mv (.t x0x)) (.cons (some x6x) none (.mv (.t x1x)) 
  (.cons (some x7x) none (.bin .shl (.c (.i .u64 (.ofNat 1))) (.t x6x)) (.cons (some x8x) none (.bin .andNot (.t x5x) (.t x7x)) (.cons (some x4x) none (.mv (.t x8x)) .nil)))))) 
  .ret)) [(.tmp x4x)])
theorem cc103 : compF Tryz.prog drops true true Tryz.f103 = some i103 := by kernel_rfl
noncomputable def i104 : FnI := (.mk true true (.seq (.reg (.cons (some x4x) none (.mv (.c (.n 0))) .nil)) (.seq (.seq (.reg (.cons (some x5x) none (.mv (.t x1x)) (.cons (some x6x) none (.bin .eql (.t x5x) (.c 
  (.i .i64 (.negSucc 0)))) .nil))) (.cond (.t x6x) (.seq (.reg (.cons (some x4x) none (.mv (.c (.n 0))) .nil)) .ret) .skip)) (.seq (.reg (.cons (some x7x) none (.mv (.t x0x)) 
  (.cons (some x8x) none (.mv (.t x1x)) (.cons (some x9x) none (.ixs 1 (.t x7x) (.t x8x)) (.cons (some x10x) none (.ld 1 false (.t x9x)) (.cons (some x4x) none (.mv (.t x10x)) 
  .nil)))))) .ret))) [(.tmp x4x)])
theorem cc104 : compF Tryz.prog drops true true Tryz.f104 = some i104 := by kernel_rfl
noncomputable def i105 : FnI := (.mk true true (.seq (.reg (.cons (some x1x) none (.box 109 (.t x0x)) (.cons (some x2x) none (.alloc 127 (.cons (.n 0) (.cons (.b false) (.cons (.n 0) (.cons (.n 0) (.cons (.n 0) 
  (.cons (.n 0) (.cons (.n 0) (.cons (.n 0) (.cons (.n 0) (.cons (.n 0) (.cons (.n 0) (.cons (.n 0) (.cons (.n 0) (.cons (.n 0) (.cons (.n 0) (.cons (.n 0) (.cons (.n 0) (.cons (.n 
  0) .nil)))))))))))))))))) 18) (.cons (some x3x) none (.mv (.c (.n 0))) .nil)))) (.seq (.seq (.reg (.cons (some x9x) none (.fad 0 (.t x1x)) (.cons (some x10x) none (.ld 1 false 
  (.t x9x)) (.cons (some x11x) none (.bin .lss (.t x10x) (.c (.n 1))) (.cons (some x12x) none (.mv (.t x11x)) (.cons (some x13x) (some (.mk x12x false)) (.fad 0 (.t x1x)) (.cons 
  (some x14x) (some (.mk x12x false)) (.ld 1 false (.t x13x)) (.cons (some x15x) (some (.mk x12x false)) (.bin .gtr (.t x14x) (.c (.n 8))) (.cons (some x16x) none (.pick (.t x12x) 
  (.c (.b true)) (.t x15x)) .nil))))))))) (.cond (.t x16x) (.seq (.reg (.cons (some x17x) none (.build (.cons (.n 0) (.cons (.b false) (.cons (.n 0) (.cons (.n 0) (.cons (.n 0) 
  (.cons (.n 0) (.cons (.n 0) (.cons (.n 0) (.cons (.n 0) (.cons (.n 0) (.cons (.n 0) (.cons (.n 0) (.cons (.n 0) (.cons (.n 0) (.cons (.n 0) (.cons (.n 0) (.cons (.n 0) (.cons (.n 
  0) .nil)))))))))))))))))) .nil) (.cons none none (.st 18 (.t x2x) (.t x17x)) (.cons (some x3x) none (.mv (.c (.n 1))) .nil)))) .ret) .skip)) (.seq (.reg (.cons (some x18x) none 
  (.fad 0 (.t x1x)) (.cons (some x19x) none (.ld 1 false (.t x18x)) (.cons (some x20x) none (.fad 1 (.t x1x)) (.cons (some x21x) none (.ld 1 false (.t x20x)) (.cons (some x22x) 
  none (.build (.cons (.n 0) (.cons (.b false) (.cons (.n 0) (.cons (.n 0) (.cons (.n 0) (.cons (.n 0) (.cons (.n 0) (.cons (.n 0) (.cons (.n 0) (.cons (.n 0) (.cons (.n 0) (.cons 
  (.n 0) (.cons (.n 0) (.cons (.n 0) (.cons (.n 0) (.cons (.n 0) (.cons (.n 0) (.cons (.n 0) .nil)))))))))))))))))) (.cons 0 1 (.t x19x) (.cons 1 1 (.t x21x) .nil))) (.cons (some 
  x4x) none (.alloc 127 (.cons (.n 0) (.cons (.b false) (.cons (.n 0) (.cons (.n 0) (.cons (.n 0) (.cons (.n 0) (.cons (.n 0) (.cons (.n 0) (.cons (.n 0) (.cons (.n 0) (.cons (.n 
  0) (.cons (.n 0) (.cons (.n 0) (.cons (.n 0) (.cons (.n 0) (.cons (.n 0) (.cons (.n 0) (.cons (.n 0) .nil)))))))))))))))))) 18) (.cons none none (.st 18 (.t x4x) (.t x22x)) 
  .nil)))))))) (.seq (.seq (.draw [(.mk (some x23x) none true [] false [] [] [x1x] (.fad 2 (.t x1x)) false [] [] []), (.mk (some x24x) none false [] false [true] [] [x23x] (.ld 1 
  false (.t x23x)) false [] [] []), (.mk (some x25x) none true [] false [true, true] [] [x24x] (.len (.t x24x)) false [] [] []), (.mk (some x26x) none false [] false [false, false, 
  false] [] [x4x] (.ld 18 true (.t x4x)) false [] [] []), (.mk (some x27x) none false [] false [true, false, false, false] [] [x26x] (.call 114 (.cons (.t x26x) .nil)) false [] [] 
  []), (.mk (some x28x) none true [] false [true, true, true, true, true] [] [x25x, x27x] (.bin .neq (.t x25x) (.t x27x)) false [] [] [])]) (.cond (.t x28x) (.seq (.reg (.cons 
  (some x29x) none (.build (.cons (.n 0) (.cons (.b false) (.cons (.n 0) (.cons (.n 0) (.cons (.n 0) (.cons (.n 0) (.cons (.n 0) (.cons (.n 0) (.cons (.n 0) (.cons (.n 0) (.cons 
  (.n 0) (.cons (.n 0) (.cons (.n 0) (.cons (.n 0) (.cons (.n 0) (.cons (.n 0) (.cons (.n 0) (.cons (.n 0) .nil)))))))))))))))))) .nil) (.cons none none (.st 18 (.t x2x) (.t x29x)) 
  (.cons (some x3x) none (.mv (.c (.n 5))) .nil)))) .ret) .skip)) (.seq (.seq (.reg (.cons (some x30x) none (.fad 2 (.t x1x)) (.cons (some x31x) none (.ld 1 false (.t x30x)) (.cons 
  (some x32x) none (.len (.t x31x)) (.cons (some x33x) none (.mv (.c (.n 0))) .nil))))) (.block 0 (.loop (.seq (.reg (.cons (some x34x) none (.bin .lss (.t x33x) (.t x32x)) .nil)) 
  (.seq (.cond (.t x34x) .skip (.exit 0)) (.seq (.block 1 (.seq (.reg (.cons (some x35x) none (.mv (.t x33x)) (.cons (some x36x) none (.ixs 1 (.t x31x) (.t x33x)) (.cons (some 
  x37x) none (.ld 1 false (.t x36x)) (.cons (some x5x) none (.mv (.t x35x)) (.cons (some x6x) none (.mv (.t x37x)) .nil)))))) (.seq (.seq (.reg (.cons (some x38x) none (.mv (.t 
  x6x)) (.cons (some x39x) none (.bin .neq (.t x38x) (.c (.n 0))) (.cons (some x40x) none (.mv (.t x39x)) (.cons (some x41x) (some (.mk x40x true)) (.ld 18 true (.t x4x)) (.cons 
  (some x42x) (some (.mk x40x true)) (.mv (.t x6x)) (.cons (some x43x) (some (.mk x40x true)) (.call 106 (.cons (.t x41x) (.cons (.t x42x) .nil))) (.cons (some x44x) (some (.mk 
  x40x true)) (.not (.t x43x)) (.cons (some x45x) none (.pick (.t x40x) (.t x44x) (.c (.b false))) .nil))))))))) (.cond (.t x45x) (.seq (.reg (.cons (some x46x) none (.build (.cons 
  (.n 0) (.cons (.b false) (.cons (.n 0) (.cons (.n 0) (.cons (.n 0) (.cons (.n 0) (.cons (.n 0) (.cons (.n 0) (.cons (.n 0) (.cons (.n 0) (.cons (.n 0) (.cons (.n 0) (.cons (.n 0) 
  (.cons (.n 0) (.cons (.n 0) (.cons (.n 0) (.cons (.n 0) (.cons (.n 0) .nil)))))))))))))))))) .nil) (.cons none none (.st 18 (.t x2x) (.t x46x)) (.cons (some x3x) none (.mv (.c 
  (.n 2))) .nil)))) .ret) .skip)) (.reg (.cons (some x47x) none (.mv (.t x5x)) (.cons (some x48x) none (.mv (.t x6x)) (.cons (some x49x) none (.fad 2 (.t x4x)) (.cons (some x50x) 
  none (.ixa 16 1 (.t x49x) (.t x47x)) (.cons none none (.st 1 (.t x50x) (.t x48x)) .nil))))))))) (.reg (.cons (some x51x) none (.bin .add (.t x33x) (.c (.n 1))) (.cons (some x33x) 
  none (.mv (.t x51x)) .nil))))))))) (.seq (.seq (.reg (.cons (some x7x) none (.mv (.c (.n 1))) .nil)) (.block 2 (.loop (.seq (.seq (.reg (.cons (some x52x) none (.mv (.t x7x)) 
  (.cons (some x53x) none (.fad 0 (.t x4x)) (.cons (some x54x) none (.ld 1 false (.t x53x)) (.cons (some x55x) none (.bin .leq (.t x52x) (.t x54x)) .nil))))) (.cond (.t x55x) .skip 
  (.exit 2))) (.seq (.block 3 (.seq (.reg (.cons (some x58x) none (.ld 18 true (.t x4x)) (.cons (some x59x) none (.mv (.t x7x)) (.cons (some x60x) none (.call 115 (.cons (.t x58x) 
  (.cons (.t x59x) .nil))) (.cons (some x8x) none (.mv (.t x60x)) .nil))))) (.seq (.reg (.cons (some x61x) none (.mv (.t x8x)) (.cons (some x62x) none (.bin .neq (.t x61x) (.c (.n 
  0))) .nil))) (.cond (.t x62x) (.seq (.reg (.cons (some x63x) none (.build (.cons (.n 0) (.cons (.b false) (.cons (.n 0) (.cons (.n 0) (.cons (.n 0) (.cons (.n 0) (.cons (.n 0) 
  (.cons (.n 0) (.cons (.n 0) (.cons (.n 0) (.cons (.n 0) (.cons (.n 0) (.cons (.n 0) (.cons (.n 0) (.cons (.n 0) (.cons (.n 0) (.cons (.n 0) (.cons (.n 0) .nil)))))))))))))))))) 
  .nil) (.cons (some x64x) none (.mv (.t x8x)) (.cons none none (.st 18 (.t x2x) (.t x63x)) (.cons (some x3x) none (.mv (.t x64x)) .nil))))) .ret) .skip)))) (.reg (.cons (some 
  x56x) none (.mv (.t x7x)) (.cons (some x57x) none (.bin .add (.t x56x) (.c (.n 1))) (.cons (some x7x) none (.mv (.t x57x)) .nil))))))))) (.seq (.reg (.cons (some x65x) none (.ld 
  18 true (.t x4x)) (.cons none none (.st 18 (.t x2x) (.t x65x)) (.cons (some x3x) none (.mv (.c (.n 0))) .nil)))) .ret))))))) [(.cell x2x 18 true), (.tmp x3x)])
theorem cc105 : compF Tryz.prog drops true true Tryz.f105 = some i105 := by kernel_rfl
noncomputable def i106 : FnI := (.mk true true (.seq (.reg (.cons (some x2x) none (.box 127 (.t x0x)) (.cons (some x4x) none (.mv (.c (.b false))) .nil))) (.seq (.reg (.cons (some x5x) none (.mv (.t x1x)) (.cons 
  (some x6x) none (.bin .geq (.t x5x) (.c (.n 1))) (.cons (some x7x) none (.mv (.t x6x)) (.cons (some x8x) (some (.mk x7x true)) (.mv (.t x1x)) (.cons (some x9x) (some (.mk x7x 
  true)) (.fad 0 (.t x2x)) (.cons (some x10x) (some (.mk x7x true)) (.ld 1 false (.t x9x)) (.cons (some x11x) (some (.mk x7x true)) (.bin .leq (.t x8x) (.t x10x)) (.cons (some 
  x12x) none (.pick (.t x7x) (.t x11x) (.c (.b false))) (.cons (some x4x) none (.mv (.t x12x)) .nil)))))))))) .ret)) [(.tmp x4x)])
theorem cc106 : compF Tryz.prog drops true true Tryz.f106 = some i106 := by kernel_rfl
noncomputable def i107 : FnI := (.mk true true (.seq (.reg (.cons (some x2x) none (.box 125 (.t x0x)) (.cons (some x4x) none (.mv (.c (.b false))) .nil))) (.seq (.draw [(.mk (some x5x) none false [] false [] [] 
  [x2x] (.ld 16 true (.t x2x)) false [] [] []), (.mk (some x6x) none true [] false [false] [] [x1x] (.mv (.t x1x)) false [] [] []), (.mk (some x7x) none false [] false [true, true] 
  [] [x5x, x6x] (.call 116 (.cons (.t x5x) (.cons (.t x6x) .nil))) false [] [] []), (.mk (some x8x) none false [] false [false, false, false] [] [x2x] (.ld 16 true (.t x2x)) false 
  [] [] []), (.mk (some x9x) none true [] false [true, true, true, true] [] [x7x, x8x] (.eqa true (.ar 16 1 false .int) (.t x7x) (.t x8x)) false [] [] []), (.mk (some x4x) none 
  true [] false [true, true, true, true, true] [] [x9x] (.mv (.t x9x)) false [] [] [])]) .ret)) [(.tmp x4x)])
theorem cc107 : compF Tryz.prog drops true true Tryz.f107 = some i107 := by kernel_rfl
noncomputable def i108 : FnI := (.mk true true (.seq (.reg (.cons (some x2x) none (.box 127 (.t x0x)) (.cons (some x4x) none (.mv (.c (.n 0))) (.cons (some x5x) none (.mv (.c (.n 0))) .nil)))) (.seq (.reg (.cons 
  (some x6x) none (.fad 2 (.t x2x)) (.cons (some x7x) none (.sla 16 1 (.t x6x) none none none) (.cons (some x8x) none (.mv (.t x1x)) (.cons (some x9x) none (.call 92 (.cons (.t 
  x7x) (.cons (.t x8x) .nil))) (.cons (some x4x) none (.mv (.t x9x)) .nil)))))) (.seq (.reg (.cons (some x10x) none (.mv (.t x4x)) (.cons (some x11x) none (.mv (.t x4x)) (.cons 
  (some x12x) none (.ld 18 true (.t x2x)) (.cons (some x13x) none (.mv (.t x1x)) (.cons (some x14x) none (.call 117 (.cons (.t x12x) (.cons (.t x13x) .nil))) (.cons (some x15x) 
  none (.bin .add (.t x11x) (.t x14x)) (.cons (some x4x) none (.mv (.t x10x)) (.cons (some x5x) none (.mv (.t x15x)) .nil))))))))) .ret))) [(.tmp x4x), (.tmp x5x)])
theorem cc108 : compF Tryz.prog drops true true Tryz.f108 = some i108 := by kernel_rfl
noncomputable def i109 : FnI := (.mk true true (.seq (.reg (.cons (some x6x) none (.mv (.c (.n 0))) .nil)) (.seq (.seq (.reg (.cons (some x8x) none (.mv (.t x0x)) (.cons (some x9x) none (.mv (.t x1x)) (.cons 
  (some x10x) none (.call 118 (.cons (.t x8x) (.cons (.t x9x) .nil))) (.cons (some x7x) none (.mv (.t x10x)) .nil))))) (.seq (.reg (.cons (some x11x) none (.mv (.t x7x)) (.cons 
  (some x12x) none (.bin .neq (.t x11x) (.c (.n 0))) .nil))) (.cond (.t x12x) (.seq (.reg (.cons (some x13x) none (.mv (.t x7x)) (.cons (some x6x) none (.mv (.t x13x)) .nil))) 
  .ret) .skip))) (.seq (.reg (.cons (some x14x) none (.mv (.t x2x)) (.cons (some x15x) none (.call 119 (.cons (.t x14x) .nil)) (.cons (some x6x) none (.mv (.t x15x)) .nil)))) 
  .ret))) [(.tmp x6x)])
theorem cc109 : compF Tryz.prog drops true true Tryz.f109 = some i109 := by kernel_rfl
noncomputable def i110 : FnI := (.mk true false (.seq (.reg (.cons (some x6x) none (.mv (.c .ns)) (.cons (some x7x) none (.mv (.c (.n 0))) .nil))) (.seq (.reg (.cons (some x15x) none (.mv (.t x0x)) (.cons (some 
  x16x) none (.mv (.t x1x)) (.cons (some x17x) none (.mv (.t x2x)) (.cons (some x18x) none (.call 120 (.cons (.t x15x) (.cons (.t x16x) (.cons (.t x17x) .nil)))) (.cons (some x8x) 
  none (.mv (.t x18x)) .nil)))))) (.seq (.seq (.reg (.cons (some x19x) none (.mv (.t x8x)) (.cons (some x20x) none (.ixs 1 (.t x19x) (.c (.n 0))) (.cons (some x21x) none (.ld 1 
  false (.t x20x)) (.cons (some x22x) none (.mv (.t x2x)) (.cons (some x23x) none (.ixs 1 (.t x21x) (.t x22x)) (.cons (some x24x) none (.ld 1 false (.t x23x)) (.cons (some x25x) 
  none (.bin .eql (.t x24x) (.c (.n 1001))) .nil)))))))) (.cond (.t x25x) (.seq (.reg (.cons (some x6x) none (.mv (.c .ns)) (.cons (some x7x) none (.mv (.c (.n 12))) .nil))) .ret) 
  .skip)) (.seq (.reg (.cons (some x26x) none (.mv (.t x0x)) (.cons (some x27x) none (.len (.t x26x)) (.cons (some x28x) none (.mks 3 1 8 1 (.cons (.n 0) .nil) (.t x27x) (.t x27x)) 
  (.cons (some x9x) none (.mv (.t x28x)) .nil))))) (.seq (.reg (.cons (some x29x) none (.mv (.t x2x)) (.cons (some x10x) none (.mv (.t x29x)) .nil))) (.seq .skip (.seq (.seq (.reg 
  (.cons (some x30x) none (.mv (.t x0x)) (.cons (some x31x) none (.len (.t x30x)) (.cons (some x32x) none (.mv (.c (.n 0))) .nil)))) (.block 0 (.loop (.seq (.reg (.cons (some x33x) 
  none (.bin .lss (.t x32x) (.t x31x)) .nil)) (.seq (.cond (.t x33x) .skip (.exit 0)) (.seq (.block 1 (.seq (.reg (.cons (some x34x) none (.mv (.t x32x)) (.cons (some x35x) none 
  (.ixs 1 (.t x30x) (.t x32x)) (.cons (some x36x) none (.ld 1 false (.t x35x)) (.cons (some x11x) none (.mv (.t x34x)) (.cons (some x12x) none (.mv (.t x36x)) .nil)))))) (.seq 
  (.reg (.cons (some x37x) none (.mv (.t x1x)) (.cons (some x38x) none (.mv (.t x11x)) (.cons (some x39x) none (.ixs 1 (.t x37x) (.t x38x)) (.cons (some x40x) none (.ld 1 false (.t 
  x39x)) (.cons (some x41x) none (.bin .add (.t x40x) (.c (.n 1))) (.cons (some x42x) none (.mv (.c (.n 0))) .nil))))))) (.block 2 (.loop (.seq (.reg (.cons (some x43x) none (.bin 
  .lss (.t x42x) (.t x41x)) .nil)) (.seq (.cond (.t x43x) .skip (.exit 2)) (.seq (.block 3 (.seq (.reg (.cons (some x44x) none (.mv (.t x42x)) (.cons (some x13x) none (.mv (.t 
  x44x)) .nil))) (.seq (.reg (.cons (some x45x) none (.mv (.t x10x)) (.cons (some x46x) none (.mv (.t x13x)) (.cons (some x47x) none (.mv (.t x12x)) (.cons (some x48x) none (.bin 
  .mul (.t x46x) (.t x47x)) (.cons (some x49x) none (.bin .sub (.t x45x) (.t x48x)) (.cons (some x14x) none (.mv (.t x49x)) .nil))))))) (.seq (.draw [(.mk (some x50x) none true [] 
  false [] [] [x14x] (.mv (.t x14x)) false [] [] []), (.mk (some x51x) none true [] false [true] [] [x50x] (.bin .geq (.t x50x) (.c (.n 0))) false [] [] []), (.mk (some x52x) none 
  true [] false [true, true] [] [x51x] (.mv (.t x51x)) false [] [] []), (.mk (some x53x) (some (.mk x52x true)) true [] false [true, true, true] [] [x52x, x13x] (.mv (.t x13x)) 
  false [] [] []), (.mk (some x54x) (some (.mk x52x true)) true [] false [false, true, true, true] [] [x52x, x8x] (.mv (.t x8x)) false [] [] []), (.mk (some x55x) (some (.mk x52x 
  true)) true [] false [false, false, true, true, true] [] [x52x, x11x] (.mv (.t x11x)) false [] [] []), (.mk (some x56x) (some (.mk x52x true)) true [] false [true, false, false, 
  true, true, true] [] [x52x, x55x] (.bin .add (.t x55x) (.c (.n 1))) false [] [] []), (.mk (some x57x) (some (.mk x52x true)) true [] false [true, true, true, false, true, true, 
  true] [] [x52x, x54x, x56x] (.ixs 1 (.t x54x) (.t x56x)) false [] [] []), (.mk (some x58x) (some (.mk x52x true)) false [] false [true, true, true, true, false, true, true, true] 
  [] [x52x, x57x] (.ld 1 false (.t x57x)) false [] [] []), (.mk (some x59x) (some (.mk x52x true)) true [] false [false, false, false, false, false, false, true, true, true] [] 
  [x52x, x14x] (.mv (.t x14x)) false [] [] []), (.mk (some x60x) (some (.mk x52x true)) true [] false [true, true, true, true, true, true, false, true, true, true] [] [x52x, x58x, 
  x59x] (.ixs 1 (.t x58x) (.t x59x)) false [] [] []), (.mk (some x61x) (some (.mk x52x true)) false [] false [true, true, true, true, true, true, true, false, true, true, true] [] 
  [x52x, x60x] (.ld 1 false (.t x60x)) false [] [] []), (.mk (some x62x) (some (.mk x52x true)) true [] false [true, true, true, true, true, true, true, true, true, true, true, 
  true] [] [x52x, x53x, x61x] (.bin .add (.t x53x) (.t x61x)) false [] [] []), (.mk (some x63x) (some (.mk x52x true)) true [] false [false, false, false, false, false, false, 
  false, false, false, false, true, true, true] [] [x52x, x8x] (.mv (.t x8x)) false [] [] []), (.mk (some x64x) (some (.mk x52x true)) true [] false [false, false, false, false, 
  false, false, false, false, false, false, false, true, true, true] [] [x52x, x11x] (.mv (.t x11x)) false [] [] []), (.mk (some x65x) (some (.mk x52x true)) true [] false [true, 
  true, false, false, false, false, false, false, false, false, false, false, true, true, true] [] [x52x, x63x, x64x] (.ixs 1 (.t x63x) (.t x64x)) false [] [] []), (.mk (some x66x) 
  (some (.mk x52x true)) false [] false [true, true, true, false, false, false, false, false, false, false, false, false, false, true, true, true] [] [x52x, x65x] (.ld 1 false (.t 
  x65x)) false [] [] []), (.mk (some x67x) (some (.mk x52x true)) true [] false [false, false, false, false, false, false, false, false, false, false, false, false, false, false, 
  true, true, true] [] [x52x, x10x] (.mv (.t x10x)) false [] [] []), (.mk (some x68x) (some (.mk x52x true)) true [] false [true, true, true, true, true, false, false, false, 
  false, false, false, false, false, false, false, true, true, true] [] [x52x, x66x, x67x] (.ixs 1 (.t x66x) (.t x67x)) false [] [] []), (.mk (some x69x) (some (.mk x52x true)) 
  false [] false [true, true, true, true, true, true, false, false, false, false, false, false, false, false, false, false, true, true, true] [] [x52x, x68x] (.ld 1 false (.t 
  x68x)) false [] [] []), (.mk (some x70x) (some (.mk x52x true)) true [] false [true, true, true, true, true, true, true, true, true, true, true, true, true, true, true, true, 
  true, true, true, true] [] [x52x, x62x, x69x] (.bin .eql (.t x62x) (.t x69x)) false [] [] []), (.mk (some x71x) none true [] false [true, true, true, true, true, true, true, 
  true, true, true, true, true, true, true, true, true, true, true, true, true, true] [] [x52x, x70x] (.pick (.t x52x) (.t x70x) (.c (.b false))) false [] [] [])]) (.cond (.t x71x) 
  (.seq (.reg (.cons (some x72x) none (.mv (.t x9x)) (.cons (some x73x) none (.mv (.t x11x)) (.cons (some x74x) none (.mv (.t x13x)) (.cons (some x75x) none (.ixs 1 (.t x72x) (.t 
  x73x)) (.cons none none (.st 1 (.t x75x) (.t x74x)) .nil)))))) (.seq (.reg (.cons (some x76x) none (.mv (.t x14x)) (.cons (some x10x) none (.mv (.t x76x)) .nil))) (.exit 1))) 
  .skip))))) (.reg (.cons (some x77x) none (.bin .add (.t x42x) (.c (.n 1))) (.cons (some x42x) none (.mv (.t x77x)) .nil))))))))))) (.reg (.cons (some x78x) none (.bin .add (.t 
  x32x) (.c (.n 1))) (.cons (some x32x) none (.mv (.t x78x)) .nil))))))))) (.seq (.reg (.cons (some x79x) none (.mv (.t x9x)) (.cons (some x6x) none (.mv (.t x79x)) (.cons (some 
  x7x) none (.mv (.c (.n 0))) .nil)))) .ret)))))))) [(.tmp x6x), (.tmp x7x)])
theorem cc110 : compF Tryz.prog drops true false Tryz.f110 = some i110 := by kernel_rfl
noncomputable def i111 : FnI := (.mk true true (.seq (.reg (.cons (some x2x) none (.mv (.c (.n 0))) .nil)) (.seq (.seq (.reg (.cons (some x6x) none (.mv (.t x0x)) (.cons (some x7x) none (.len (.t x6x)) (.cons 
  (some x8x) none (.bin .eql (.t x7x) (.c (.n 0))) .nil)))) (.cond (.t x8x) (.seq (.reg (.cons (some x2x) none (.mv (.c (.n 4))) .nil)) .ret) .skip)) (.seq (.seq (.reg (.cons (some 
  x9x) none (.mv (.t x0x)) (.cons (some x10x) none (.len (.t x9x)) (.cons (some x11x) none (.bin .gtr (.t x10x) (.c (.n 7))) .nil)))) (.cond (.t x11x) (.seq (.reg (.cons (some x2x) 
  none (.mv (.c (.n 3))) .nil)) .ret) .skip)) (.seq (.reg (.cons (some x3x) none (.mv (.c (.n 0))) .nil)) (.seq (.seq (.reg (.cons (some x12x) none (.mv (.t x0x)) (.cons (some 
  x13x) none (.len (.t x12x)) (.cons (some x14x) none (.mv (.c (.n 0))) .nil)))) (.block 0 (.loop (.seq (.reg (.cons (some x15x) none (.bin .lss (.t x14x) (.t x13x)) .nil)) (.seq 
  (.cond (.t x15x) .skip (.exit 0)) (.seq (.block 1 (.seq (.reg (.cons (some x16x) none (.ixs 1 (.t x12x) (.t x14x)) (.cons (some x17x) none (.ld 1 false (.t x16x)) (.cons (some 
  x5x) none (.mv (.t x17x)) .nil)))) (.seq (.seq (.reg (.cons (some x18x) none (.mv (.t x5x)) (.cons (some x19x) none (.bin .lss (.t x18x) (.c (.n 0))) (.cons (some x20x) none (.mv 
  (.t x19x)) (.cons (some x21x) (some (.mk x20x false)) (.mv (.t x5x)) (.cons (some x22x) (some (.mk x20x false)) (.mv (.t x0x)) (.cons (some x23x) (some (.mk x20x false)) (.len 
  (.t x22x)) (.cons (some x24x) (some (.mk x20x false)) (.bin .geq (.t x21x) (.t x23x)) (.cons (some x25x) none (.pick (.t x20x) (.c (.b true)) (.t x24x)) .nil))))))))) (.cond (.t 
  x25x) (.seq (.reg (.cons (some x2x) none (.mv (.c (.n 1))) .nil)) .ret) .skip)) (.reg (.cons (some x26x) none (.mv (.t x3x)) (.cons (some x27x) none (.mv (.t x5x)) (.cons (some 
  x28x) none (.bin .add (.t x26x) (.t x27x)) (.cons (some x3x) none (.mv (.t x28x)) .nil)))))))) (.reg (.cons (some x29x) none (.bin .add (.t x14x) (.c (.n 1))) (.cons (some x14x) 
  none (.mv (.t x29x)) .nil))))))))) (.seq (.seq (.reg (.cons (some x30x) none (.mv (.t x3x)) (.cons (some x31x) none (.mv (.t x0x)) (.cons (some x32x) none (.len (.t x31x)) (.cons 
  (some x33x) none (.call 121 (.cons (.t x32x) .nil)) (.cons (some x34x) none (.bin .neq (.t x30x) (.t x33x)) .nil)))))) (.cond (.t x34x) (.seq (.reg (.cons (some x2x) none (.mv 
  (.c (.n 17))) .nil)) .ret) .skip)) (.seq (.reg (.cons (some x2x) none (.mv (.c (.n 0))) .nil)) .ret))))))) [(.tmp x2x)])
theorem cc111 : compF Tryz.prog drops true true Tryz.f111 = some i111 := by kernel_rfl
noncomputable def i112 : FnI := (.mk true false (.seq (.reg (.cons (some x2x) none (.mv (.c .ns)) .nil)) (.seq (.reg (.cons (some x3x) none (.mv (.c .ns)) .nil)) (.seq (.seq (.reg (.cons (some x6x) none (.mv (.t 
  x0x)) (.cons (some x7x) none (.len (.t x6x)) (.cons (some x8x) none (.bin .shl (.c (.n 1)) (.t x7x)) (.cons (some x9x) none (.mv (.c (.n 0))) .nil))))) (.block 0 (.loop (.seq 
  (.reg (.cons (some x10x) none (.bin .lss (.t x9x) (.t x8x)) .nil)) (.seq (.cond (.t x10x) .skip (.exit 0)) (.seq (.block 1 (.seq (.reg (.cons (some x11x) none (.mv (.t x9x)) 
  (.cons (some x4x) none (.mv (.t x11x)) .nil))) (.seq (.reg (.cons (some x12x) none (.mv (.t x4x)) (.cons (some x13x) none (.mv (.t x0x)) (.cons (some x14x) none (.len (.t x13x)) 
  (.cons (some x15x) none (.call 122 (.cons (.t x12x) (.cons (.t x14x) .nil))) (.cons (some x5x) none (.mv (.t x15x)) .nil)))))) (.seq (.reg (.cons (some x16x) none (.mv (.t x0x)) 
  (.cons (some x17x) none (.mv (.t x5x)) (.cons (some x18x) none (.call 123 (.cons (.t x16x) (.cons (.t x17x) .nil))) (.cons (some x19x) none (.mv (.t x18x)) (.cons (some x20x) 
  (some (.mk x19x true)) (.mv (.t x3x)) (.cons (some x21x) (some (.mk x19x true)) (.eqn false (.t x20x) (.c .ns)) (.cons (some x22x) (some (.mk x19x true)) (.mv (.t x21x)) (.cons 
  (some x23x) (some (.mk x22x false)) (.mv (.t x5x)) (.cons (some x24x) (some (.mk x22x false)) (.mv (.t x3x)) (.cons (some x25x) (some (.mk x22x false)) (.call 124 (.cons (.t 
  x23x) (.cons (.t x24x) .nil))) (.cons (some x26x) (some (.mk x19x true)) (.pick (.t x22x) (.c (.b true)) (.t x25x)) (.cons (some x27x) none (.pick (.t x19x) (.t x26x) (.c (.b 
  false))) .nil))))))))))))) (.cond (.t x27x) (.reg (.cons (some x28x) none (.mv (.t x5x)) (.cons (some x3x) none (.mv (.t x28x)) .nil))) .skip))))) (.reg (.cons (some x29x) none 
  (.bin .add (.t x9x) (.c (.n 1))) (.cons (some x9x) none (.mv (.t x29x)) .nil))))))))) (.seq (.reg (.cons (some x30x) none (.mv (.t x3x)) (.cons (some x2x) none (.mv (.t x30x)) 
  .nil))) .ret)))) [(.tmp x2x)])
theorem cc112 : compF Tryz.prog drops true false Tryz.f112 = some i112 := by kernel_rfl
noncomputable def i113 : FnI := (.mk true true (.seq (.reg (.cons (some x2x) none (.mv (.c (.n 0))) .nil)) (.seq (.reg (.cons (some x3x) none (.mv (.t x0x)) (.cons (some x4x) none (.call 80 (.cons (.t x3x) .nil)) 
  (.cons (some x2x) none (.mv (.t x4x)) .nil)))) .ret)) [(.tmp x2x)])
theorem cc113 : compF Tryz.prog drops true true Tryz.f113 = some i113 := by kernel_rfl
noncomputable def i114 : FnI := (.mk true true (.seq (.reg (.cons (some x1x) none (.box 127 (.t x0x)) (.cons (some x2x) none (.mv (.c (.n 0))) .nil))) (.seq (.reg (.cons (some x3x) none (.fad 0 (.t x1x)) (.cons 
  (some x4x) none (.ld 1 false (.t x3x)) (.cons (some x5x) none (.bin .mul (.c (.n 2)) (.t x4x)) (.cons (some x2x) none (.mv (.t x5x)) .nil))))) .ret)) [(.tmp x2x)])
theorem cc114 : compF Tryz.prog drops true true Tryz.f114 = some i114 := by kernel_rfl
noncomputable def i115 : FnI := (.mk true true (.seq (.reg (.cons (some x2x) none (.box 127 (.t x0x)) (.cons (some x4x) none (.mv (.c (.n 0))) .nil))) (.seq (.reg (.cons (some x6x) none (.fad 2 (.t x2x)) (.cons 
  (some x7x) none (.sla 16 1 (.t x6x) none none none) (.cons (some x8x) none (.mv (.t x1x)) (.cons (some x9x) none (.call 89 (.cons (.t x7x) (.cons (.t x8x) .nil))) (.cons (some 
  x5x) none (.mv (.t x9x)) .nil)))))) (.seq (.block 0 (.seq (.reg (.cons (some x11x) none (.mv (.t x5x)) (.cons (some x12x) none (.len (.t x11x)) (.cons (some x13x) none (.bin .gtr 
  (.t x12x) (.c (.n 2))) (.cons (some x10x) none (.mv (.t x13x)) .nil))))) (.cond (.t x10x) (.seq (.reg (.cons (some x4x) none (.mv (.c (.n 3))) .nil)) .ret) (.seq (.reg (.cons 
  (some x15x) none (.mv (.t x5x)) (.cons (some x16x) none (.len (.t x15x)) (.cons (some x17x) none (.bin .eql (.t x16x) (.c (.n 1))) (.cons (some x14x) none (.mv (.t x17x)) 
  .nil))))) (.cond (.t x14x) (.seq (.reg (.cons (some x4x) none (.mv (.c (.n 21))) .nil)) .ret) (.seq (.draw [(.mk (some x19x) none true [] false [] [] [x5x] (.mv (.t x5x)) false 
  [] [] []), (.mk (some x20x) none true [] false [true] [] [x19x] (.len (.t x19x)) false [] [] []), (.mk (some x21x) none true [] false [true, true] [] [x20x] (.bin .eql (.t x20x) 
  (.c (.n 2))) false [] [] []), (.mk (some x22x) none true [] false [true, true, true] [] [x21x] (.mv (.t x21x)) false [] [] []), (.mk (some x23x) (some (.mk x22x true)) true [] 
  false [true, true, true, true] [] [x22x, x5x] (.mv (.t x5x)) false [] [] []), (.mk (some x24x) (some (.mk x22x true)) true [] false [true, true, true, true, true] [] [x22x, x23x] 
  (.ixs 1 (.t x23x) (.c (.n 1))) false [] [] []), (.mk (some x25x) (some (.mk x22x true)) false [] false [true, true, true, true, true, true] [] [x22x, x24x] (.ld 1 false (.t 
  x24x)) false [] [] []), (.mk (some x26x) (some (.mk x22x true)) true [] false [false, false, false, true, true, true, true] [] [x22x, x5x] (.mv (.t x5x)) false [] [] []), (.mk 
  (some x27x) (some (.mk x22x true)) true [] false [true, false, false, false, true, true, true, true] [] [x22x, x26x] (.ixs 1 (.t x26x) (.c (.n 0))) false [] [] []), (.mk (some 
  x28x) (some (.mk x22x true)) false [] false [true, true, false, false, false, true, true, true, true] [] [x22x, x27x] (.ld 1 false (.t x27x)) false [] [] []), (.mk (some x29x) 
  (some (.mk x22x true)) true [] false [true, true, true, true, true, true, true, true, true, true] [] [x22x, x25x, x28x] (.bin .sub (.t x25x) (.t x28x)) false [] [] []), (.mk 
  (some x30x) (some (.mk x22x true)) false [] false [false, false, false, false, false, false, false, true, true, true, true] [] [x22x, x2x] (.ld 18 true (.t x2x)) false [] [] []), 
  (.mk (some x31x) (some (.mk x22x true)) true [] false [false, false, false, false, false, false, false, false, true, true, true, true] [] [x22x, x1x] (.mv (.t x1x)) false [] [] 
  []), (.mk (some x32x) (some (.mk x22x true)) false [] false [true, true, false, false, false, false, false, false, false, true, true, true, true] [] [x22x, x30x, x31x] (.call 117 
  (.cons (.t x30x) (.cons (.t x31x) .nil))) false [] [] []), (.mk (some x33x) (some (.mk x22x true)) true [] false [true, true, true, true, true, true, true, true, true, true, 
  true, true, true, true] [] [x22x, x29x, x32x] (.bin .neq (.t x29x) (.t x32x)) false [] [] []), (.mk (some x34x) none true [] false [true, true, true, true, true, true, true, 
  true, true, true, true, true, true, true, true] [] [x22x, x33x] (.pick (.t x22x) (.t x33x) (.c (.b false))) false [] [] []), (.mk (some x18x) none true [] false [true, true, 
  true, true, true, true, true, true, true, true, true, true, true, true, true, true] [] [x34x] (.mv (.t x34x)) false [] [] [])]) (.cond (.t x18x) (.seq (.reg (.cons (some x4x) 
  none (.mv (.c (.n 13))) .nil)) .ret) .skip))))))) (.seq (.reg (.cons (some x4x) none (.mv (.c (.n 0))) .nil)) .ret)))) [(.tmp x4x)])
theorem cc115 : compF Tryz.prog drops true true Tryz.f115 = some i115 := by kernel_rfl
noncomputable def i116 : FnI := (.mk true true (.seq (.reg (.cons (some x2x) none (.box 125 (.t x0x)) (.cons (some x4x) none (.alloc 125 (.cons (.n 0) (.cons (.n 0) (.cons (.n 0) (.cons (.n 0) (.cons (.n 0) 
  (.cons (.n 0) (.cons (.n 0) (.cons (.n 0) (.cons (.n 0) (.cons (.n 0) (.cons (.n 0) (.cons (.n 0) (.cons (.n 0) (.cons (.n 0) (.cons (.n 0) (.cons (.n 0) .nil)))))))))))))))) 16) 
  .nil))) (.seq (.seq (.reg (.cons (some x7x) none (.ld 16 true (.t x2x)) (.cons (some x8x) none (.mv (.c (.n 0))) .nil))) (.block 0 (.loop (.seq (.reg (.cons (some x9x) none (.bin 
  .lss (.t x8x) (.c (.n 16))) .nil)) (.seq (.cond (.t x9x) .skip (.exit 0)) (.seq (.block 1 (.seq (.reg (.cons (some x10x) none (.mv (.t x8x)) (.cons (some x11x) none (.idx 16 1 
  false (.t x7x) (.t x8x)) (.cons (some x5x) none (.mv (.t x10x)) (.cons (some x6x) none (.mv (.t x11x)) .nil))))) (.seq (.reg (.cons (some x12x) none (.mv (.t x6x)) (.cons (some 
  x13x) none (.mv (.t x1x)) (.cons (some x14x) none (.bin .eql (.t x12x) (.t x13x)) .nil)))) (.cond (.t x14x) (.reg (.cons (some x15x) none (.mv (.t x5x)) (.cons (some x16x) none 
  (.ixa 16 1 (.t x2x) (.t x15x)) (.cons none none (.st 1 (.t x16x) (.c (.n 0))) .nil)))) .skip)))) (.reg (.cons (some x17x) none (.bin .add (.t x8x) (.c (.n 1))) (.cons (some x8x) 
  none (.mv (.t x17x)) .nil))))))))) (.seq (.reg (.cons (some x18x) none (.ld 16 true (.t x2x)) (.cons none none (.st 16 (.t x4x) (.t x18x)) .nil))) .ret))) [(.cell x4x 16 true)])
theorem cc116 : compF Tryz.prog drops true true Tryz.f116 = some i116 := by kernel_rfl
noncomputable def i117 : FnI := (.mk true true (.seq (.reg (.cons (some x2x) none (.box 127 (.t x0x)) (.cons (some x4x) none (.mv (.c (.n 0))) .nil))) (.seq (.seq (.reg (.cons (some x5x) none (.fad 1 (.t x2x)) 
  (.cons (some x6x) none (.ld 1 false (.t x5x)) .nil))) (.cond (.t x6x) (.seq (.reg (.cons (some x7x) none (.mv (.t x1x)) (.cons (some x8x) none (.bin .add (.t x7x) (.c (.n 1))) 
  (.cons (some x4x) none (.mv (.t x8x)) .nil)))) .ret) .skip)) (.seq (.reg (.cons (some x9x) none (.mv (.t x1x)) (.cons (some x4x) none (.mv (.t x9x)) .nil))) .ret))) [(.tmp x4x)])
theorem cc117 : compF Tryz.prog drops true true Tryz.f117 = some i117 := by kernel_rfl
noncomputable def i118 : FnI := (.mk true true (.seq (.reg (.cons (some x4x) none (.mv (.c (.n 0))) .nil)) (.seq (.seq (.reg (.cons (some x8x) none (.mv (.t x0x)) (.cons (some x9x) none (.call 125 (.cons (.t x8x) 
  .nil)) (.cons (some x5x) none (.mv (.t x9x)) .nil)))) (.seq (.reg (.cons (some x10x) none (.mv (.t x5x)) (.cons (some x11x) none (.bin .neq (.t x10x) (.c (.n 0))) .nil))) (.cond 
  (.t x11x) (.seq (.reg (.cons (some x12x) none (.mv (.t x5x)) (.cons (some x4x) none (.mv (.t x12x)) .nil))) .ret) .skip))) (.seq (.seq (.reg (.cons (some x13x) none (.mv (.t 
  x1x)) (.cons (some x14x) none (.len (.t x13x)) (.cons (some x15x) none (.mv (.t x0x)) (.cons (some x16x) none (.len (.t x15x)) (.cons (some x17x) none (.bin .neq (.t x14x) (.t 
  x16x)) .nil)))))) (.cond (.t x17x) (.seq (.reg (.cons (some x4x) none (.mv (.c (.n 5))) .nil)) .ret) .skip)) (.seq (.seq (.reg (.cons (some x18x) none (.mv (.t x1x)) (.cons (some 
  x19x) none (.len (.t x18x)) (.cons (some x20x) none (.mv (.c (.n 0))) .nil)))) (.block 0 (.loop (.seq (.reg (.cons (some x21x) none (.bin .lss (.t x20x) (.t x19x)) .nil)) (.seq 
  (.cond (.t x21x) .skip (.exit 0)) (.seq (.block 1 (.seq (.reg (.cons (some x22x) none (.ixs 1 (.t x18x) (.t x20x)) (.cons (some x23x) none (.ld 1 false (.t x22x)) (.cons (some 
  x7x) none (.mv (.t x23x)) .nil)))) (.seq (.reg (.cons (some x24x) none (.mv (.t x7x)) (.cons (some x25x) none (.bin .lss (.t x24x) (.c (.n 0))) (.cons (some x26x) none (.mv (.t 
  x25x)) (.cons (some x27x) (some (.mk x26x false)) (.mv (.t x7x)) (.cons (some x28x) (some (.mk x26x false)) (.bin .gtr (.t x27x) (.c (.n 40))) (.cons (some x29x) none (.pick (.t 
  x26x) (.c (.b true)) (.t x28x)) .nil))))))) (.cond (.t x29x) (.seq (.reg (.cons (some x4x) none (.mv (.c (.n 1))) .nil)) .ret) .skip)))) (.reg (.cons (some x30x) none (.bin .add 
  (.t x20x) (.c (.n 1))) (.cons (some x20x) none (.mv (.t x30x)) .nil))))))))) (.seq (.reg (.cons (some x4x) none (.mv (.c (.n 0))) .nil)) .ret))))) [(.tmp x4x)])
theorem cc118 : compF Tryz.prog drops true true Tryz.f118 = some i118 := by kernel_rfl
noncomputable def i119 : FnI := (.mk true true (.seq (.reg (.cons (some x2x) none (.mv (.c (.n 0))) .nil)) (.seq (.seq (.reg (.cons (some x3x) none (.mv (.t x0x)) (.cons (some x4x) none (.bin .lss (.t x3x) (.c 
  (.n 0))) (.cons (some x5x) none (.mv (.t x4x)) (.cons (some x6x) (some (.mk x5x false)) (.mv (.t x0x)) (.cons (some x7x) (some (.mk x5x false)) (.bin .gtr (.t x6x) (.c (.n 
  1000))) (.cons (some x8x) none (.pick (.t x5x) (.c (.b true)) (.t x7x)) .nil))))))) (.cond (.t x8x) (.seq (.reg (.cons (some x2x) none (.mv (.c (.n 1))) .nil)) .ret) .skip)) 
  (.seq (.reg (.cons (some x2x) none (.mv (.c (.n 0))) .nil)) .ret))) [(.tmp x2x)])
theorem cc119 : compF Tryz.prog drops true true Tryz.f119 = some i119 := by kernel_rfl
noncomputable def i120 : FnI := (.mk true false (.seq (.reg (.cons (some x6x) none (.mv (.c .ns)) .nil)) (.seq (.reg (.cons (some x10x) none (.mv (.t x0x)) (.cons (some x11x) none (.len (.t x10x)) (.cons (some 
  x12x) none (.bin .add (.t x11x) (.c (.n 1))) (.cons (some x13x) none (.mks 25 1 24 1 (.cons .ns .nil) (.t x12x) (.t x12x)) (.cons (some x7x) none (.mv (.t x13x)) .nil)))))) (.seq 
  (.reg (.cons (some x14x) none (.mv (.t x7x)) (.cons (some x15x) none (.mv (.t x0x)) (.cons (some x16x) none (.len (.t x15x)) (.cons (some x17x) none (.mv (.t x2x)) (.cons (some 
  x18x) none (.bin .add (.t x17x) (.c (.n 1))) (.cons (some x19x) none (.mks 3 1 8 1 (.cons (.n 0) .nil) (.t x18x) (.t x18x)) (.cons (some x20x) none (.ixs 1 (.t x14x) (.t x16x)) 
  (.cons none none (.st 1 (.t x20x) (.t x19x)) .nil))))))))) (.seq (.seq (.reg (.cons (some x8x) none (.mv (.c (.n 1))) .nil)) (.block 0 (.loop (.seq (.seq (.reg (.cons (some x21x) 
  none (.mv (.t x8x)) (.cons (some x22x) none (.mv (.t x2x)) (.cons (some x23x) none (.bin .leq (.t x21x) (.t x22x)) .nil)))) (.cond (.t x23x) .skip (.exit 0))) (.seq (.block 1 
  (.reg (.cons (some x26x) none (.mv (.t x7x)) (.cons (some x27x) none (.mv (.t x0x)) (.cons (some x28x) none (.len (.t x27x)) (.cons (some x29x) none (.ixs 1 (.t x26x) (.t x28x)) 
  (.cons (some x30x) none (.ld 1 false (.t x29x)) (.cons (some x31x) none (.mv (.t x8x)) (.cons (some x32x) none (.ixs 1 (.t x30x) (.t x31x)) (.cons none none (.st 1 (.t x32x) (.c 
  (.n 1001))) .nil)))))))))) (.reg (.cons (some x24x) none (.mv (.t x8x)) (.cons (some x25x) none (.bin .add (.t x24x) (.c (.n 1))) (.cons (some x8x) none (.mv (.t x25x)) 
  .nil))))))))) (.seq (.seq (.reg (.cons (some x33x) none (.mv (.t x0x)) (.cons (some x34x) none (.len (.t x33x)) (.cons (some x35x) none (.bin .sub (.t x34x) (.c (.n 1))) (.cons 
  (some x9x) none (.mv (.t x35x)) .nil))))) (.block 2 (.loop (.seq (.seq (.reg (.cons (some x36x) none (.mv (.t x9x)) (.cons (some x37x) none (.bin .geq (.t x36x) (.c (.n 0))) 
  .nil))) (.cond (.t x37x) .skip (.exit 2))) (.seq (.block 3 (.draw [(.mk (some x40x) none true [] false [] [] [x7x] (.mv (.t x7x)) false [] [] []), (.mk (some x41x) none true [] 
  false [false] [] [x9x] (.mv (.t x9x)) false [] [] []), (.mk (some x42x) none true [] false [false, false] [] [x7x] (.mv (.t x7x)) false [] [] []), (.mk (some x43x) none true [] 
  false [false, false, false] [] [x9x] (.mv (.t x9x)) false [] [] []), (.mk (some x44x) none true [] false [true, false, false, false] [] [x43x] (.bin .add (.t x43x) (.c (.n 1))) 
  false [] [] []), (.mk (some x45x) none true [] false [true, true, true, false, false] [] [x42x, x44x] (.ixs 1 (.t x42x) (.t x44x)) false [] [] []), (.mk (some x46x) none false [] 
  false [true, true, true, true, false, false] [] [x45x] (.ld 1 false (.t x45x)) false [] [] []), (.mk (some x47x) none true [] false [false, false, false, false, false, false, 
  false] [] [x0x] (.mv (.t x0x)) false [] [] []), (.mk (some x48x) none true [] false [false, false, false, false, false, false, false, false] [] [x9x] (.mv (.t x9x)) false [] [] 
  []), (.mk (some x49x) none true [] false [true, true, false, false, false, false, false, false, false] [] [x47x, x48x] (.ixs 1 (.t x47x) (.t x48x)) false [] [] []), (.mk (some 
  x50x) none false [] false [true, true, true, false, false, false, false, false, false, false] [] [x49x] (.ld 1 false (.t x49x)) false [] [] []), (.mk (some x51x) none true [] 
  false [false, false, false, false, false, false, false, false, false, false, false] [] [x1x] (.mv (.t x1x)) false [] [] []), (.mk (some x52x) none true [] false [false, false, 
  false, false, false, false, false, false, false, false, false, false] [] [x9x] (.mv (.t x9x)) false [] [] []), (.mk (some x53x) none true [] false [true, true, false, false, 
  false, false, false, false, false, false, false, false, false] [] [x51x, x52x] (.ixs 1 (.t x51x) (.t x52x)) false [] [] []), (.mk (some x54x) none false [] false [true, true, 
  true, false, false, false, false, false, false, false, false, false, false, false] [] [x53x] (.ld 1 false (.t x53x)) false [] [] []), (.mk (some x55x) none false [] true [true, 
  true, true, true, true, true, true, true, true, true, true, true, true, false, false] [] [x46x, x50x, x54x] (.call 126 (.cons (.t x46x) (.cons (.t x50x) (.cons (.t x54x) .nil)))) 
  false [] [] []), (.mk (some x56x) none true [] false [true, true, true, true, true, true, true, true, true, true, true, true, true, true, true, true] [] [x40x, x41x] (.ixs 1 (.t 
  x40x) (.t x41x)) false [] [] []), (.mk none none false [x56x] false [true, true, true, true, true, true, true, true, true, true, true, true, true, true, true, true, true] [] 
  [x56x, x55x] (.st 1 (.t x56x) (.t x55x)) false [] [] [])])) (.reg (.cons (some x38x) none (.mv (.t x9x)) (.cons (some x39x) none (.bin .sub (.t x38x) (.c (.n 1))) (.cons (some 
  x9x) none (.mv (.t x39x)) .nil))))))))) (.seq (.reg (.cons (some x57x) none (.mv (.t x7x)) (.cons (some x6x) none (.mv (.t x57x)) .nil))) .ret)))))) [(.tmp x6x)])
theorem cc120 : compF Tryz.prog drops true false Tryz.f120 = some i120 := by kernel_rfl
noncomputable def i121 : FnI := (.mk true true (.seq (.reg (.cons (some x2x) none (.mv (.c (.n 0))) .nil)) (.seq (.reg (.cons (some x3x) none (.mv (.t x0x)) (.cons (some x4x) none (.mv (.t x0x)) (.cons (some x5x) 
  none (.bin .sub (.t x4x) (.c (.n 1))) (.cons (some x6x) none (.bin .mul (.t x3x) (.t x5x)) (.cons (some x7x) none (.bin .quo (.t x6x) (.c (.n 2))) (.cons (some x2x) none (.mv (.t 
  x7x)) .nil))))))) .ret)) [(.tmp x2x)])
theorem cc121 : compF Tryz.prog drops true true Tryz.f121 = some i121 := by kernel_rfl
noncomputable def i122 : FnI := (.mk true false (.seq (.reg (.cons (some x4x) none (.mv (.c .ns)) .nil)) (.seq (.reg (.cons (some x5x) none (.mv (.c .ns)) .nil)) (.seq (.seq (.reg (.cons (some x7x) none (.mv (.t 
  x1x)) (.cons (some x8x) none (.mv (.c (.n 0))) .nil))) (.block 0 (.loop (.seq (.reg (.cons (some x9x) none (.bin .lss (.t x8x) (.t x7x)) .nil)) (.seq (.cond (.t x9x) .skip (.exit 
  0)) (.seq (.block 1 (.seq (.reg (.cons (some x10x) none (.mv (.t x8x)) (.cons (some x6x) none (.mv (.t x10x)) .nil))) (.seq (.reg (.cons (some x11x) none (.mv (.t x0x)) (.cons 
  (some x12x) none (.mv (.t x6x)) (.cons (some x13x) none (.bin .shr (.t x11x) (.t x12x)) (.cons (some x14x) none (.bin .and (.t x13x) (.c (.n 1))) (.cons (some x15x) none (.bin 
  .eql (.t x14x) (.c (.n 1))) .nil)))))) (.cond (.t x15x) (.reg (.cons (some x16x) none (.mv (.t x5x)) (.cons (some x17x) none (.mv (.t x6x)) (.cons (some x18x) none (.bsl 3 1 1 
  (.cons (.n 0) .nil) (.cons 0 1 (.t x17x) .nil)) (.cons (some x19x) none (.app 3 1 8 (.t x16x) (.t x18x)) (.cons (some x5x) none (.mv (.t x19x)) .nil)))))) .skip)))) (.reg (.cons 
  (some x20x) none (.bin .add (.t x8x) (.c (.n 1))) (.cons (some x8x) none (.mv (.t x20x)) .nil))))))))) (.seq (.reg (.cons (some x21x) none (.mv (.t x5x)) (.cons (some x4x) none 
  (.mv (.t x21x)) .nil))) .ret)))) [(.tmp x4x)])
theorem cc122 : compF Tryz.prog drops true false Tryz.f122 = some i122 := by kernel_rfl
noncomputable def i123 : FnI := (.mk true true (.seq (.reg (.cons (some x4x) none (.mv (.c (.b false))) .nil)) (.seq (.reg (.cons (some x5x) none (.mv (.c (.n 0))) .nil)) (.seq (.seq (.reg (.cons (some x8x) none 
  (.mv (.t x1x)) (.cons (some x9x) none (.len (.t x8x)) (.cons (some x10x) none (.mv (.c (.n 0))) .nil)))) (.block 0 (.loop (.seq (.reg (.cons (some x11x) none (.bin .lss (.t x10x) 
  (.t x9x)) .nil)) (.seq (.cond (.t x11x) .skip (.exit 0)) (.seq (.block 1 (.seq (.reg (.cons (some x12x) none (.ixs 1 (.t x8x) (.t x10x)) (.cons (some x13x) none (.ld 1 false (.t 
  x12x)) (.cons (some x7x) none (.mv (.t x13x)) .nil)))) (.reg (.cons (some x14x) none (.mv (.t x5x)) (.cons (some x15x) none (.mv (.t x0x)) (.cons (some x16x) none (.mv (.t x7x)) 
  (.cons (some x17x) none (.ixs 1 (.t x15x) (.t x16x)) (.cons (some x18x) none (.ld 1 false (.t x17x)) (.cons (some x19x) none (.bin .add (.t x14x) (.t x18x)) (.cons (some x5x) 
  none (.mv (.t x19x)) .nil)))))))))) (.reg (.cons (some x20x) none (.bin .add (.t x10x) (.c (.n 1))) (.cons (some x10x) none (.mv (.t x20x)) .nil))))))))) (.seq (.reg (.cons (some 
  x21x) none (.mv (.t x5x)) (.cons (some x22x) none (.mv (.t x1x)) (.cons (some x23x) none (.len (.t x22x)) (.cons (some x24x) none (.call 121 (.cons (.t x23x) .nil)) (.cons (some 
  x25x) none (.bin .lss (.t x21x) (.t x24x)) (.cons (some x4x) none (.mv (.t x25x)) .nil))))))) .ret)))) [(.tmp x4x)])
theorem cc123 : compF Tryz.prog drops true true Tryz.f123 = some i123 := by kernel_rfl
noncomputable def i124 : FnI := (.mk true true (.seq (.reg (.cons (some x4x) none (.mv (.c (.b false))) .nil)) (.seq (.seq (.reg (.cons (some x5x) none (.mv (.t x0x)) (.cons (some x6x) none (.len (.t x5x)) (.cons 
  (some x7x) none (.mv (.t x1x)) (.cons (some x8x) none (.len (.t x7x)) (.cons (some x9x) none (.bin .neq (.t x6x) (.t x8x)) .nil)))))) (.cond (.t x9x) (.seq (.reg (.cons (some 
  x10x) none (.mv (.t x0x)) (.cons (some x11x) none (.len (.t x10x)) (.cons (some x12x) none (.mv (.t x1x)) (.cons (some x13x) none (.len (.t x12x)) (.cons (some x14x) none (.bin 
  .lss (.t x11x) (.t x13x)) (.cons (some x4x) none (.mv (.t x14x)) .nil))))))) .ret) .skip)) (.seq (.reg (.cons (some x15x) none (.mv (.t x0x)) (.cons (some x16x) none (.mv (.t 
  x1x)) (.cons (some x17x) none (.call 127 (.cons (.t x15x) (.cons (.t x16x) .nil))) (.cons (some x18x) none (.bin .lss (.t x17x) (.c (.n 0))) (.cons (some x4x) none (.mv (.t 
  x18x)) .nil)))))) .ret))) [(.tmp x4x)])
theorem cc124 : compF Tryz.prog drops true true Tryz.f124 = some i124 := by kernel_rfl
noncomputable def i125 : FnI := (.mk true true (.seq (.reg (.cons (some x2x) none (.mv (.c (.n 0))) .nil)) (.seq (.seq (.reg (.cons (some x5x) none (.mv (.t x0x)) (.cons (some x6x) none (.len (.t x5x)) (.cons 
  (some x7x) none (.bin .eql (.t x6x) (.c (.n 0))) .nil)))) (.cond (.t x7x) (.seq (.reg (.cons (some x2x) none (.mv (.c (.n 4))) .nil)) .ret) .skip)) (.seq (.seq (.reg (.cons (some 
  x8x) none (.mv (.t x0x)) (.cons (some x9x) none (.len (.t x8x)) (.cons (some x10x) none (.bin .gtr (.t x9x) (.c (.n 5))) .nil)))) (.cond (.t x10x) (.seq (.reg (.cons (some x2x) 
  none (.mv (.c (.n 3))) .nil)) .ret) .skip)) (.seq (.seq (.reg (.cons (some x11x) none (.mv (.t x0x)) (.cons (some x12x) none (.len (.t x11x)) (.cons (some x13x) none (.mv (.c (.n 
  0))) .nil)))) (.block 0 (.loop (.seq (.reg (.cons (some x14x) none (.bin .lss (.t x13x) (.t x12x)) .nil)) (.seq (.cond (.t x14x) .skip (.exit 0)) (.seq (.block 1 (.seq (.reg 
  (.cons (some x15x) none (.mv (.t x13x)) (.cons (some x16x) none (.ixs 1 (.t x11x) (.t x13x)) (.cons (some x17x) none (.ld 1 false (.t x16x)) (.cons (some x3x) none (.mv (.t 
  x15x)) (.cons (some x4x) none (.mv (.t x17x)) .nil)))))) (.seq (.seq (.reg (.cons (some x18x) none (.mv (.t x4x)) (.cons (some x19x) none (.bin .lss (.t x18x) (.c (.n 1))) (.cons 
  (some x20x) none (.mv (.t x19x)) (.cons (some x21x) (some (.mk x20x false)) (.mv (.t x4x)) (.cons (some x22x) (some (.mk x20x false)) (.bin .gtr (.t x21x) (.c (.n 30))) (.cons 
  (some x23x) none (.pick (.t x20x) (.c (.b true)) (.t x22x)) .nil))))))) (.cond (.t x23x) (.seq (.reg (.cons (some x2x) none (.mv (.c (.n 1))) .nil)) .ret) .skip)) (.seq (.reg 
  (.cons (some x24x) none (.mv (.t x3x)) (.cons (some x25x) none (.bin .gtr (.t x24x) (.c (.n 0))) (.cons (some x26x) none (.mv (.t x25x)) (.cons (some x27x) (some (.mk x26x true)) 
  (.mv (.t x4x)) (.cons (some x28x) (some (.mk x26x true)) (.mv (.t x0x)) (.cons (some x29x) (some (.mk x26x true)) (.mv (.t x3x)) (.cons (some x30x) (some (.mk x26x true)) (.bin 
  .sub (.t x29x) (.c (.n 1))) (.cons (some x31x) (some (.mk x26x true)) (.ixs 1 (.t x28x) (.t x30x)) (.cons (some x32x) (some (.mk x26x true)) (.ld 1 false (.t x31x)) (.cons (some 
  x33x) (some (.mk x26x true)) (.bin .leq (.t x27x) (.t x32x)) (.cons (some x34x) none (.pick (.t x26x) (.t x33x) (.c (.b false))) .nil)))))))))))) (.cond (.t x34x) (.seq (.reg 
  (.cons (some x2x) none (.mv (.c (.n 7))) .nil)) .ret) .skip))))) (.reg (.cons (some x35x) none (.bin .add (.t x13x) (.c (.n 1))) (.cons (some x13x) none (.mv (.t x35x)) 
  .nil))))))))) (.seq (.reg (.cons (some x2x) none (.mv (.c (.n 0))) .nil)) .ret))))) [(.tmp x2x)])
theorem cc125 : compF Tryz.prog drops true true Tryz.f125 = some i125 := by kernel_rfl
noncomputable def i126 : FnI := (.mk true false (.seq (.reg (.cons (some x6x) none (.mv (.c .ns)) .nil)) (.seq (.reg (.cons (some x10x) none (.mv (.t x0x)) (.cons (some x11x) none (.len (.t x10x)) (.cons (some 
  x12x) none (.mks 3 1 8 1 (.cons (.n 0) .nil) (.t x11x) (.t x11x)) (.cons (some x7x) none (.mv (.t x12x)) .nil))))) (.seq (.seq (.reg (.cons (some x13x) none (.mv (.t x7x)) (.cons 
  (some x14x) none (.len (.t x13x)) (.cons (some x15x) none (.mv (.c (.n 0))) .nil)))) (.block 0 (.loop (.seq (.reg (.cons (some x16x) none (.bin .lss (.t x15x) (.t x14x)) .nil)) 
  (.seq (.cond (.t x16x) .skip (.exit 0)) (.seq (.block 1 (.seq (.reg (.cons (some x17x) none (.mv (.t x15x)) (.cons (some x8x) none (.mv (.t x17x)) .nil))) (.seq (.reg (.cons 
  (some x18x) none (.mv (.t x7x)) (.cons (some x19x) none (.mv (.t x8x)) (.cons (some x20x) none (.ixs 1 (.t x18x) (.t x19x)) (.cons none none (.st 1 (.t x20x) (.c (.n 1001))) 
  .nil))))) (.seq (.reg (.cons (some x9x) none (.mv (.c (.n 0))) .nil)) (.block 2 (.loop (.seq (.seq (.reg (.cons (some x21x) none (.mv (.t x9x)) (.cons (some x22x) none (.mv (.t 
  x2x)) (.cons (some x23x) none (.bin .leq (.t x21x) (.t x22x)) (.cons (some x24x) none (.mv (.t x23x)) (.cons (some x25x) (some (.mk x24x true)) (.mv (.t x9x)) (.cons (some x26x) 
  (some (.mk x24x true)) (.mv (.t x1x)) (.cons (some x27x) (some (.mk x24x true)) (.bin .mul (.t x25x) (.t x26x)) (.cons (some x28x) (some (.mk x24x true)) (.mv (.t x8x)) (.cons 
  (some x29x) (some (.mk x24x true)) (.bin .leq (.t x27x) (.t x28x)) (.cons (some x30x) none (.pick (.t x24x) (.t x29x) (.c (.b false))) .nil))))))))))) (.cond (.t x30x) .skip 
  (.exit 2))) (.seq (.block 3 (.draw [(.mk (some x33x) none true [] false [] [] [x7x] (.mv (.t x7x)) false [] [] []), (.mk (some x34x) none true [] false [false] [] [x8x] (.mv (.t 
  x8x)) false [] [] []), (.mk (some x35x) none true [] false [false, false] [] [x7x] (.mv (.t x7x)) false [] [] []), (.mk (some x36x) none true [] false [false, false, false] [] 
  [x8x] (.mv (.t x8x)) false [] [] []), (.mk (some x37x) none true [] false [true, true, false, false] [] [x35x, x36x] (.ixs 1 (.t x35x) (.t x36x)) false [] [] []), (.mk (some 
  x38x) none false [] false [true, true, true, false, false] [] [x37x] (.ld 1 false (.t x37x)) false [] [] []), (.mk (some x39x) none true [] false [false, false, false, false, 
  false, false] [] [x9x] (.mv (.t x9x)) false [] [] []), (.mk (some x40x) none true [] false [false, false, false, false, false, false, false] [] [x0x] (.mv (.t x0x)) false [] [] 
  []), (.mk (some x41x) none true [] false [false, false, false, false, false, false, false, false] [] [x8x] (.mv (.t x8x)) false [] [] []), (.mk (some x42x) none true [] false 
  [false, false, false, false, false, false, false, false, false] [] [x9x] (.mv (.t x9x)) false [] [] []), (.mk (some x43x) none true [] false [false, false, false, false, false, 
  false, false, false, false, false] [] [x1x] (.mv (.t x1x)) false [] [] []), (.mk (some x44x) none true [] false [true, true, false, false, false, false, false, false, false, 
  false, false] [] [x42x, x43x] (.bin .mul (.t x42x) (.t x43x)) false [] [] []), (.mk (some x45x) none true [] false [true, true, true, true, false, false, false, false, false, 
  false, false, false] [] [x41x, x44x] (.bin .sub (.t x41x) (.t x44x)) false [] [] []), (.mk (some x46x) none true [] false [true, true, true, true, true, true, false, false, 
  false, false, false, false, false] [] [x40x, x45x] (.ixs 1 (.t x40x) (.t x45x)) false [] [] []), (.mk (some x47x) none false [] false [true, true, true, true, true, true, true, 
  false, false, false, false, false, false, false] [] [x46x] (.ld 1 false (.t x46x)) false [] [] []), (.mk (some x48x) none true [] false [true, true, true, true, true, true, true, 
  true, true, false, false, false, false, false, false] [] [x39x, x47x] (.bin .add (.t x39x) (.t x47x)) false [] [] []), (.mk (some x49x) none true [] false [true, true, true, 
  true, true, true, true, true, true, true, true, true, true, true, false, false] [] [x38x, x48x] (.mm false (.t x38x) (.cons (.t x48x) .nil)) false [] [] []), (.mk (some x50x) 
  none true [] false [true, true, true, true, true, true, true, true, true, true, true, true, true, true, true, true, true] [] [x33x, x34x] (.ixs 1 (.t x33x) (.t x34x)) false [] [] 
  []), (.mk none none false [x50x] false [true, true, true, true, true, true, true, true, true, true, true, true, true, true, true, true, true, true] [] [x50x, x49x] (.st 1 (.t 
  x50x) (.t x49x)) false [] [] [])])) (.reg (.cons (some x31x) none (.mv (.t x9x)) (.cons (some x32x) none (.bin .add (.t x31x) (.c (.n 1))) (.cons (some x9x) none (.mv (.t x32x)) 
  .nil)))))))))))) (.reg (.cons (some x51x) none (.bin .add (.t x15x) (.c (.n 1))) (.cons (some x15x) none (.mv (.t x51x)) .nil))))))))) (.seq (.reg (.cons (some x52x) none (.mv 
  (.t x7x)) (.cons (some x6x) none (.mv (.t x52x)) .nil))) .ret)))) [(.tmp x6x)])
theorem cc126 : compF Tryz.prog drops true false Tryz.f126 = some i126 := by kernel_rfl
noncomputable def i127 : FnI := (.mk true true (.seq (.reg (.cons (some x4x) none (.mv (.c (.n 0))) .nil)) (.seq (.seq (.reg (.cons (some x9x) none (.mv (.t x0x)) (.cons (some x10x) none (.len (.t x9x)) (.cons 
  (some x11x) none (.mv (.c (.n 0))) .nil)))) (.block 0 (.loop (.seq (.reg (.cons (some x12x) none (.bin .lss (.t x11x) (.t x10x)) .nil)) (.seq (.cond (.t x12x) .skip (.exit 0)) 
  (.seq (.block 1 (.seq (.reg (.cons (some x13x) none (.mv (.t x11x)) (.cons (some x14x) none (.ixs 1 (.t x9x) (.t x11x)) (.cons (some x15x) none (.ld 1 false (.t x14x)) (.cons 
  (some x5x) none (.mv (.t x13x)) (.cons (some x6x) none (.mv (.t x15x)) .nil)))))) (.seq (.seq (.reg (.cons (some x16x) none (.mv (.t x5x)) (.cons (some x17x) none (.mv (.t x1x)) 
  (.cons (some x18x) none (.len (.t x17x)) (.cons (some x19x) none (.bin .geq (.t x16x) (.t x18x)) .nil))))) (.cond (.t x19x) (.seq (.reg (.cons (some x4x) none (.mv (.c (.n 1))) 
  .nil)) .ret) .skip)) (.seq (.reg (.cons (some x20x) none (.mv (.t x1x)) (.cons (some x21x) none (.mv (.t x5x)) (.cons (some x22x) none (.ixs 1 (.t x20x) (.t x21x)) (.cons (some 
  x23x) none (.ld 1 false (.t x22x)) (.cons (some x7x) none (.mv (.t x23x)) .nil)))))) (.seq (.reg (.cons (some x24x) none (.mv (.t x6x)) (.cons (some x25x) none (.mv (.t x7x)) 
  (.cons (some x26x) none (.call 128 (.cons (.t x24x) (.cons (.t x25x) .nil))) (.cons (some x8x) none (.mv (.t x26x)) .nil))))) (.seq (.reg (.cons (some x27x) none (.mv (.t x8x)) 
  (.cons (some x28x) none (.bin .neq (.t x27x) (.c (.n 0))) .nil))) (.cond (.t x28x) (.seq (.reg (.cons (some x29x) none (.mv (.t x8x)) (.cons (some x4x) none (.mv (.t x29x)) 
  .nil))) .ret) .skip))))))) (.reg (.cons (some x30x) none (.bin .add (.t x11x) (.c (.n 1))) (.cons (some x11x) none (.mv (.t x30x)) .nil))))))))) (.seq (.seq (.reg (.cons (some 
  x31x) none (.mv (.t x0x)) (.cons (some x32x) none (.len (.t x31x)) (.cons (some x33x) none (.mv (.t x1x)) (.cons (some x34x) none (.len (.t x33x)) (.cons (some x35x) none (.bin 
  .lss (.t x32x) (.t x34x)) .nil)))))) (.cond (.t x35x) (.seq (.reg (.cons (some x4x) none (.mv (.c (.i .i64 (.negSucc 0)))) .nil)) .ret) .skip)) (.seq (.reg (.cons (some x4x) none 
  (.mv (.c (.n 0))) .nil)) .ret)))) [(.tmp x4x)])
theorem cc127 : compF Tryz.prog drops true true Tryz.f127 = some i127 := by kernel_rfl
noncomputable def i128 : FnI := (.mk true true (.seq (.reg (.cons (some x4x) none (.mv (.c (.n 0))) .nil)) (.seq (.reg (.cons (some x7x) none (.mv (.t x0x)) (.cons (some x8x) none (.call 129 (.cons (.t x7x) 
  .nil)) (.cons (some x5x) none (.mv (.t x8x)) .nil)))) (.seq (.reg (.cons (some x9x) none (.mv (.t x1x)) (.cons (some x10x) none (.call 129 (.cons (.t x9x) .nil)) (.cons (some 
  x6x) none (.mv (.t x10x)) .nil)))) (.seq (.seq (.reg (.cons (some x11x) none (.mv (.t x5x)) .nil)) (.cond (.t x11x) (.seq (.seq (.reg (.cons (some x12x) none (.mv (.t x6x)) 
  .nil)) (.cond (.t x12x) (.seq (.reg (.cons (some x4x) none (.mv (.c (.n 0))) .nil)) .ret) .skip)) (.seq (.reg (.cons (some x4x) none (.mv (.c (.i .i64 (.negSucc 0)))) .nil)) 
  .ret)) .skip)) (.seq (.seq (.reg (.cons (some x13x) none (.mv (.t x6x)) .nil)) (.cond (.t x13x) (.seq (.reg (.cons (some x4x) none (.mv (.c (.n 1))) .nil)) .ret) .skip)) (.seq 
  (.seq (.reg (.cons (some x14x) none (.mv (.t x0x)) (.cons (some x15x) none (.mv (.t x1x)) (.cons (some x16x) none (.bin .lss (.t x14x) (.t x15x)) .nil)))) (.cond (.t x16x) (.seq 
  (.reg (.cons (some x4x) none (.mv (.c (.i .i64 (.negSucc 0)))) .nil)) .ret) .skip)) (.seq (.seq (.reg (.cons (some x17x) none (.mv (.t x0x)) (.cons (some x18x) none (.mv (.t 
  x1x)) (.cons (some x19x) none (.bin .gtr (.t x17x) (.t x18x)) .nil)))) (.cond (.t x19x) (.seq (.reg (.cons (some x4x) none (.mv (.c (.n 1))) .nil)) .ret) .skip)) (.seq (.reg 
  (.cons (some x4x) none (.mv (.c (.n 0))) .nil)) .ret)))))))) [(.tmp x4x)])
theorem cc128 : compF Tryz.prog drops true true Tryz.f128 = some i128 := by kernel_rfl
noncomputable def i129 : FnI := (.mk true true (.seq (.reg (.cons (some x2x) none (.mv (.c (.b false))) .nil)) (.seq (.reg (.cons (some x3x) none (.mv (.t x0x)) (.cons (some x4x) none (.mv (.t x0x)) (.cons (some 
  x5x) none (.bin .neq (.t x3x) (.t x4x)) (.cons (some x2x) none (.mv (.t x5x)) .nil))))) .ret)) [(.tmp x2x)])
theorem cc129 : compF Tryz.prog drops true true Tryz.f129 = some i129 := by kernel_rfl
noncomputable def fs129 : List (Nat × FnI) := (129, i129) :: []
theorem l129 : Listed Tryz.prog fs129 := listed_cons Tryz.func129 cc129 listed_nil (by decide)
noncomputable def fs128 : List (Nat × FnI) := (128, i128) :: fs129
theorem l128 : Listed Tryz.prog fs128 := listed_cons Tryz.func128 cc128 l129 (by decide)
noncomputable def fs127 : List (Nat × FnI) := (127, i127) :: fs128
theorem l127 : Listed Tryz.prog fs127 := listed_cons Tryz.func127 cc127 l128 (by decide)
noncomputable def fs126 : List (Nat × FnI) := (126, i126) :: fs127
theorem l126 : Listed Tryz.prog fs126 := listed_cons Tryz.func126 cc126 l127 (by decide)
noncomputable def fs125 : List (Nat × FnI) := (125, i125) :: fs126
theorem l125 : Listed Tryz.prog fs125 := listed_cons Tryz.func125 cc125 l126 (by decide)
noncomputable def fs124 : List (Nat × FnI) := (124, i124) :: fs125
theorem l124 : Listed Tryz.prog fs124 := listed_cons Tryz.func124 cc124 l125 (by decide)
noncomputable def fs123 : List (Nat × FnI) := (123, i123) :: fs124
theorem l123 : Listed Tryz.prog fs123 := listed_cons Tryz.func123 cc123 l124 (by decide)
noncomputable def fs122 : List (Nat × FnI) := (122, i122) :: fs123
theorem l122 : Listed Tryz.prog fs122 := listed_cons Tryz.func122 cc122 l123 (by decide)
noncomputable def fs121 : List (Nat × FnI) := (121, i121) :: fs122
theorem l121 : Listed Tryz.prog fs121 := listed_cons Tryz.func121 cc121 l122 (by decide)
noncomputable def fs120 : List (Nat × FnI) := (120, i120) :: fs121
theorem l120 : Listed Tryz.prog fs120 := listed_cons Tryz.func120 cc120 l121 (by decide)
noncomputable def fs119 : List (Nat × FnI) := (119, i119) :: fs120
theorem l119 : Listed Tryz.prog fs119 := listed_cons Tryz.func119 cc119 l120 (by decide)
noncomputable def fs118 : List (Nat × FnI) := (118, i118) :: fs119
theorem l118 : Listed Tryz.prog fs118 := listed_cons Tryz.func118 cc118 l119 (by decide)
noncomputable def fs117 : List (Nat × FnI) := (117, i117) :: fs118
theorem l117 : Listed Tryz.prog fs117 := listed_cons Tryz.func117 cc117 l118 (by decide)
noncomputable def fs116 : List (Nat × FnI) := (116, i116) :: fs117
theorem l116 : Listed Tryz.prog fs116 := listed_cons Tryz.func116 cc116 l117 (by decide)
noncomputable def fs115 : List (Nat × FnI) := (115, i115) :: fs116
theorem l115 : Listed Tryz.prog fs115 := listed_cons Tryz.func115 cc115 l116 (by decide)
noncomputable def fs114 : List (Nat × FnI) := (114, i114) :: fs115
theorem l114 : Listed Tryz.prog fs114 := listed_cons Tryz.func114 cc114 l115 (by decide)
noncomputable def fs113 : List (Nat × FnI) := (113, i113) :: fs114
theorem l113 : Listed Tryz.prog fs113 := listed_cons Tryz.func113 cc113 l114 (by decide)
noncomputable def fs112 : List (Nat × FnI) := (112, i112) :: fs113
theorem l112 : Listed Tryz.prog fs112 := listed_cons Tryz.func112 cc112 l113 (by decide)
noncomputable def fs111 : List (Nat × FnI) := (111, i111) :: fs112
theorem l111 : Listed Tryz.prog fs111 := listed_cons Tryz.func111 cc111 l112 (by decide)
noncomputable def fs110 : List (Nat × FnI) := (110, i110) :: fs111
theorem l110 : Listed Tryz.prog fs110 := listed_cons Tryz.func110 cc110 l111 (by decide)
noncomputable def fs109 : List (Nat × FnI) := (109, i109) :: fs110
theorem l109 : Listed Tryz.prog fs109 := listed_cons Tryz.func109 cc109 l110 (by decide)
noncomputable def fs108 : List (Nat × FnI) := (108, i108) :: fs109
theorem l108 : Listed Tryz.prog fs108 := listed_cons Tryz.func108 cc108 l109 (by decide)
noncomputable def fs107 : List (Nat × FnI) := (107, i107) :: fs108
theorem l107 : Listed Tryz.prog fs107 := listed_cons Tryz.func107 cc107 l108 (by decide)
noncomputable def fs106 : List (Nat × FnI) := (106, i106) :: fs107
theorem l106 : Listed Tryz.prog fs106 := listed_cons Tryz.func106 cc106 l107 (by decide)
noncomputable def fs105 : List (Nat × FnI) := (105, i105) :: fs106
theorem l105 : Listed Tryz.prog fs105 := listed_cons Tryz.func105 cc105 l106 (by decide)
noncomputable def fs104 : List (Nat × FnI) := (104, i104) :: fs105
theorem l104 : Listed Tryz.prog fs104 := listed_cons Tryz.func104 cc104 l105 (by decide)
noncomputable def fs103 : List (Nat × FnI) := (103, i103) :: fs104
theorem l103 : Listed Tryz.prog fs103 := listed_cons Tryz.func103 cc103 l104 (by decide)
noncomputable def fs102 : List (Nat × FnI) := (102, i102) :: fs103
theorem l102 : Listed Tryz.prog fs102 := listed_cons Tryz.func102 cc102 l103 (by decide)
noncomputable def fs101 : List (Nat × FnI) := (101, i101) :: fs102
theorem l101 : Listed Tryz.prog fs101 := listed_cons Tryz.func101 cc101 l102 (by decide)
noncomputable def fs100 : List (Nat × FnI) := (100, i100) :: fs101
theorem l100 : Listed Tryz.prog fs100 := listed_cons Tryz.func100 cc100 l101 (by decide)
noncomputable def fs99 : List (Nat × FnI) := (99, i99) :: fs100
theorem l99 : Listed Tryz.prog fs99 := listed_cons Tryz.func99 cc99 l100 (by decide)
noncomputable def fs98 : List (Nat × FnI) := (98, i98) :: fs99
theorem l98 : Listed Tryz.prog fs98 := listed_cons Tryz.func98 cc98 l99 (by decide)
noncomputable def fs97 : List (Nat × FnI) := (97, i97) :: fs98
theorem l97 : Listed Tryz.prog fs97 := listed_cons Tryz.func97 cc97 l98 (by decide)
noncomputable def fs96 : List (Nat × FnI) := (96, i96) :: fs97
theorem l96 : Listed Tryz.prog fs96 := listed_cons Tryz.func96 cc96 l97 (by decide)
noncomputable def fs95 : List (Nat × FnI) := (95, i95) :: fs96
theorem l95 : Listed Tryz.prog fs95 := listed_cons Tryz.func95 cc95 l96 (by decide)
noncomputable def fs94 : List (Nat × FnI) := (94, i94) :: fs95
theorem l94 : Listed Tryz.prog fs94 := listed_cons Tryz.func94 cc94 l95 (by decide)
noncomputable def fs93 : List (Nat × FnI) := (93, i93) :: fs94
theorem l93 : Listed Tryz.prog fs93 := listed_cons Tryz.func93 cc93 l94 (by decide)
noncomputable def fs92 : List (Nat × FnI) := (92, i92) :: fs93
theorem l92 : Listed Tryz.prog fs92 := listed_cons Tryz.func92 cc92 l93 (by decide)
noncomputable def fs91 : List (Nat × FnI) := (91, i91) :: fs92
theorem l91 : Listed Tryz.prog fs91 := listed_cons Tryz.func91 cc91 l92 (by decide)
noncomputable def fs90 : List (Nat × FnI) := (90, i90) :: fs91
theorem l90 : Listed Tryz.prog fs90 := listed_cons Tryz.func90 cc90 l91 (by decide)
noncomputable def fs89 : List (Nat × FnI) := (89, i89) :: fs90
theorem l89 : Listed Tryz.prog fs89 := listed_cons Tryz.func89 cc89 l90 (by decide)
noncomputable def fs88 : List (Nat × FnI) := (88, i88) :: fs89
theorem l88 : Listed Tryz.prog fs88 := listed_cons Tryz.func88 cc88 l89 (by decide)
noncomputable def fs87 : List (Nat × FnI) := (87, i87) :: fs88
theorem l87 : Listed Tryz.prog fs87 := listed_cons Tryz.func87 cc87 l88 (by decide)
noncomputable def fs86 : List (Nat × FnI) := (86, i86) :: fs87
theorem l86 : Listed Tryz.prog fs86 := listed_cons Tryz.func86 cc86 l87 (by decide)
noncomputable def fs85 : List (Nat × FnI) := (85, i85) :: fs86
theorem l85 : Listed Tryz.prog fs85 := listed_cons Tryz.func85 cc85 l86 (by decide)
noncomputable def fs84 : List (Nat × FnI) := (84, i84) :: fs85
theorem l84 : Listed Tryz.prog fs84 := listed_cons Tryz.func84 cc84 l85 (by decide)
noncomputable def fs83 : List (Nat × FnI) := (83, i83) :: fs84
theorem l83 : Listed Tryz.prog fs83 := listed_cons Tryz.func83 cc83 l84 (by decide)
noncomputable def fs82 : List (Nat × FnI) := (82, i82) :: fs83
theorem l82 : Listed Tryz.prog fs82 := listed_cons Tryz.func82 cc82 l83 (by decide)
noncomputable def fs81 : List (Nat × FnI) := (81, i81) :: fs82
theorem l81 : Listed Tryz.prog fs81 := listed_cons Tryz.func81 cc81 l82 (by decide)
noncomputable def fs80 : List (Nat × FnI) := (80, i80) :: fs81
theorem l80 : Listed Tryz.prog fs80 := listed_cons Tryz.func80 cc80 l81 (by decide)
noncomputable def fs79 : List (Nat × FnI) := (79, i79) :: fs80
theorem l79 : Listed Tryz.prog fs79 := listed_cons Tryz.func79 cc79 l80 (by decide)
noncomputable def fs78 : List (Nat × FnI) := (78, i78) :: fs79
theorem l78 : Listed Tryz.prog fs78 := listed_cons Tryz.func78 cc78 l79 (by decide)
noncomputable def fs77 : List (Nat × FnI) := (77, i77) :: fs78
theorem l77 : Listed Tryz.prog fs77 := listed_cons Tryz.func77 cc77 l78 (by decide)
noncomputable def fs76 : List (Nat × FnI) := (76, i76) :: fs77
theorem l76 : Listed Tryz.prog fs76 := listed_cons Tryz.func76 cc76 l77 (by decide)
noncomputable def fs75 : List (Nat × FnI) := (75, i75) :: fs76
theorem l75 : Listed Tryz.prog fs75 := listed_cons Tryz.func75 cc75 l76 (by decide)
noncomputable def fs74 : List (Nat × FnI) := (74, i74) :: fs75
theorem l74 : Listed Tryz.prog fs74 := listed_cons Tryz.func74 cc74 l75 (by decide)
noncomputable def fs73 : List (Nat × FnI) := (73, i73) :: fs74
theorem l73 : Listed Tryz.prog fs73 := listed_cons Tryz.func73 cc73 l74 (by decide)
noncomputable def fs72 : List (Nat × FnI) := (72, i72) :: fs73
theorem l72 : Listed Tryz.prog fs72 := listed_cons Tryz.func72 cc72 l73 (by decide)
noncomputable def fs71 : List (Nat × FnI) := (71, i71) :: fs72
theorem l71 : Listed Tryz.prog fs71 := listed_cons Tryz.func71 cc71 l72 (by decide)
noncomputable def fs70 : List (Nat × FnI) := (70, i70) :: fs71
theorem l70 : Listed Tryz.prog fs70 := listed_cons Tryz.func70 cc70 l71 (by decide)
noncomputable def fs69 : List (Nat × FnI) := (69, i69) :: fs70
theorem l69 : Listed Tryz.prog fs69 := listed_cons Tryz.func69 cc69 l70 (by decide)
noncomputable def fs68 : List (Nat × FnI) := (68, i68) :: fs69
theorem l68 : Listed Tryz.prog fs68 := listed_cons Tryz.func68 cc68 l69 (by decide)
noncomputable def fs67 : List (Nat × FnI) := (67, i67) :: fs68
theorem l67 : Listed Tryz.prog fs67 := listed_cons Tryz.func67 cc67 l68 (by decide)
noncomputable def fs66 : List (Nat × FnI) := (66, i66) :: fs67
theorem l66 : Listed Tryz.prog fs66 := listed_cons Tryz.func66 cc66 l67 (by decide)
noncomputable def fs65 : List (Nat × FnI) := (65, i65) :: fs66
theorem l65 : Listed Tryz.prog fs65 := listed_cons Tryz.func65 cc65 l66 (by decide)
noncomputable def fs64 : List (Nat × FnI) := (64, i64) :: fs65
theorem l64 : Listed Tryz.prog fs64 := listed_cons Tryz.func64 cc64 l65 (by decide)
noncomputable def fs63 : List (Nat × FnI) := (63, i63) :: fs64
theorem l63 : Listed Tryz.prog fs63 := listed_cons Tryz.func63 cc63 l64 (by decide)
noncomputable def fs62 : List (Nat × FnI) := (62, i62) :: fs63
theorem l62 : Listed Tryz.prog fs62 := listed_cons Tryz.func62 cc62 l63 (by decide)
noncomputable def fs61 : List (Nat × FnI) := (61, i61) :: fs62
theorem l61 : Listed Tryz.prog fs61 := listed_cons Tryz.func61 cc61 l62 (by decide)
noncomputable def fs60 : List (Nat × FnI) := (60, i60) :: fs61
theorem l60 : Listed Tryz.prog fs60 := listed_cons Tryz.func60 cc60 l61 (by decide)
noncomputable def fs59 : List (Nat × FnI) := (59, i59) :: fs60
theorem l59 : Listed Tryz.prog fs59 := listed_cons Tryz.func59 cc59 l60 (by decide)
noncomputable def fs58 : List (Nat × FnI) := (58, i58) :: fs59
theorem l58 : Listed Tryz.prog fs58 := listed_cons Tryz.func58 cc58 l59 (by decide)
noncomputable def fs57 : List (Nat × FnI) := (57, i57) :: fs58
theorem l57 : Listed Tryz.prog fs57 := listed_cons Tryz.func57 cc57 l58 (by decide)
noncomputable def fs56 : List (Nat × FnI) := (56, i56) :: fs57
theorem l56 : Listed Tryz.prog fs56 := listed_cons Tryz.func56 cc56 l57 (by decide)
noncomputable def fs55 : List (Nat × FnI) := (55, i55) :: fs56
theorem l55 : Listed Tryz.prog fs55 := listed_cons Tryz.func55 cc55 l56 (by decide)
noncomputable def fs54 : List (Nat × FnI) := (54, i54) :: fs55
theorem l54 : Listed Tryz.prog fs54 := listed_cons Tryz.func54 cc54 l55 (by decide)
noncomputable def fs53 : List (Nat × FnI) := (53, i53) :: fs54
theorem l53 : Listed Tryz.prog fs53 := listed_cons Tryz.func53 cc53 l54 (by decide)
noncomputable def fs52 : List (Nat × FnI) := (52, i52) :: fs53
theorem l52 : Listed Tryz.prog fs52 := listed_cons Tryz.func52 cc52 l53 (by decide)
noncomputable def fs51 : List (Nat × FnI) := (51, i51) :: fs52
theorem l51 : Listed Tryz.prog fs51 := listed_cons Tryz.func51 cc51 l52 (by decide)
noncomputable def fs50 : List (Nat × FnI) := (50, i50) :: fs51
theorem l50 : Listed Tryz.prog fs50 := listed_cons Tryz.func50 cc50 l51 (by decide)
noncomputable def fs49 : List (Nat × FnI) := (49, i49) :: fs50
theorem l49 : Listed Tryz.prog fs49 := listed_cons Tryz.func49 cc49 l50 (by decide)
noncomputable def fs48 : List (Nat × FnI) := (48, i48) :: fs49
theorem l48 : Listed Tryz.prog fs48 := listed_cons Tryz.func48 cc48 l49 (by decide)
noncomputable def fs47 : List (Nat × FnI) := (47, i47) :: fs48
theorem l47 : Listed Tryz.prog fs47 := listed_cons Tryz.func47 cc47 l48 (by decide)
noncomputable def fs46 : List (Nat × FnI) := (46, i46) :: fs47
theorem l46 : Listed Tryz.prog fs46 := listed_cons Tryz.func46 cc46 l47 (by decide)
noncomputable def fs45 : List (Nat × FnI) := (45, i45) :: fs46
theorem l45 : Listed Tryz.prog fs45 := listed_cons Tryz.func45 cc45 l46 (by decide)
noncomputable def fs44 : List (Nat × FnI) := (44, i44) :: fs45
theorem l44 : Listed Tryz.prog fs44 := listed_cons Tryz.func44 cc44 l45 (by decide)
noncomputable def fs43 : List (Nat × FnI) := (43, i43) :: fs44
theorem l43 : Listed Tryz.prog fs43 := listed_cons Tryz.func43 cc43 l44 (by decide)
noncomputable def fs42 : List (Nat × FnI) := (42, i42) :: fs43
theorem l42 : Listed Tryz.prog fs42 := listed_cons Tryz.func42 cc42 l43 (by decide)
noncomputable def fs41 : List (Nat × FnI) := (41, i41) :: fs42
theorem l41 : Listed Tryz.prog fs41 := listed_cons Tryz.func41 cc41 l42 (by decide)
noncomputable def fs40 : List (Nat × FnI) := (40, i40) :: fs41
theorem l40 : Listed Tryz.prog fs40 := listed_cons Tryz.func40 cc40 l41 (by decide)
noncomputable def fs39 : List (Nat × FnI) := (39, i39) :: fs40
theorem l39 : Listed Tryz.prog fs39 := listed_cons Tryz.func39 cc39 l40 (by decide)
noncomputable def fs38 : List (Nat × FnI) := (38, i38) :: fs39
theorem l38 : Listed Tryz.prog fs38 := listed_cons Tryz.func38 cc38 l39 (by decide)
noncomputable def fs37 : List (Nat × FnI) := (37, i37) :: fs38
theorem l37 : Listed Tryz.prog fs37 := listed_cons Tryz.func37 cc37 l38 (by decide)
noncomputable def fs36 : List (Nat × FnI) := (36, i36) :: fs37
theorem l36 : Listed Tryz.prog fs36 := listed_cons Tryz.func36 cc36 l37 (by decide)
noncomputable def fs35 : List (Nat × FnI) := (35, i35) :: fs36
theorem l35 : Listed Tryz.prog fs35 := listed_cons Tryz.func35 cc35 l36 (by decide)
noncomputable def fs34 : List (Nat × FnI) := (34, i34) :: fs35
theorem l34 : Listed Tryz.prog fs34 := listed_cons Tryz.func34 cc34 l35 (by decide)
noncomputable def fs33 : List (Nat × FnI) := (33, i33) :: fs34
theorem l33 : Listed Tryz.prog fs33 := listed_cons Tryz.func33 cc33 l34 (by decide)
noncomputable def fs32 : List (Nat × FnI) := (32, i32) :: fs33
theorem l32 : Listed Tryz.prog fs32 := listed_cons Tryz.func32 cc32 l33 (by decide)
noncomputable def fs31 : List (Nat × FnI) := (31, i31) :: fs32
theorem l31 : Listed Tryz.prog fs31 := listed_cons Tryz.func31 cc31 l32 (by decide)
noncomputable def fs30 : List (Nat × FnI) := (30, i30) :: fs31
theorem l30 : Listed Tryz.prog fs30 := listed_cons Tryz.func30 cc30 l31 (by decide)
noncomputable def fs29 : List (Nat × FnI) := (29, i29) :: fs30
theorem l29 : Listed Tryz.prog fs29 := listed_cons Tryz.func29 cc29 l30 (by decide)
noncomputable def fs28 : List (Nat × FnI) := (28, i28) :: fs29
theorem l28 : Listed Tryz.prog fs28 := listed_cons Tryz.func28 cc28 l29 (by decide)
noncomputable def fs27 : List (Nat × FnI) := (27, i27) :: fs28
theorem l27 : Listed Tryz.prog fs27 := listed_cons Tryz.func27 cc27 l28 (by decide)
noncomputable def fs26 : List (Nat × FnI) := (26, i26) :: fs27
theorem l26 : Listed Tryz.prog fs26 := listed_cons Tryz.func26 cc26 l27 (by decide)
noncomputable def fs25 : List (Nat × FnI) := (25, i25) :: fs26
theorem l25 : Listed Tryz.prog fs25 := listed_cons Tryz.func25 cc25 l26 (by decide)
noncomputable def fs24 : List (Nat × FnI) := (24, i24) :: fs25
theorem l24 : Listed Tryz.prog fs24 := listed_cons Tryz.func24 cc24 l25 (by decide)
noncomputable def fs23 : List (Nat × FnI) := (23, i23) :: fs24
theorem l23 : Listed Tryz.prog fs23 := listed_cons Tryz.func23 cc23 l24 (by decide)
noncomputable def fs22 : List (Nat × FnI) := (22, i22) :: fs23
theorem l22 : Listed Tryz.prog fs22 := listed_cons Tryz.func22 cc22 l23 (by decide)
noncomputable def fs21 : List (Nat × FnI) := (21, i21) :: fs22
theorem l21 : Listed Tryz.prog fs21 := listed_cons Tryz.func21 cc21 l22 (by decide)
noncomputable def fs20 : List (Nat × FnI) := (20, i20) :: fs21
theorem l20 : Listed Tryz.prog fs20 := listed_cons Tryz.func20 cc20 l21 (by decide)
noncomputable def fs19 : List (Nat × FnI) := (19, i19) :: fs20
theorem l19 : Listed Tryz.prog fs19 := listed_cons Tryz.func19 cc19 l20 (by decide)
noncomputable def fs18 : List (Nat × FnI) := (18, i18) :: fs19
theorem l18 : Listed Tryz.prog fs18 := listed_cons Tryz.func18 cc18 l19 (by decide)
noncomputable def fs17 : List (Nat × FnI) := (17, i17) :: fs18
theorem l17 : Listed Tryz.prog fs17 := listed_cons Tryz.func17 cc17 l18 (by decide)
noncomputable def fs16 : List (Nat × FnI) := (16, i16) :: fs17
theorem l16 : Listed Tryz.prog fs16 := listed_cons Tryz.func16 cc16 l17 (by decide)
noncomputable def fs15 : List (Nat × FnI) := (15, i15) :: fs16
theorem l15 : Listed Tryz.prog fs15 := listed_cons Tryz.func15 cc15 l16 (by decide)
noncomputable def fs14 : List (Nat × FnI) := (14, i14) :: fs15
theorem l14 : Listed Tryz.prog fs14 := listed_cons Tryz.func14 cc14 l15 (by decide)
noncomputable def fs13 : List (Nat × FnI) := (13, i13) :: fs14
theorem l13 : Listed Tryz.prog fs13 := listed_cons Tryz.func13 cc13 l14 (by decide)
noncomputable def fs12 : List (Nat × FnI) := (12, i12) :: fs13
theorem l12 : Listed Tryz.prog fs12 := listed_cons Tryz.func12 cc12 l13 (by decide)
noncomputable def fs11 : List (Nat × FnI) := (11, i11) :: fs12
theorem l11 : Listed Tryz.prog fs11 := listed_cons Tryz.func11 cc11 l12 (by decide)
noncomputable def fs10 : List (Nat × FnI) := (10, i10) :: fs11
theorem l10 : Listed Tryz.prog fs10 := listed_cons Tryz.func10 cc10 l11 (by decide)
noncomputable def fs9 : List (Nat × FnI) := (9, i9) :: fs10
theorem l9 : Listed Tryz.prog fs9 := listed_cons Tryz.func9 cc9 l10 (by decide)
noncomputable def fs8 : List (Nat × FnI) := (8, i8) :: fs9
theorem l8 : Listed Tryz.prog fs8 := listed_cons Tryz.func8 cc8 l9 (by decide)
noncomputable def fs7 : List (Nat × FnI) := (7, i7) :: fs8
theorem l7 : Listed Tryz.prog fs7 := listed_cons Tryz.func7 cc7 l8 (by decide)
noncomputable def fs6 : List (Nat × FnI) := (6, i6) :: fs7
theorem l6 : Listed Tryz.prog fs6 := listed_cons Tryz.func6 cc6 l7 (by decide)
noncomputable def fs5 : List (Nat × FnI) := (5, i5) :: fs6
theorem l5 : Listed Tryz.prog fs5 := listed_cons Tryz.func5 cc5 l6 (by decide)
noncomputable def fs4 : List (Nat × FnI) := (4, i4) :: fs5
theorem l4 : Listed Tryz.prog fs4 := listed_cons Tryz.func4 cc4 l5 (by decide)
noncomputable def FS : List (Nat × FnI) := fs4
theorem listed : Listed Tryz.prog FS := l4
noncomputable def cmp : Nat → Code → Option IC := fun N c => compC Tryz.prog drops N c
noncomputable def PRT : FT := FT.of FS
noncomputable def EQ (W : FF → FF) (d : Nat) : FF := evQ cmp PRT W d
noncomputable def EF (d : Nat) : FF := EQ (fun G => G) d
theorem follows : Tryz.prog.follows .mixedOrders = true := by kernel_rfl
theorem EQ_ok {W : FF → FF} (hM : ∀ G, FF.mono G → (W G).mono) (hW : ∀ G, FOK Tryz.prog G → FOK Tryz.prog (W G)) (d : Nat) : FOK Tryz.prog (EQ W d) := evQ_sound follows listed hM hW d
theorem EQ_mono {W : FF → FF} (hM : ∀ G, FF.mono G → (W G).mono) (d : Nat) : (EQ W d).mono := evQ_mono _ _ hM d
theorem EF_ok (d : Nat) : FOK Tryz.prog (EF d) := EQ_ok (fun _ h => h) (fun _ h => h) d
theorem EF_mono (d : Nat) : (EF d).mono := EQ_mono (fun _ h => h) d
def zs64 : List Int := [0, 1, 56, 2, 57, 49, 28, 3, 61, 58, 42, 50, 38, 29, 17, 4, 62, 47, 59, 36, 45, 43, 51, 22, 53, 39, 33, 30, 24, 18, 12, 5, 63, 55, 48, 27, 60, 41, 37, 16, 46, 35, 44, 21, 52, 32, 23, 11, 54, 26, 40, 15, 34, 20, 31, 10, 25, 14, 19, 9, 13, 8, 7, 6]
noncomputable def tbH (el : TypeId) : Hp := tabH [(1, el, kL .u8 zs64)]
end Go.Proofs.YtblgmohafnpecaaGreatDoor.Ev
