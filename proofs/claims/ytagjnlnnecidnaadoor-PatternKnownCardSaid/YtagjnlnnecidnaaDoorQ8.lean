/- The texts TpL. -/
import Derived.Test.YtagjnlnnecidnaaDoorQ6
import Derived.Test.YtagjnlnnecidnaaDoorQ7
import Derived.Test.YtagjnlnnecidnaaDoorProg
import Derived.KernelRfl
/- The compiled code of the functions of layer 13, in full. -/
namespace Go.Proofs.YtagjnlnnecidnaaDoor.Ev
set_option linter.unusedVariables false
set_option maxRecDepth 100000
open Go Go.Proofs Go.RowKit
def drops : List Nat := [3, 4, 6, 10, 15, 16, 17, 18, 19, 20, 21, 23, 24, 26, 28, 29, 30, 31, 33, 37, 38, 39, 40, 41, 42, 45, 46, 49, 51, 52, 55, 59, 60, 62, 63, 64, 65, 67, 68, 69, 70, 71, 75, 79, 88, 89, 1000050, 1000057, 1000073, 1000074, 1000077, 1000078, 1000080, 2000000, 3000000, 3000001]
def x0x : Pos := .h
def x1x : Pos := (.o .h)
def x2x : Pos := (.i .h)
def x3x : Pos := (.o (.o .h))
def x4x : Pos := (.i (.o .h))
def x5x : Pos := (.o (.i .h))
def x6x : Pos := (.i (.i .h))
def x7x : Pos := (.o (.o (.o .h)))
def x8x : Pos := (.i (.o (.o .h)))
def x9x : Pos := (.o (.i (.o .h)))
def x10x : Pos := (.i (.i (.o .h)))
def x11x : Pos := (.o (.o (.i .h)))
def x12x : Pos := (.i (.o (.i .h)))
def x13x : Pos := (.o (.i (.i .h)))
def x14x : Pos := (.i (.i (.i .h)))
def x15x : Pos := (.o (.o (.o (.o .h))))
def x16x : Pos := (.i (.o (.o (.o .h))))
def x17x : Pos := (.o (.i (.o (.o .h))))
def x18x : Pos := (.i (.i (.o (.o .h))))
def x19x : Pos := (.o (.o (.i (.o .h))))
def x20x : Pos := (.i (.o (.i (.o .h))))
def x21x : Pos := (.o (.i (.i (.o .h))))
def x22x : Pos := (.i (.i (.i (.o .h))))
def x23x : Pos := (.o (.o (.o (.i .h))))
def x24x : Pos := (.i (.o (.o (.i .h))))
def x25x : Pos := (.o (.i (.o (.i .h))))
def x26x : Pos := (.i (.i (.o (.i .h))))
def x27x : Pos := (.o (.o (.i (.i .h))))
def x28x : Pos := (.i (.o (.i (.i .h))))
def x29x : Pos := (.o (.i (.i (.i .h))))
def x30x : Pos := (.i (.i (.i (.i .h))))
def x31x : Pos := (.o (.o (.o (.o (.o .h)))))
def x32x : Pos := (.i (.o (.o (.o (.o .h)))))
def x33x : Pos := (.o (.i (.o (.o (.o .h)))))
def x34x : Pos := (.i (.i (.o (.o (.o .h)))))
def x35x : Pos := (.o (.o (.i (.o (.o .h)))))
def x36x : Pos := (.i (.o (.i (.o (.o .h)))))
def x37x : Pos := (.o (.i (.i (.o (.o .h)))))
def x38x : Pos := (.i (.i (.i (.o (.o .h)))))
def x39x : Pos := (.o (.o (.o (.i (.o .h)))))
def x40x : Pos := (.i (.o (.o (.i (.o .h)))))
def x41x : Pos := (.o (.i (.o (.i (.o .h)))))
def x42x : Pos := (.i (.i (.o (.i (.o .h)))))
def x43x : Pos := (.o (.o (.i (.i (.o .h)))))
def x44x : Pos := (.i (.o (.i (.i (.o .h)))))
def x45x : Pos := (.o (.i (.i (.i (.o .h)))))
def x46x : Pos := (.i (.i (.i (.i (.o .h)))))
def x47x : Pos := (.o (.o (.o (.o (.i .h)))))
def x48x : Pos := (.i (.o (.o (.o (.i .h)))))
def x49x : Pos := (.o (.i (.o (.o (.i .h)))))
def x50x : Pos := (.i (.i (.o (.o (.i .h)))))
def x51x : Pos := (.o (.o (.i (.o (.i .h)))))
def x52x : Pos := (.i (.o (.i (.o (.i .h)))))
def x53x : Pos := (.o (.i (.i (.o (.i .h)))))
def x54x : Pos := (.i (.i (.i (.o (.i .h)))))
def x55x : Pos := (.o (.o (.o (.i (.i .h)))))
def x56x : Pos := (.i (.o (.o (.i (.i .h)))))
def x57x : Pos := (.o (.i (.o (.i (.i .h)))))
def x58x : Pos := (.i (.i (.o (.i (.i .h)))))
def x59x : Pos := (.o (.o (.i (.i (.i .h)))))
def x60x : Pos := (.i (.o (.i (.i (.i .h)))))
def x61x : Pos := (.o (.i (.i (.i (.i .h)))))
def x62x : Pos := (.i (.i (.i (.i (.i .h)))))
def x63x : Pos := (.o (.o (.o (.o (.o (.o .h))))))
def x64x : Pos := (.i (.o (.o (.o (.o (.o .h))))))
def x65x : Pos := (.o (.i (.o (.o (.o (.o .h))))))
def x66x : Pos := (.i (.i (.o (.o (.o (.o .h))))))
def x67x : Pos := (.o (.o (.i (.o (.o (.o .h))))))
def x68x : Pos := (.i (.o (.i (.o (.o (.o .h))))))
def x69x : Pos := (.o (.i (.i (.o (.o (.o .h))))))
def x70x : Pos := (.i (.i (.i (.o (.o (.o .h))))))
def x71x : Pos := (.o (.o (.o (.i (.o (.o .h))))))
def x72x : Pos := (.i (.o (.o (.i (.o (.o .h))))))
def x73x : Pos := (.o (.i (.o (.i (.o (.o .h))))))
def x74x : Pos := (.i (.i (.o (.i (.o (.o .h))))))
def x75x : Pos := (.o (.o (.i (.i (.o (.o .h))))))
def x76x : Pos := (.i (.o (.i (.i (.o (.o .h))))))
def x77x : Pos := (.o (.i (.i (.i (.o (.o .h))))))
def x78x : Pos := (.i (.i (.i (.i (.o (.o .h))))))
def x79x : Pos := (.o (.o (.o (.o (.i (.o .h))))))
def x80x : Pos := (.i (.o (.o (.o (.i (.o .h))))))
def x81x : Pos := (.o (.i (.o (.o (.i (.o .h))))))
def x82x : Pos := (.i (.i (.o (.o (.i (.o .h))))))
def x83x : Pos := (.o (.o (.i (.o (.i (.o .h))))))
def x84x : Pos := (.i (.o (.i (.o (.i (.o .h))))))
def x85x : Pos := (.o (.i (.i (.o (.i (.o .h))))))
def x86x : Pos := (.i (.i (.i (.o (.i (.o .h))))))
def x87x : Pos := (.o (.o (.o (.i (.i (.o .h))))))
def x88x : Pos := (.i (.o (.o (.i (.i (.o .h))))))
def x89x : Pos := (.o (.i (.o (.i (.i (.o .h))))))
def x90x : Pos := (.i (.i (.o (.i (.i (.o .h))))))
def x91x : Pos := (.o (.o (.i (.i (.i (.o .h))))))
def x92x : Pos := (.i (.o (.i (.i (.i (.o .h))))))
def x93x : Pos := (.o (.i (.i (.i (.i (.o .h))))))
def x94x : Pos := (.i (.i (.i (.i (.i (.o .h))))))
def x95x : Pos := (.o (.o (.o (.o (.o (.i .h))))))
def x96x : Pos := (.i (.o (.o (.o (.o (.i .h))))))
def x97x : Pos := (.o (.i (.o (.o (.o (.i .h))))))
def x98x : Pos := (.i (.i (.o (.o (.o (.i .h))))))
def x99x : Pos := (.o (.o (.i (.o (.o (.i .h))))))
def x100x : Pos := (.i (.o (.i (.o (.o (.i .h))))))
def x101x : Pos := (.o (.i (.i (.o (.o (.i .h))))))
def x102x : Pos := (.i (.i (.i (.o (.o (.i .h))))))
def x103x : Pos := (.o (.o (.o (.i (.o (.i .h))))))
def x104x : Pos := (.i (.o (.o (.i (.o (.i .h))))))
def x105x : Pos := (.o (.i (.o (.i (.o (.i .h))))))
def x106x : Pos := (.i (.i (.o (.i (.o (.i .h))))))
def x107x : Pos := (.o (.o (.i (.i (.o (.i .h))))))
def x108x : Pos := (.i (.o (.i (.i (.o (.i .h))))))
def x109x : Pos := (.o (.i (.i (.i (.o (.i .h))))))
def x110x : Pos := (.i (.i (.i (.i (.o (.i .h))))))
def x111x : Pos := (.o (.o (.o (.o (.i (.i .h))))))
def x112x : Pos := (.i (.o (.o (.o (.i (.i .h))))))
def x113x : Pos := (.o (.i (.o (.o (.i (.i .h))))))
def x114x : Pos := (.i (.i (.o (.o (.i (.i .h))))))
def x115x : Pos := (.o (.o (.i (.o (.i (.i .h))))))
def x116x : Pos := (.i (.o (.i (.o (.i (.i .h))))))
def x117x : Pos := (.o (.i (.i (.o (.i (.i .h))))))
def x118x : Pos := (.i (.i (.i (.o (.i (.i .h))))))
def x119x : Pos := (.o (.o (.o (.i (.i (.i .h))))))
def x120x : Pos := (.i (.o (.o (.i (.i (.i .h))))))
def x121x : Pos := (.o (.i (.o (.i (.i (.i .h))))))
def x122x : Pos := (.i (.i (.o (.i (.i (.i .h))))))
def x123x : Pos := (.o (.o (.i (.i (.i (.i .h))))))
def x124x : Pos := (.i (.o (.i (.i (.i (.i .h))))))
def x125x : Pos := (.o (.i (.i (.i (.i (.i .h))))))
def x126x : Pos := (.i (.i (.i (.i (.i (.i .h))))))
def x127x : Pos := (.o (.o (.o (.o (.o (.o (.o .h)))))))
def x128x : Pos := (.i (.o (.o (.o (.o (.o (.o .h)))))))
def x129x : Pos := (.o (.i (.o (.o (.o (.o (.o .h)))))))
def x130x : Pos := (.i (.i (.o (.o (.o (.o (.o .h)))))))
def x131x : Pos := (.o (.o (.i (.o (.o (.o (.o .h)))))))
def x132x : Pos := (.i (.o (.i (.o (.o (.o (.o .h)))))))
def x133x : Pos := (.o (.i (.i (.o (.o (.o (.o .h)))))))
def x134x : Pos := (.i (.i (.i (.o (.o (.o (.o .h)))))))
def x135x : Pos := (.o (.o (.o (.i (.o (.o (.o .h)))))))
def x136x : Pos := (.i (.o (.o (.i (.o (.o (.o .h)))))))
def x137x : Pos := (.o (.i (.o (.i (.o (.o (.o .h)))))))
def x138x : Pos := (.i (.i (.o (.i (.o (.o (.o .h)))))))
def x139x : Pos := (.o (.o (.i (.i (.o (.o (.o .h)))))))
def x140x : Pos := (.i (.o (.i (.i (.o (.o (.o .h)))))))
def x141x : Pos := (.o (.i (.i (.i (.o (.o (.o .h)))))))
def x142x : Pos := (.i (.i (.i (.i (.o (.o (.o .h)))))))
def x143x : Pos := (.o (.o (.o (.o (.i (.o (.o .h)))))))
def x144x : Pos := (.i (.o (.o (.o (.i (.o (.o .h)))))))
def x145x : Pos := (.o (.i (.o (.o (.i (.o (.o .h)))))))
def x146x : Pos := (.i (.i (.o (.o (.i (.o (.o .h)))))))
def x147x : Pos := (.o (.o (.i (.o (.i (.o (.o .h)))))))
noncomputable def i3 : FnI := (compF Tryd.prog drops true true Tryd.f3).getD (.mk false false .skip [])
theorem cc3 : compF Tryd.prog drops true true Tryd.f3 = some i3 := by kernel_rfl
noncomputable def i4 : FnI := (.mk true true (.seq (.reg (.cons (some x2x) none (.mv (.c (.n 0))) (.cons (some x3x) none (.mv (.c (.n 0))) (.cons (some x4x) none (.mv (.c (.n 0))) .nil)))) (.seq (.seq (.reg 
  (.cons (some x5x) none (.mv (.t x0x)) (.cons (some x6x) none (.call 17 (.cons (.t x5x) .nil)) (.cons (some x4x) none (.mv (.t x6x)) .nil)))) (.seq (.reg (.cons (some x7x) none 
  (.mv (.t x4x)) (.cons (some x8x) none (.bin .neq (.t x7x) (.c (.n 0))) .nil))) (.cond (.t x8x) (.seq (.reg (.cons (some x9x) none (.mv (.t x4x)) (.cons (some x2x) none (.mv (.c 
  (.n 0))) (.cons (some x3x) none (.mv (.c (.n 0))) (.cons (some x4x) none (.mv (.t x9x)) .nil))))) .ret) .skip))) (.seq (.reg (.cons (some x11x) none (.mv (.t x0x)) (.cons (some 
  x12x) none (.call 19 (.cons (.t x11x) .nil)) (.cons (some x10x) none (.mv (.t x12x)) (.cons (some x13x) none (.ext 0 (.t x10x)) (.cons (some x14x) none (.ext 1 (.t x10x)) (.cons 
  (some x2x) none (.mv (.t x13x)) (.cons (some x3x) none (.mv (.t x14x)) .nil)))))))) (.seq (.reg (.cons (some x15x) none (.mv (.t x2x)) (.cons (some x16x) none (.mv (.t x3x)) 
  (.cons (some x2x) none (.mv (.t x15x)) (.cons (some x3x) none (.mv (.t x16x)) (.cons (some x4x) none (.mv (.c (.n 0))) .nil)))))) .ret)))) [(.tmp x2x), (.tmp x3x), (.tmp x4x)])
theorem cc4 : compF Tryd.prog drops true true Tryd.f4 = some i4 := by kernel_rfl
noncomputable def i5 : FnI := (.mk true false (.seq (.reg (.cons (some x0x) none (.mv (.c .ns)) .nil)) (.seq (.reg (.cons (some x1x) none (.bsl 3 1 8 (.cons (.n 0) (.cons (.n 0) (.cons (.n 0) (.cons (.n 0) 
  (.cons (.n 0) (.cons (.n 0) (.cons (.n 0) (.cons (.n 0) .nil)))))))) (.cons 0 1 (.c (.n 0)) (.cons 1 1 (.c (.n 0)) (.cons 2 1 (.c (.n 2)) (.cons 3 1 (.c (.n 0)) (.cons 4 1 (.c 
  (.n 2)) (.cons 5 1 (.c (.n 2)) (.cons 6 1 (.c (.n 0)) (.cons 7 1 (.c (.n 2)) .nil))))))))) (.cons (some x2x) none (.call 14 (.cons (.t x1x) .nil)) (.cons (some x0x) none (.mv (.t 
  x2x)) .nil)))) .ret)) [(.tmp x0x)])
theorem cc5 : compF Tryd.prog drops true false Tryd.f5 = some i5 := by kernel_rfl
noncomputable def i6 : FnI := (.mk true true (.seq (.reg (.cons (some x3x) none (.box 30 (.t x1x)) (.cons (some x4x) none (.mv (.c (.n 0))) (.cons (some x5x) none (.mv (.c (.n 0))) .nil)))) (.seq (.seq (.reg 
  (.cons (some x7x) none (.mv (.t x0x)) (.cons (some x8x) none (.call 17 (.cons (.t x7x) .nil)) (.cons (some x6x) none (.mv (.t x8x)) .nil)))) (.seq (.reg (.cons (some x9x) none 
  (.mv (.t x6x)) (.cons (some x10x) none (.bin .neq (.t x9x) (.c (.n 0))) .nil))) (.cond (.t x10x) (.seq (.reg (.cons (some x11x) none (.mv (.t x6x)) (.cons (some x4x) none (.mv 
  (.c (.n 0))) (.cons (some x5x) none (.mv (.t x11x)) .nil)))) .ret) .skip))) (.seq (.seq (.reg (.cons (some x12x) none (.ld 2 true (.t x3x)) (.cons (some x13x) none (.call 20 
  (.cons (.t x12x) .nil)) (.cons (some x14x) none (.not (.t x13x)) .nil)))) (.cond (.t x14x) (.seq (.reg (.cons (some x4x) none (.mv (.c (.n 0))) (.cons (some x5x) none (.mv (.c 
  (.n 1))) .nil))) .ret) .skip)) (.seq (.reg (.cons (some x15x) none (.mv (.t x0x)) (.cons (some x16x) none (.ld 2 true (.t x3x)) (.cons (some x17x) none (.call 21 (.cons (.t x15x) 
  (.cons (.t x16x) .nil))) (.cons (some x4x) none (.mv (.t x17x)) (.cons (some x5x) none (.mv (.c (.n 0))) .nil)))))) .ret)))) [(.tmp x4x), (.tmp x5x)])
theorem cc6 : compF Tryd.prog drops true true Tryd.f6 = some i6 := by kernel_rfl
noncomputable def i7 : FnI := (.mk true false (.seq (.reg (.cons (some x0x) none (.mv (.c .ns)) .nil)) (.seq (.reg (.cons (some x1x) none (.bsl 3 1 12 (.cons (.n 0) (.cons (.n 0) (.cons (.n 0) (.cons (.n 0) 
  (.cons (.n 0) (.cons (.n 0) (.cons (.n 0) (.cons (.n 0) (.cons (.n 0) (.cons (.n 0) (.cons (.n 0) (.cons (.n 0) .nil)))))))))))) (.cons 0 1 (.c (.n 0)) (.cons 1 1 (.c (.n 0)) 
  (.cons 2 1 (.c (.n 4)) (.cons 3 1 (.c (.n 0)) (.cons 4 1 (.c (.n 4)) (.cons 5 1 (.c (.n 2)) (.cons 6 1 (.c (.n 2)) (.cons 7 1 (.c (.n 2)) (.cons 8 1 (.c (.n 2)) (.cons 9 1 (.c 
  (.n 4)) (.cons 10 1 (.c (.n 0)) (.cons 11 1 (.c (.n 4)) .nil))))))))))))) (.cons (some x2x) none (.call 14 (.cons (.t x1x) .nil)) (.cons (some x0x) none (.mv (.t x2x)) .nil)))) 
  .ret)) [(.tmp x0x)])
theorem cc7 : compF Tryd.prog drops true false Tryd.f7 = some i7 := by kernel_rfl
noncomputable def i8 : FnI := (.mk true false (.seq (.reg (.cons (some x2x) none (.mv (.c .ns)) (.cons (some x3x) none (.mv (.c (.n 0))) .nil))) (.seq (.seq (.reg (.cons (some x5x) none (.mv (.t x0x)) (.cons 
  (some x6x) none (.call 17 (.cons (.t x5x) .nil)) (.cons (some x4x) none (.mv (.t x6x)) .nil)))) (.seq (.reg (.cons (some x7x) none (.mv (.t x4x)) (.cons (some x8x) none (.bin 
  .neq (.t x7x) (.c (.n 0))) .nil))) (.cond (.t x8x) (.seq (.reg (.cons (some x9x) none (.mv (.t x4x)) (.cons (some x2x) none (.mv (.c .ns)) (.cons (some x3x) none (.mv (.t x9x)) 
  .nil)))) .ret) .skip))) (.seq (.reg (.cons (some x10x) none (.mv (.t x0x)) (.cons (some x11x) none (.call 22 (.cons (.t x10x) .nil)) (.cons (some x2x) none (.mv (.t x11x)) (.cons 
  (some x3x) none (.mv (.c (.n 0))) .nil))))) .ret))) [(.tmp x2x), (.tmp x3x)])
theorem cc8 : compF Tryd.prog drops true false Tryd.f8 = some i8 := by kernel_rfl
noncomputable def i9 : FnI := (.mk true false (.seq (.reg (.cons (some x6x) none (.mv (.c .ns)) (.cons (some x7x) none (.mv (.c .ns)) (.cons (some x8x) none (.mv (.c (.n 0))) .nil)))) (.seq (.seq (.reg (.cons 
  (some x10x) none (.mv (.t x0x)) (.cons (some x11x) none (.call 17 (.cons (.t x10x) .nil)) (.cons (some x8x) none (.mv (.t x11x)) .nil)))) (.seq (.reg (.cons (some x12x) none (.mv 
  (.t x8x)) (.cons (some x13x) none (.bin .neq (.t x12x) (.c (.n 0))) .nil))) (.cond (.t x13x) (.seq (.reg (.cons (some x14x) none (.mv (.t x8x)) (.cons (some x6x) none (.mv (.c 
  .ns)) (.cons (some x7x) none (.mv (.c .ns)) (.cons (some x8x) none (.mv (.t x14x)) .nil))))) .ret) .skip))) (.seq (.reg (.cons (some x15x) none (.mv (.t x0x)) (.cons (some x9x) 
  none (.mv (.t x15x)) .nil))) (.seq (.seq (.reg (.cons (some x16x) none (.mv (.t x9x)) (.cons (some x17x) none (.mv (.t x1x)) (.cons (some x18x) none (.call 23 (.cons (.t x16x) 
  (.cons (.t x17x) .nil))) (.cons (some x19x) none (.not (.t x18x)) (.cons (some x20x) none (.mv (.t x19x)) (.cons (some x21x) (some (.mk x20x false)) (.mv (.t x9x)) (.cons (some 
  x22x) (some (.mk x20x false)) (.mv (.t x2x)) (.cons (some x23x) (some (.mk x20x false)) (.call 23 (.cons (.t x21x) (.cons (.t x22x) .nil))) (.cons (some x24x) (some (.mk x20x 
  false)) (.not (.t x23x)) (.cons (some x25x) none (.pick (.t x20x) (.c (.b true)) (.t x24x)) .nil))))))))))) (.cond (.t x25x) (.seq (.reg (.cons (some x6x) none (.mv (.c .ns)) 
  (.cons (some x7x) none (.mv (.c .ns)) (.cons (some x8x) none (.mv (.c (.n 2))) .nil)))) .ret) .skip)) (.seq (.seq (.reg (.cons (some x26x) none (.mv (.t x9x)) (.cons (some x27x) 
  none (.mv (.t x1x)) (.cons (some x28x) none (.mv (.t x2x)) (.cons (some x29x) none (.call 24 (.cons (.t x26x) (.cons (.t x27x) (.cons (.t x28x) .nil)))) (.cons (some x30x) none 
  (.not (.t x29x)) .nil)))))) (.cond (.t x30x) (.seq (.reg (.cons (some x6x) none (.mv (.c .ns)) (.cons (some x7x) none (.mv (.c .ns)) (.cons (some x8x) none (.mv (.c (.n 13))) 
  .nil)))) .ret) .skip)) (.seq (.reg (.cons (some x31x) none (.mv (.t x9x)) (.cons (some x32x) none (.mv (.t x1x)) (.cons (some x33x) none (.mv (.t x2x)) (.cons (some x34x) none 
  (.call 25 (.cons (.t x31x) (.cons (.t x32x) (.cons (.t x33x) .nil)))) (.cons (some x35x) none (.mv (.t x9x)) (.cons (some x36x) none (.mv (.t x2x)) (.cons (some x37x) none (.mv 
  (.t x1x)) (.cons (some x38x) none (.call 25 (.cons (.t x35x) (.cons (.t x36x) (.cons (.t x37x) .nil)))) (.cons (some x6x) none (.mv (.t x34x)) (.cons (some x7x) none (.mv (.t 
  x38x)) (.cons (some x8x) none (.mv (.c (.n 0))) .nil)))))))))))) .ret)))))) [(.tmp x6x), (.tmp x7x), (.tmp x8x)])
theorem cc9 : compF Tryd.prog drops true false Tryd.f9 = some i9 := by kernel_rfl
noncomputable def i10 : FnI := (.mk true true (.seq (.reg (.cons (some x2x) none (.mv (.c (.n 0))) (.cons (some x3x) none (.mv (.c (.n 0))) .nil))) (.seq (.seq (.reg (.cons (some x5x) none (.mv (.t x0x)) (.cons 
  (some x6x) none (.call 17 (.cons (.t x5x) .nil)) (.cons (some x4x) none (.mv (.t x6x)) .nil)))) (.seq (.reg (.cons (some x7x) none (.mv (.t x4x)) (.cons (some x8x) none (.bin 
  .neq (.t x7x) (.c (.n 0))) .nil))) (.cond (.t x8x) (.seq (.reg (.cons (some x9x) none (.mv (.t x4x)) (.cons (some x2x) none (.mv (.c (.n 0))) (.cons (some x3x) none (.mv (.t 
  x9x)) .nil)))) .ret) .skip))) (.seq (.reg (.cons (some x10x) none (.mv (.t x0x)) (.cons (some x11x) none (.call 26 (.cons (.t x10x) .nil)) (.cons (some x2x) none (.mv (.t x11x)) 
  (.cons (some x3x) none (.mv (.c (.n 0))) .nil))))) .ret))) [(.tmp x2x), (.tmp x3x)])
theorem cc10 : compF Tryd.prog drops true true Tryd.f10 = some i10 := by kernel_rfl
noncomputable def i11 : FnI := (.mk true false (.seq (.reg (.cons (some x2x) none (.mv (.c .ns)) (.cons (some x3x) none (.mv (.c (.n 0))) .nil))) (.seq (.seq (.reg (.cons (some x5x) none (.mv (.t x0x)) (.cons 
  (some x6x) none (.call 17 (.cons (.t x5x) .nil)) (.cons (some x4x) none (.mv (.t x6x)) .nil)))) (.seq (.reg (.cons (some x7x) none (.mv (.t x4x)) (.cons (some x8x) none (.bin 
  .neq (.t x7x) (.c (.n 0))) .nil))) (.cond (.t x8x) (.seq (.reg (.cons (some x9x) none (.mv (.t x4x)) (.cons (some x2x) none (.mv (.c .ns)) (.cons (some x3x) none (.mv (.t x9x)) 
  .nil)))) .ret) .skip))) (.seq (.reg (.cons (some x10x) none (.mv (.t x0x)) (.cons (some x11x) none (.call 27 (.cons (.t x10x) .nil)) (.cons (some x2x) none (.mv (.t x11x)) (.cons 
  (some x3x) none (.mv (.c (.n 0))) .nil))))) .ret))) [(.tmp x2x), (.tmp x3x)])
theorem cc11 : compF Tryd.prog drops true false Tryd.f11 = some i11 := by kernel_rfl
noncomputable def i12 : FnI := (.mk true false (.seq (.reg (.cons (some x6x) none (.mv (.c .ns)) (.cons (some x7x) none (.mv (.c (.n 0))) .nil))) (.seq (.seq (.reg (.cons (some x12x) none (.mv (.t x0x)) (.cons 
  (some x13x) none (.call 17 (.cons (.t x12x) .nil)) (.cons (some x8x) none (.mv (.t x13x)) .nil)))) (.seq (.reg (.cons (some x14x) none (.mv (.t x8x)) (.cons (some x15x) none 
  (.bin .neq (.t x14x) (.c (.n 0))) .nil))) (.cond (.t x15x) (.seq (.reg (.cons (some x16x) none (.mv (.t x8x)) (.cons (some x6x) none (.mv (.c .ns)) (.cons (some x7x) none (.mv 
  (.t x16x)) .nil)))) .ret) .skip))) (.seq (.seq (.reg (.cons (some x17x) none (.mv (.t x1x)) (.cons (some x18x) none (.bin .lss (.t x17x) (.c (.i .i64 (.negSucc 2)))) (.cons (some 
  x19x) none (.mv (.t x18x)) (.cons (some x20x) (some (.mk x19x false)) (.mv (.t x1x)) (.cons (some x21x) (some (.mk x19x false)) (.bin .gtr (.t x20x) (.c (.n 3))) (.cons (some 
  x22x) none (.pick (.t x19x) (.c (.b true)) (.t x21x)) .nil))))))) (.cond (.t x22x) (.seq (.reg (.cons (some x6x) none (.mv (.c .ns)) (.cons (some x7x) none (.mv (.c (.n 1))) 
  .nil))) .ret) .skip)) (.seq (.reg (.cons (some x9x) none (.mv (.c .ns)) .nil)) (.seq (.seq (.reg (.cons (some x23x) none (.mv (.t x0x)) (.cons (some x24x) none (.len (.t x23x)) 
  (.cons (some x25x) none (.mv (.c (.n 0))) .nil)))) (.block 0 (.loop (.seq (.reg (.cons (some x26x) none (.bin .lss (.t x25x) (.t x24x)) .nil)) (.seq (.cond (.t x26x) .skip (.exit 
  0)) (.seq (.block 1 (.seq (.reg (.cons (some x27x) none (.ixs 2 (.t x23x) (.t x25x)) (.cons (some x28x) none (.ld 2 true (.t x27x)) (.cons (some x11x) none (.alloc 30 (.cons (.n 
  0) (.cons (.n 0) .nil)) 2) (.cons none none (.st 2 (.t x11x) (.t x28x)) .nil))))) (.reg (.cons (some x29x) none (.mv (.t x9x)) (.cons (some x30x) none (.ld 2 true (.t x11x)) 
  (.cons (some x31x) none (.mv (.t x1x)) (.cons (some x32x) none (.mv (.t x2x)) (.cons (some x33x) none (.call 28 (.cons (.t x30x) (.cons (.t x31x) (.cons (.t x32x) .nil)))) (.cons 
  (some x34x) none (.bsl 30 2 1 (.cons (.n 0) (.cons (.n 0) .nil)) (.cons 0 2 (.t x33x) .nil)) (.cons (some x35x) none (.app 30 2 16 (.t x29x) (.t x34x)) (.cons (some x9x) none 
  (.mv (.t x35x)) .nil))))))))))) (.reg (.cons (some x36x) none (.bin .add (.t x25x) (.c (.n 1))) (.cons (some x25x) none (.mv (.t x36x)) .nil))))))))) (.seq (.seq (.reg (.cons 
  (some x37x) none (.mv (.t x9x)) (.cons (some x38x) none (.call 29 (.cons (.t x37x) (.cons (.c (.fn 30 .nil .nil)) .nil))) .nil))) (.cond (.t x38x) (.seq (.reg (.cons (some x6x) 
  none (.mv (.c .ns)) (.cons (some x7x) none (.mv (.c (.n 13))) .nil))) .ret) .skip)) (.seq (.reg (.cons (some x39x) none (.mv (.t x9x)) (.cons (some x6x) none (.mv (.t x39x)) 
  (.cons (some x7x) none (.mv (.c (.n 0))) .nil)))) .ret))))))) [(.tmp x6x), (.tmp x7x)])
theorem cc12 : compF Tryd.prog drops true false Tryd.f12 = some i12 := by kernel_rfl
noncomputable def i13 : FnI := (.mk true false (.seq (.reg (.cons (some x2x) none (.mv (.c .ns)) (.cons (some x3x) none (.mv (.c (.n 0))) .nil))) (.seq (.seq (.reg (.cons (some x6x) none (.mv (.t x0x)) (.cons 
  (some x7x) none (.call 31 (.cons (.t x6x) .nil)) (.cons (some x4x) none (.mv (.t x7x)) .nil)))) (.seq (.reg (.cons (some x8x) none (.mv (.t x4x)) (.cons (some x9x) none (.bin 
  .neq (.t x8x) (.c (.n 0))) .nil))) (.cond (.t x9x) (.seq (.reg (.cons (some x10x) none (.mv (.t x4x)) (.cons (some x2x) none (.mv (.c .ns)) (.cons (some x3x) none (.mv (.t x10x)) 
  .nil)))) .ret) .skip))) (.seq (.reg (.cons (some x11x) none (.mv (.t x0x)) (.cons (some x12x) none (.call 32 (.cons (.t x11x) .nil)) (.cons (some x5x) none (.mv (.t x12x)) 
  .nil)))) (.seq (.seq (.reg (.cons (some x13x) none (.mv (.t x5x)) (.cons (some x14x) none (.len (.t x13x)) (.cons (some x15x) none (.bin .lss (.t x14x) (.c (.n 3))) .nil)))) 
  (.cond (.t x15x) (.seq (.reg (.cons (some x2x) none (.mv (.c .ns)) (.cons (some x3x) none (.mv (.c (.n 5))) .nil))) .ret) .skip)) (.seq (.reg (.cons (some x16x) none (.mv (.t 
  x5x)) (.cons (some x2x) none (.mv (.t x16x)) (.cons (some x3x) none (.mv (.c (.n 0))) .nil)))) .ret))))) [(.tmp x2x), (.tmp x3x)])
theorem cc13 : compF Tryd.prog drops true false Tryd.f13 = some i13 := by kernel_rfl
noncomputable def i14 : FnI := (.mk true false (.seq (.reg (.cons (some x2x) none (.mv (.c .ns)) .nil)) (.seq (.reg (.cons (some x3x) none (.mv (.c .ns)) .nil)) (.seq (.seq (.reg (.cons (some x4x) none (.mv (.c 
  (.n 0))) .nil)) (.block 0 (.loop (.seq (.seq (.reg (.cons (some x5x) none (.mv (.t x4x)) (.cons (some x6x) none (.bin .add (.t x5x) (.c (.n 1))) (.cons (some x7x) none (.mv (.t 
  x0x)) (.cons (some x8x) none (.len (.t x7x)) (.cons (some x9x) none (.bin .lss (.t x6x) (.t x8x)) .nil)))))) (.cond (.t x9x) .skip (.exit 0))) (.seq (.block 1 (.draw [(.mk (some 
  x12x) none true [] false [] [] [x3x] (.mv (.t x3x)) false [] [] []), (.mk (some x13x) none true [] false [false] [] [x0x] (.mv (.t x0x)) false [] [] []), (.mk (some x14x) none 
  true [] false [false, false] [] [x4x] (.mv (.t x4x)) false [] [] []), (.mk (some x15x) none true [] false [true, true, false] [] [x13x, x14x] (.ixs 1 (.t x13x) (.t x14x)) false 
  [] [] []), (.mk (some x16x) none false [] false [true, true, true, false] [] [x15x] (.ld 1 false (.t x15x)) false [] [] []), (.mk (some x17x) none true [] false [false, false, 
  false, false, false] [] [x0x] (.mv (.t x0x)) false [] [] []), (.mk (some x18x) none true [] false [false, false, false, false, false, false] [] [x4x] (.mv (.t x4x)) false [] [] 
  []), (.mk (some x19x) none true [] false [true, false, false, false, false, false, false] [] [x18x] (.bin .add (.t x18x) (.c (.n 1))) false [] [] []), (.mk (some x20x) none true 
  [] false [true, true, true, false, false, false, false, false] [] [x17x, x19x] (.ixs 1 (.t x17x) (.t x19x)) false [] [] []), (.mk (some x21x) none false [] false [true, true, 
  true, true, false, false, false, false, false] [] [x20x] (.ld 1 false (.t x20x)) false [] [] []), (.mk (some x22x) none true [] false [true, true, true, true, true, true, true, 
  true, true, false] [] [x16x, x21x] (.build (.cons (.n 0) (.cons (.n 0) .nil)) (.cons 0 1 (.t x16x) (.cons 1 1 (.t x21x) .nil))) false [] [] []), (.mk (some x23x) none true [] 
  true [true, true, true, true, true, true, true, true, true, true, false] [] [x22x] (.bsl 30 2 1 (.cons (.n 0) (.cons (.n 0) .nil)) (.cons 0 2 (.t x22x) .nil)) false [] [] []), 
  (.mk (some x24x) none false [x12x, x23x] true [true, true, true, true, true, true, true, true, true, true, true, true] [] [x12x, x23x] (.app 30 2 16 (.t x12x) (.t x23x)) false [] 
  [] []), (.mk (some x3x) none true [] false [true, true, true, true, true, true, true, true, true, true, true, true, true] [] [x24x] (.mv (.t x24x)) false [] [] [])])) (.reg 
  (.cons (some x10x) none (.mv (.t x4x)) (.cons (some x11x) none (.bin .add (.t x10x) (.c (.n 2))) (.cons (some x4x) none (.mv (.t x11x)) .nil))))))))) (.seq (.reg (.cons (some 
  x25x) none (.mv (.t x3x)) (.cons (some x2x) none (.mv (.t x25x)) .nil))) .ret)))) [(.tmp x2x)])
theorem cc14 : compF Tryd.prog drops true false Tryd.f14 = some i14 := by kernel_rfl
noncomputable def i15 : FnI := (.mk true true (.seq (.reg (.cons (some x4x) none (.mv (.c (.b false))) .nil)) (.seq (.seq (.reg (.cons (some x6x) none (.mv (.t x0x)) (.cons (some x7x) none (.len (.t x6x)) (.cons 
  (some x8x) none (.mv (.t x1x)) (.cons (some x9x) none (.len (.t x8x)) (.cons (some x10x) none (.bin .neq (.t x7x) (.t x9x)) .nil)))))) (.cond (.t x10x) (.seq (.reg (.cons (some 
  x4x) none (.mv (.c (.b false))) .nil)) .ret) .skip)) (.seq (.seq (.reg (.cons (some x5x) none (.mv (.c (.n 0))) .nil)) (.block 0 (.loop (.seq (.seq (.reg (.cons (some x11x) none 
  (.mv (.t x5x)) (.cons (some x12x) none (.mv (.t x0x)) (.cons (some x13x) none (.len (.t x12x)) (.cons (some x14x) none (.bin .lss (.t x11x) (.t x13x)) .nil))))) (.cond (.t x14x) 
  .skip (.exit 0))) (.seq (.block 1 (.seq (.draw [(.mk (some x17x) none true [] false [] [] [x0x] (.mv (.t x0x)) false [] [] []), (.mk (some x18x) none true [] false [false] [] 
  [x5x] (.mv (.t x5x)) false [] [] []), (.mk (some x19x) none true [] false [true, true] [] [x17x, x18x] (.ixs 2 (.t x17x) (.t x18x)) false [] [] []), (.mk (some x20x) none false 
  [] false [true, true, true] [] [x19x] (.ld 2 true (.t x19x)) false [] [] []), (.mk (some x21x) none true [] false [false, false, false, false] [] [x1x] (.mv (.t x1x)) false [] [] 
  []), (.mk (some x22x) none true [] false [false, false, false, false, false] [] [x5x] (.mv (.t x5x)) false [] [] []), (.mk (some x23x) none true [] false [true, true, false, 
  false, false, false] [] [x21x, x22x] (.ixs 2 (.t x21x) (.t x22x)) false [] [] []), (.mk (some x24x) none false [] false [true, true, true, false, false, false, false] [] [x23x] 
  (.ld 2 true (.t x23x)) false [] [] []), (.mk (some x25x) none true [] false [true, true, true, true, true, true, true, true] [] [x20x, x24x] (.eqa true (.ar 2 1 false .int) (.t 
  x20x) (.t x24x)) false [] [] [])]) (.cond (.t x25x) (.seq (.reg (.cons (some x4x) none (.mv (.c (.b false))) .nil)) .ret) .skip))) (.reg (.cons (some x15x) none (.mv (.t x5x)) 
  (.cons (some x16x) none (.bin .add (.t x15x) (.c (.n 1))) (.cons (some x5x) none (.mv (.t x16x)) .nil))))))))) (.seq (.reg (.cons (some x4x) none (.mv (.c (.b true))) .nil)) 
  .ret)))) [(.tmp x4x)])
theorem cc15 : compF Tryd.prog drops true true Tryd.f15 = some i15 := by kernel_rfl
noncomputable def i16 : FnI := (.mk true true (.seq (.reg (.cons (some x4x) none (.mv (.c (.b false))) .nil)) (.seq (.seq (.reg (.cons (some x6x) none (.mv (.t x0x)) (.cons (some x7x) none (.len (.t x6x)) (.cons 
  (some x8x) none (.mv (.t x1x)) (.cons (some x9x) none (.len (.t x8x)) (.cons (some x10x) none (.bin .neq (.t x7x) (.t x9x)) .nil)))))) (.cond (.t x10x) (.seq (.reg (.cons (some 
  x4x) none (.mv (.c (.b false))) .nil)) .ret) .skip)) (.seq (.seq (.reg (.cons (some x5x) none (.mv (.c (.n 0))) .nil)) (.block 0 (.loop (.seq (.seq (.reg (.cons (some x11x) none 
  (.mv (.t x5x)) (.cons (some x12x) none (.mv (.t x0x)) (.cons (some x13x) none (.len (.t x12x)) (.cons (some x14x) none (.bin .lss (.t x11x) (.t x13x)) .nil))))) (.cond (.t x14x) 
  .skip (.exit 0))) (.seq (.block 1 (.seq (.draw [(.mk (some x17x) none true [] false [] [] [x0x] (.mv (.t x0x)) false [] [] []), (.mk (some x18x) none true [] false [false] [] 
  [x5x] (.mv (.t x5x)) false [] [] []), (.mk (some x19x) none true [] false [true, true] [] [x17x, x18x] (.ixs 2 (.t x17x) (.t x18x)) false [] [] []), (.mk (some x20x) none false 
  [] false [true, true, true] [] [x19x] (.ld 2 true (.t x19x)) false [] [] []), (.mk (some x21x) none true [] false [false, false, false, false] [] [x1x] (.mv (.t x1x)) false [] [] 
  []), (.mk (some x22x) none true [] false [false, false, false, false, false] [] [x5x] (.mv (.t x5x)) false [] [] []), (.mk (some x23x) none true [] false [true, true, false, 
  false, false, false] [] [x21x, x22x] (.ixs 2 (.t x21x) (.t x22x)) false [] [] []), (.mk (some x24x) none false [] false [true, true, true, false, false, false, false] [] [x23x] 
  (.ld 2 true (.t x23x)) false [] [] []), (.mk (some x25x) none true [] false [true, true, true, true, true, true, true, true] [] [x20x, x24x] (.eqa true (.st (.cons 0 1 false .int 
  (.cons 1 1 false .int .nil))) (.t x20x) (.t x24x)) false [] [] [])]) (.cond (.t x25x) (.seq (.reg (.cons (some x4x) none (.mv (.c (.b false))) .nil)) .ret) .skip))) (.reg (.cons 
  (some x15x) none (.mv (.t x5x)) (.cons (some x16x) none (.bin .add (.t x15x) (.c (.n 1))) (.cons (some x5x) none (.mv (.t x16x)) .nil))))))))) (.seq (.reg (.cons (some x4x) none 
  (.mv (.c (.b true))) .nil)) .ret)))) [(.tmp x4x)])
theorem cc16 : compF Tryd.prog drops true true Tryd.f16 = some i16 := by kernel_rfl
noncomputable def i17 : FnI := (.mk true true (.seq (.reg (.cons (some x2x) none (.mv (.c (.n 0))) .nil)) (.seq (.seq (.reg (.cons (some x4x) none (.mv (.t x0x)) (.cons (some x5x) none (.call 31 (.cons (.t x4x) 
  .nil)) (.cons (some x3x) none (.mv (.t x5x)) .nil)))) (.seq (.reg (.cons (some x6x) none (.mv (.t x3x)) (.cons (some x7x) none (.bin .neq (.t x6x) (.c (.n 0))) .nil))) (.cond (.t 
  x7x) (.seq (.reg (.cons (some x8x) none (.mv (.t x3x)) (.cons (some x2x) none (.mv (.t x8x)) .nil))) .ret) .skip))) (.seq (.seq (.reg (.cons (some x9x) none (.mv (.t x0x)) (.cons 
  (some x10x) none (.call 33 (.cons (.t x9x) .nil)) (.cons (some x11x) none (.not (.t x10x)) .nil)))) (.cond (.t x11x) (.seq (.reg (.cons (some x2x) none (.mv (.c (.n 5))) .nil)) 
  .ret) .skip)) (.seq (.reg (.cons (some x2x) none (.mv (.c (.n 0))) .nil)) .ret)))) [(.tmp x2x)])
theorem cc17 : compF Tryd.prog drops true true Tryd.f17 = some i17 := by kernel_rfl
noncomputable def i18 : FnI := (compF Tryd.prog drops true true Tryd.f18).getD (.mk false false .skip [])
theorem cc18 : compF Tryd.prog drops true true Tryd.f18 = some i18 := by kernel_rfl
noncomputable def i19 : FnI := (.mk true true (.seq (.reg (.cons (some x2x) none (.mv (.c (.n 0))) (.cons (some x3x) none (.mv (.c (.n 0))) .nil))) (.seq (.reg (.cons (some x4x) none (.mv (.c (.n 0))) .nil)) 
  (.seq (.seq (.reg (.cons (some x7x) none (.mv (.t x0x)) (.cons (some x8x) none (.len (.t x7x)) (.cons (some x9x) none (.mv (.c (.n 0))) .nil)))) (.block 0 (.loop (.seq (.reg 
  (.cons (some x10x) none (.bin .lss (.t x9x) (.t x8x)) .nil)) (.seq (.cond (.t x10x) .skip (.exit 0)) (.seq (.block 1 (.seq (.reg (.cons (some x11x) none (.mv (.t x9x)) (.cons 
  (some x5x) none (.mv (.t x11x)) .nil))) (.seq (.reg (.cons (some x12x) none (.mv (.t x0x)) (.cons (some x13x) none (.mv (.t x5x)) (.cons (some x14x) none (.call 39 (.cons (.t 
  x12x) (.cons (.t x13x) .nil))) (.cons (some x6x) none (.alloc 71 (.cons (.n 0) (.cons (.n 0) (.cons (.n 0) (.cons (.n 0) .nil)))) 4) (.cons none none (.st 4 (.t x6x) (.t x14x)) 
  .nil)))))) (.reg (.cons (some x15x) none (.mv (.t x4x)) (.cons (some x16x) none (.fad 0 (.t x6x)) (.cons (some x17x) none (.fad 0 (.t x16x)) (.cons (some x18x) none (.ld 1 false 
  (.t x17x)) (.cons (some x19x) none (.fad 2 (.t x6x)) (.cons (some x20x) none (.fad 1 (.t x19x)) (.cons (some x21x) none (.ld 1 false (.t x20x)) (.cons (some x22x) none (.bin .mul 
  (.t x18x) (.t x21x)) (.cons (some x23x) none (.fad 2 (.t x6x)) (.cons (some x24x) none (.fad 0 (.t x23x)) (.cons (some x25x) none (.ld 1 false (.t x24x)) (.cons (some x26x) none 
  (.fad 0 (.t x6x)) (.cons (some x27x) none (.fad 1 (.t x26x)) (.cons (some x28x) none (.ld 1 false (.t x27x)) (.cons (some x29x) none (.bin .mul (.t x25x) (.t x28x)) (.cons (some 
  x30x) none (.bin .sub (.t x22x) (.t x29x)) (.cons (some x31x) none (.bin .add (.t x15x) (.t x30x)) (.cons (some x4x) none (.mv (.t x31x)) .nil)))))))))))))))))))))) (.reg (.cons 
  (some x32x) none (.bin .add (.t x9x) (.c (.n 1))) (.cons (some x9x) none (.mv (.t x32x)) .nil))))))))) (.seq (.reg (.cons (some x33x) none (.mv (.t x4x)) (.cons (some x34x) none 
  (.call 40 (.cons (.t x33x) (.cons (.c (.n 0)) .nil))) (.cons (some x3x) none (.mv (.t x34x)) .nil)))) (.seq (.reg (.cons (some x35x) none (.mv (.t x4x)) (.cons (some x36x) none 
  (.mv (.t x3x)) (.cons (some x37x) none (.bin .mul (.t x35x) (.t x36x)) (.cons (some x38x) none (.mv (.t x3x)) (.cons (some x2x) none (.mv (.t x37x)) (.cons (some x3x) none (.mv 
  (.t x38x)) .nil))))))) .ret))))) [(.tmp x2x), (.tmp x3x)])
theorem cc19 : compF Tryd.prog drops true true Tryd.f19 = some i19 := by kernel_rfl
noncomputable def i20 : FnI := (.mk true true (.seq (.reg (.cons (some x1x) none (.box 30 (.t x0x)) (.cons (some x2x) none (.mv (.c (.b false))) .nil))) (.seq (.reg (.cons (some x3x) none (.fad 0 (.t x1x)) 
  (.cons (some x4x) none (.ld 1 false (.t x3x)) (.cons (some x5x) none (.bin .geq (.t x4x) (.c (.n 0))) (.cons (some x6x) none (.mv (.t x5x)) (.cons (some x7x) (some (.mk x6x 
  true)) (.fad 0 (.t x1x)) (.cons (some x8x) (some (.mk x6x true)) (.ld 1 false (.t x7x)) (.cons (some x9x) (some (.mk x6x true)) (.bin .leq (.t x8x) (.c (.n 12))) (.cons (some 
  x10x) none (.pick (.t x6x) (.t x9x) (.c (.b false))) (.cons (some x11x) none (.mv (.t x10x)) (.cons (some x12x) (some (.mk x11x true)) (.fad 1 (.t x1x)) (.cons (some x13x) (some 
  (.mk x11x true)) (.ld 1 false (.t x12x)) (.cons (some x14x) (some (.mk x11x true)) (.bin .geq (.t x13x) (.c (.n 0))) (.cons (some x15x) none (.pick (.t x11x) (.t x14x) (.c (.b 
  false))) (.cons (some x16x) none (.mv (.t x15x)) (.cons (some x17x) (some (.mk x16x true)) (.fad 1 (.t x1x)) (.cons (some x18x) (some (.mk x16x true)) (.ld 1 false (.t x17x)) 
  (.cons (some x19x) (some (.mk x16x true)) (.bin .leq (.t x18x) (.c (.n 12))) (.cons (some x20x) none (.pick (.t x16x) (.t x19x) (.c (.b false))) (.cons (some x2x) none (.mv (.t 
  x20x)) .nil)))))))))))))))))))) .ret)) [(.tmp x2x)])
theorem cc20 : compF Tryd.prog drops true true Tryd.f20 = some i20 := by kernel_rfl
noncomputable def i21 : FnI := (.mk true true (.seq (.reg (.cons (some x3x) none (.box 30 (.t x1x)) (.cons (some x4x) none (.mv (.c (.n 0))) .nil))) (.seq (.seq (.reg (.cons (some x6x) none (.mv (.t x0x)) (.cons 
  (some x7x) none (.len (.t x6x)) (.cons (some x8x) none (.mv (.c (.n 0))) .nil)))) (.block 0 (.loop (.seq (.reg (.cons (some x9x) none (.bin .lss (.t x8x) (.t x7x)) .nil)) (.seq 
  (.cond (.t x9x) .skip (.exit 0)) (.seq (.block 1 (.seq (.reg (.cons (some x10x) none (.mv (.t x8x)) (.cons (some x5x) none (.mv (.t x10x)) .nil))) (.seq (.draw [(.mk (some x11x) 
  none true [] false [] [] [x0x] (.mv (.t x0x)) false [] [] []), (.mk (some x12x) none true [] false [false] [] [x5x] (.mv (.t x5x)) false [] [] []), (.mk (some x13x) none false [] 
  false [true, true] [] [x11x, x12x] (.call 39 (.cons (.t x11x) (.cons (.t x12x) .nil))) false [] [] []), (.mk (some x14x) none false [] false [false, false, false] [] [x3x] (.ld 2 
  true (.t x3x)) false [] [] []), (.mk (some x15x) none false [] false [true, true, true, true] [] [x13x, x14x] (.call 41 (.cons (.t x13x) (.cons (.t x14x) .nil))) false [] [] 
  [])]) (.cond (.t x15x) (.seq (.reg (.cons (some x4x) none (.mv (.c (.n 1))) .nil)) .ret) .skip)))) (.reg (.cons (some x16x) none (.bin .add (.t x8x) (.c (.n 1))) (.cons (some 
  x8x) none (.mv (.t x16x)) .nil))))))))) (.seq (.seq (.reg (.cons (some x17x) none (.mv (.t x0x)) (.cons (some x18x) none (.ld 2 true (.t x3x)) (.cons (some x19x) none (.call 42 
  (.cons (.t x17x) (.cons (.t x18x) .nil))) (.cons (some x20x) none (.bin .neq (.t x19x) (.c (.n 0))) .nil))))) (.cond (.t x20x) (.seq (.reg (.cons (some x4x) none (.mv (.c (.n 
  2))) .nil)) .ret) .skip)) (.seq (.reg (.cons (some x4x) none (.mv (.c (.n 0))) .nil)) .ret)))) [(.tmp x4x)])
theorem cc21 : compF Tryd.prog drops true true Tryd.f21 = some i21 := by kernel_rfl
noncomputable def i22 : FnI := (.mk true false (.seq (.reg (.cons (some x2x) none (.mv (.c .ns)) .nil)) (.seq (.reg (.cons (some x3x) none (.mv (.c .ns)) .nil)) (.seq (.seq (.reg (.cons (some x6x) none (.mv (.t 
  x0x)) (.cons (some x7x) none (.len (.t x6x)) (.cons (some x8x) none (.mv (.c (.n 0))) .nil)))) (.block 0 (.loop (.seq (.reg (.cons (some x9x) none (.bin .lss (.t x8x) (.t x7x)) 
  .nil)) (.seq (.cond (.t x9x) .skip (.exit 0)) (.seq (.block 1 (.seq (.reg (.cons (some x10x) none (.mv (.t x8x)) (.cons (some x4x) none (.mv (.t x10x)) .nil))) (.seq (.reg (.cons 
  (some x11x) none (.mv (.t x4x)) (.cons (some x12x) none (.bin .add (.t x11x) (.c (.n 1))) (.cons (some x5x) none (.mv (.t x12x)) .nil)))) (.block 2 (.loop (.seq (.seq (.reg 
  (.cons (some x13x) none (.mv (.t x5x)) (.cons (some x14x) none (.mv (.t x0x)) (.cons (some x15x) none (.len (.t x14x)) (.cons (some x16x) none (.bin .lss (.t x13x) (.t x15x)) 
  .nil))))) (.cond (.t x16x) .skip (.exit 2))) (.seq (.block 3 (.seq (.reg (.cons (some x19x) none (.mv (.t x0x)) (.cons (some x20x) none (.mv (.t x4x)) (.cons (some x21x) none 
  (.mv (.t x5x)) (.cons (some x22x) none (.call 24 (.cons (.t x19x) (.cons (.t x20x) (.cons (.t x21x) .nil)))) .nil))))) (.cond (.t x22x) (.reg (.cons (some x23x) none (.mv (.t 
  x3x)) (.cons (some x24x) none (.mv (.t x4x)) (.cons (some x25x) none (.mv (.t x5x)) (.cons (some x26x) none (.build (.cons (.n 0) (.cons (.n 0) .nil)) (.cons 0 1 (.t x24x) (.cons 
  1 1 (.t x25x) .nil))) (.cons (some x27x) none (.bsl 45 2 1 (.cons (.n 0) (.cons (.n 0) .nil)) (.cons 0 2 (.t x26x) .nil)) (.cons (some x28x) none (.app 45 2 16 (.t x23x) (.t 
  x27x)) (.cons (some x3x) none (.mv (.t x28x)) .nil)))))))) .skip))) (.reg (.cons (some x17x) none (.mv (.t x5x)) (.cons (some x18x) none (.bin .add (.t x17x) (.c (.n 1))) (.cons 
  (some x5x) none (.mv (.t x18x)) .nil))))))))))) (.reg (.cons (some x29x) none (.bin .add (.t x8x) (.c (.n 1))) (.cons (some x8x) none (.mv (.t x29x)) .nil))))))))) (.seq (.reg 
  (.cons (some x30x) none (.mv (.t x3x)) (.cons (some x2x) none (.mv (.t x30x)) .nil))) .ret)))) [(.tmp x2x)])
theorem cc22 : compF Tryd.prog drops true false Tryd.f22 = some i22 := by kernel_rfl
noncomputable def i23 : FnI := (.mk true true (.seq (.reg (.cons (some x4x) none (.mv (.c (.b false))) .nil)) (.seq (.reg (.cons (some x5x) none (.mv (.t x1x)) (.cons (some x6x) none (.bin .geq (.t x5x) (.c (.n 
  0))) (.cons (some x7x) none (.mv (.t x6x)) (.cons (some x8x) (some (.mk x7x true)) (.mv (.t x1x)) (.cons (some x9x) (some (.mk x7x true)) (.mv (.t x0x)) (.cons (some x10x) (some 
  (.mk x7x true)) (.len (.t x9x)) (.cons (some x11x) (some (.mk x7x true)) (.bin .lss (.t x8x) (.t x10x)) (.cons (some x12x) none (.pick (.t x7x) (.t x11x) (.c (.b false))) (.cons 
  (some x4x) none (.mv (.t x12x)) .nil)))))))))) .ret)) [(.tmp x4x)])
theorem cc23 : compF Tryd.prog drops true true Tryd.f23 = some i23 := by kernel_rfl
noncomputable def i24 : FnI := (.mk true true (.seq (.reg (.cons (some x6x) none (.mv (.c (.b false))) .nil)) (.seq (.seq (.reg (.cons (some x11x) none (.mv (.t x1x)) (.cons (some x12x) none (.mv (.t x2x)) 
  (.cons (some x13x) none (.bin .eql (.t x11x) (.t x12x)) .nil)))) (.cond (.t x13x) (.seq (.reg (.cons (some x6x) none (.mv (.c (.b false))) .nil)) .ret) .skip)) (.seq (.draw [(.mk 
  (some x14x) none true [] false [] [] [x0x] (.mv (.t x0x)) false [] [] []), (.mk (some x15x) none true [] false [false] [] [x1x] (.mv (.t x1x)) false [] [] []), (.mk (some x16x) 
  none true [] false [true, true] [] [x14x, x15x] (.ixs 2 (.t x14x) (.t x15x)) false [] [] []), (.mk (some x17x) none false [] false [true, true, true] [] [x16x] (.ld 2 true (.t 
  x16x)) false [] [] []), (.mk (some x18x) none true [] false [false, false, false, false] [] [x0x] (.mv (.t x0x)) false [] [] []), (.mk (some x19x) none true [] false [false, 
  false, false, false, false] [] [x2x] (.mv (.t x2x)) false [] [] []), (.mk (some x20x) none true [] false [true, true, false, false, false, false] [] [x18x, x19x] (.ixs 2 (.t 
  x18x) (.t x19x)) false [] [] []), (.mk (some x21x) none false [] false [true, true, true, false, false, false, false] [] [x20x] (.ld 2 true (.t x20x)) false [] [] []), (.mk (some 
  x22x) none true [] false [true, true, true, true, true, true, true, true] [] [x17x, x21x] (.build (.cons (.n 0) (.cons (.n 0) (.cons (.n 0) (.cons (.n 0) .nil)))) (.cons 0 2 (.t 
  x17x) (.cons 2 2 (.t x21x) .nil))) false [] [] []), (.mk (some x7x) none true [] true [false, false, false, false, false, false, false, false, false] [] [] (.alloc 71 (.cons (.n 
  0) (.cons (.n 0) (.cons (.n 0) (.cons (.n 0) .nil)))) 4) false [] [] []), (.mk none none false [x7x] false [true, true, true, true, true, true, true, true, true, true] [] [x7x, 
  x22x] (.st 4 (.t x7x) (.t x22x)) false [] [] [])]) (.seq (.seq (.reg (.cons (some x23x) none (.mv (.t x0x)) (.cons (some x24x) none (.len (.t x23x)) (.cons (some x25x) none (.mv 
  (.c (.n 0))) .nil)))) (.block 0 (.loop (.seq (.reg (.cons (some x26x) none (.bin .lss (.t x25x) (.t x24x)) .nil)) (.seq (.cond (.t x26x) .skip (.exit 0)) (.seq (.block 1 (.seq 
  (.reg (.cons (some x27x) none (.mv (.t x25x)) (.cons (some x8x) none (.mv (.t x27x)) .nil))) (.seq (.draw [(.mk (some x29x) none false [] false [] [] [x7x] (.ld 4 true (.t x7x)) 
  false [] [] []), (.mk (some x30x) none true [] false [false] [] [x0x] (.mv (.t x0x)) false [] [] []), (.mk (some x31x) none true [] false [false, false] [] [x8x] (.mv (.t x8x)) 
  false [] [] []), (.mk (some x32x) none false [] false [true, true, false] [] [x30x, x31x] (.call 39 (.cons (.t x30x) (.cons (.t x31x) .nil))) false [] [] []), (.mk (some x33x) 
  none false [] true [true, true, true, true] [] [x29x, x32x] (.call 43 (.cons (.t x29x) (.cons (.t x32x) .nil))) false [] [] []), (.mk (some x34x) none true [] false [true, true, 
  true, true, true] [] [x33x] (.tas 75 (.ag .nil) true (.t x33x)) false [] [] []), (.mk (some x28x) none true [] false [true, true, true, true, true, true] [] [x34x] (.mv (.t 
  x34x)) false [] [] []), (.mk (some x35x) none true [] false [true, true, true, true, true, true, true] [] [x28x] (.ext 0 (.t x28x)) false [] [] []), (.mk (some x36x) none true [] 
  false [false, true, true, true, true, true, true, true] [x9x] [x28x] (.ext 1 (.t x28x)) false [] [] []), (.mk (some x9x) none true [] true [false, false, false, false, false, 
  false, false, false, false] [] [] (.alloc 75 .nil 0) false [] [] []), (.mk none none false [x9x] false [true, false, true, true, true, true, true, true, true, true] [] [x9x, 
  x35x] (.st 0 (.t x9x) (.t x35x)) false [] [] []), (.mk (some x10x) none true [] false [true, true, true, true, true, true, true, true, true, true, true] [] [x36x] (.mv (.t x36x)) 
  false [] [] [])]) (.seq (.reg (.cons (some x37x) none (.mv (.t x10x)) .nil)) (.cond (.t x37x) (.seq (.reg (.cons (some x6x) none (.mv (.c (.b false))) .nil)) .ret) .skip))))) 
  (.reg (.cons (some x38x) none (.bin .add (.t x25x) (.c (.n 1))) (.cons (some x25x) none (.mv (.t x38x)) .nil))))))))) (.seq (.draw [(.mk (some x39x) none true [] false [] [] 
  [x0x] (.mv (.t x0x)) false [] [] []), (.mk (some x40x) none false [] true [true] [] [x39x] (.call 44 (.cons (.t x39x) .nil)) false [] [] []), (.mk (some x41x) none true [] false 
  [false, false] [] [x0x] (.mv (.t x0x)) false [] [] []), (.mk (some x42x) none true [] false [false, false, false] [] [x1x] (.mv (.t x1x)) false [] [] []), (.mk (some x43x) none 
  true [] false [true, true, false, false] [] [x41x, x42x] (.ixs 2 (.t x41x) (.t x42x)) false [] [] []), (.mk (some x44x) none true [] false [true, true, true, false, false] [] 
  [x43x] (.fad 0 (.t x43x)) false [] [] []), (.mk (some x45x) none false [] false [true, true, true, true, false, false] [] [x44x] (.ld 1 false (.t x44x)) false [] [] []), (.mk 
  (some x46x) none true [] false [false, false, false, false, false, false, false] [] [x0x] (.mv (.t x0x)) false [] [] []), (.mk (some x47x) none true [] false [false, false, 
  false, false, false, false, false, false] [] [x2x] (.mv (.t x2x)) false [] [] []), (.mk (some x48x) none true [] false [true, true, false, false, false, false, false, false, 
  false] [] [x46x, x47x] (.ixs 2 (.t x46x) (.t x47x)) false [] [] []), (.mk (some x49x) none true [] false [true, true, true, false, false, false, false, false, false, false] [] 
  [x48x] (.fad 0 (.t x48x)) false [] [] []), (.mk (some x50x) none false [] false [true, true, true, true, false, false, false, false, false, false, false] [] [x49x] (.ld 1 false 
  (.t x49x)) false [] [] []), (.mk (some x51x) none true [] false [true, true, true, true, true, true, true, true, true, true, false, false] [] [x45x, x50x] (.bin .add (.t x45x) 
  (.t x50x)) false [] [] []), (.mk (some x52x) none true [] false [false, false, false, false, false, false, false, false, false, false, false, false, false] [] [x0x] (.mv (.t 
  x0x)) false [] [] []), (.mk (some x53x) none true [] false [false, false, false, false, false, false, false, false, false, false, false, false, false, false] [] [x1x] (.mv (.t 
  x1x)) false [] [] []), (.mk (some x54x) none true [] false [true, true, false, false, false, false, false, false, false, false, false, false, false, false, false] [] [x52x, x53x] 
  (.ixs 2 (.t x52x) (.t x53x)) false [] [] []), (.mk (some x55x) none true [] false [true, true, true, false, false, false, false, false, false, false, false, false, false, false, 
  false, false] [] [x54x] (.fad 1 (.t x54x)) false [] [] []), (.mk (some x56x) none false [] false [true, true, true, true, false, false, false, false, false, false, false, false, 
  false, false, false, false, false] [] [x55x] (.ld 1 false (.t x55x)) false [] [] []), (.mk (some x57x) none true [] false [false, false, false, false, false, false, false, false, 
  false, false, false, false, false, false, false, false, false, false] [] [x0x] (.mv (.t x0x)) false [] [] []), (.mk (some x58x) none true [] false [false, false, false, false, 
  false, false, false, false, false, false, false, false, false, false, false, false, false, false, false] [] [x2x] (.mv (.t x2x)) false [] [] []), (.mk (some x59x) none true [] 
  false [true, true, false, false, false, false, false, false, false, false, false, false, false, false, false, false, false, false, false, false] [] [x57x, x58x] (.ixs 2 (.t x57x) 
  (.t x58x)) false [] [] []), (.mk (some x60x) none true [] false [true, true, true, false, false, false, false, false, false, false, false, false, false, false, false, false, 
  false, false, false, false, false] [] [x59x] (.fad 1 (.t x59x)) false [] [] []), (.mk (some x61x) none false [] false [true, true, true, true, false, false, false, false, false, 
  false, false, false, false, false, false, false, false, false, false, false, false, false] [] [x60x] (.ld 1 false (.t x60x)) false [] [] []), (.mk (some x62x) none true [] false 
  [true, true, true, true, true, true, true, true, true, true, false, false, false, false, false, false, false, false, false, false, false, false, false] [] [x56x, x61x] (.bin .add 
  (.t x56x) (.t x61x)) false [] [] []), (.mk (some x63x) none true [] false [true, true, true, true, true, true, true, true, true, true, true, true, true, true, true, true, true, 
  true, true, true, true, true, false, false] [] [x51x, x62x] (.build (.cons (.n 0) (.cons (.n 0) .nil)) (.cons 0 1 (.t x51x) (.cons 1 1 (.t x62x) .nil))) false [] [] []), (.mk 
  (some x64x) none false [] false [true, true, true, true, true, true, true, true, true, true, true, true, true, true, true, true, true, true, true, true, true, true, true, true, 
  true] [] [x40x, x63x] (.call 21 (.cons (.t x40x) (.cons (.t x63x) .nil))) false [] [] []), (.mk (some x65x) none true [] false [true, true, true, true, true, true, true, true, 
  true, true, true, true, true, true, true, true, true, true, true, true, true, true, true, true, true, true] [] [x64x] (.bin .eql (.t x64x) (.c (.n 2))) false [] [] []), (.mk 
  (some x6x) none true [] false [true, true, true, true, true, true, true, true, true, true, true, true, true, true, true, true, true, true, true, true, true, true, true, true, 
  true, true, true] [] [x65x] (.mv (.t x65x)) false [] [] [])]) .ret))))) [(.tmp x6x)])
theorem cc24 : compF Tryd.prog drops true true Tryd.f24 = some i24 := by kernel_rfl
noncomputable def i25 : FnI := (.mk true false (.seq (.reg (.cons (some x6x) none (.mv (.c .ns)) .nil)) (.seq (.reg (.cons (some x7x) none (.mv (.c .ns)) .nil)) (.seq (.seq (.reg (.cons (some x9x) none (.mv (.t 
  x1x)) (.cons (some x8x) none (.mv (.t x9x)) .nil))) (.block 0 (.loop (.seq (.seq (.reg (.cons (some x10x) none (.mv (.t x8x)) (.cons (some x11x) none (.mv (.t x2x)) (.cons (some 
  x12x) none (.bin .neq (.t x10x) (.t x11x)) .nil)))) (.cond (.t x12x) .skip (.exit 0))) (.seq (.block 1 (.reg (.cons (some x16x) none (.mv (.t x7x)) (.cons (some x17x) none (.mv 
  (.t x0x)) (.cons (some x18x) none (.mv (.t x8x)) (.cons (some x19x) none (.ixs 2 (.t x17x) (.t x18x)) (.cons (some x20x) none (.ld 2 true (.t x19x)) (.cons (some x21x) none (.bsl 
  30 2 1 (.cons (.n 0) (.cons (.n 0) .nil)) (.cons 0 2 (.t x20x) .nil)) (.cons (some x22x) none (.app 30 2 16 (.t x16x) (.t x21x)) (.cons (some x7x) none (.mv (.t x22x)) 
  .nil)))))))))) (.reg (.cons (some x13x) none (.mv (.t x0x)) (.cons (some x14x) none (.mv (.t x8x)) (.cons (some x15x) none (.call 45 (.cons (.t x13x) (.cons (.t x14x) .nil))) 
  (.cons (some x8x) none (.mv (.t x15x)) .nil)))))))))) (.seq (.reg (.cons (some x23x) none (.mv (.t x7x)) (.cons (some x24x) none (.mv (.t x0x)) (.cons (some x25x) none (.mv (.t 
  x2x)) (.cons (some x26x) none (.ixs 2 (.t x24x) (.t x25x)) (.cons (some x27x) none (.ld 2 true (.t x26x)) (.cons (some x28x) none (.bsl 30 2 1 (.cons (.n 0) (.cons (.n 0) .nil)) 
  (.cons 0 2 (.t x27x) .nil)) (.cons (some x29x) none (.app 30 2 16 (.t x23x) (.t x28x)) (.cons (some x6x) none (.mv (.t x29x)) .nil))))))))) .ret)))) [(.tmp x6x)])
theorem cc25 : compF Tryd.prog drops true false Tryd.f25 = some i25 := by kernel_rfl
noncomputable def i26 : FnI := (.mk true true (.seq (.reg (.cons (some x2x) none (.mv (.c (.n 0))) .nil)) (.seq (.reg (.cons (some x3x) none (.mv (.t x0x)) (.cons (some x4x) none (.mv (.t x0x)) (.cons (some x5x) 
  none (.len (.t x4x)) (.cons (some x6x) none (.bin .sub (.t x5x) (.c (.n 1))) (.cons (some x7x) none (.call 46 (.cons (.t x3x) (.cons (.c (.n 0)) (.cons (.t x6x) .nil)))) (.cons 
  (some x2x) none (.mv (.t x7x)) .nil))))))) .ret)) [(.tmp x2x)])
theorem cc26 : compF Tryd.prog drops true true Tryd.f26 = some i26 := by kernel_rfl
noncomputable def i27 : FnI := (.mk true false (.seq (.reg (.cons (some x2x) none (.mv (.c .ns)) .nil)) (.seq (.reg (.cons (some x3x) none (.mv (.c .ns)) .nil)) (.seq (.reg (.cons (some x6x) none (.mv (.t x0x)) 
  (.cons (some x7x) none (.call 47 (.cons (.t x6x) .nil)) (.cons (some x4x) none (.mv (.t x7x)) .nil)))) (.seq (.block 0 (.loop (.seq (.seq (.reg (.cons (some x8x) none (.mv (.t 
  x4x)) (.cons (some x9x) none (.len (.t x8x)) (.cons (some x10x) none (.bin .gtr (.t x9x) (.c (.n 3))) .nil)))) (.cond (.t x10x) .skip (.exit 0))) (.block 1 (.seq (.reg (.cons 
  (some x11x) none (.mv (.t x4x)) (.cons (some x12x) none (.call 48 (.cons (.t x11x) .nil)) (.cons (some x13x) none (.ixs 1 (.t x12x) (.c (.n 0))) (.cons (some x14x) none (.ld 1 
  false (.t x13x)) (.cons (some x5x) none (.mv (.t x14x)) .nil)))))) (.seq (.draw [(.mk (some x15x) none true [] false [] [] [x3x] (.mv (.t x3x)) false [] [] []), (.mk (some x16x) 
  none true [] false [false] [] [x4x] (.mv (.t x4x)) false [] [] []), (.mk (some x17x) none true [] false [false, false] [] [x4x] (.mv (.t x4x)) false [] [] []), (.mk (some x18x) 
  none true [] false [false, false, false] [] [x5x] (.mv (.t x5x)) false [] [] []), (.mk (some x19x) none false [] false [true, true, false, false] [] [x17x, x18x] (.call 49 (.cons 
  (.t x17x) (.cons (.t x18x) .nil))) false [] [] []), (.mk (some x20x) none true [] false [true, true, true, true, false] [] [x16x, x19x] (.ixs 2 (.t x16x) (.t x19x)) false [] [] 
  []), (.mk (some x21x) none false [] false [true, true, true, true, true, false] [] [x20x] (.ld 2 true (.t x20x)) false [] [] []), (.mk (some x22x) none true [] false [false, 
  false, false, false, false, false, false] [] [x4x] (.mv (.t x4x)) false [] [] []), (.mk (some x23x) none true [] false [false, false, false, false, false, false, false, false] [] 
  [x5x] (.mv (.t x5x)) false [] [] []), (.mk (some x24x) none true [] false [true, true, false, false, false, false, false, false, false] [] [x22x, x23x] (.ixs 2 (.t x22x) (.t 
  x23x)) false [] [] []), (.mk (some x25x) none false [] false [true, true, true, false, false, false, false, false, false, false] [] [x24x] (.ld 2 true (.t x24x)) false [] [] []), 
  (.mk (some x26x) none true [] false [false, false, false, false, false, false, false, false, false, false, false] [] [x4x] (.mv (.t x4x)) false [] [] []), (.mk (some x27x) none 
  true [] false [false, false, false, false, false, false, false, false, false, false, false, false] [] [x4x] (.mv (.t x4x)) false [] [] []), (.mk (some x28x) none true [] false 
  [false, false, false, false, false, false, false, false, false, false, false, false, false] [] [x5x] (.mv (.t x5x)) false [] [] []), (.mk (some x29x) none false [] false [true, 
  true, false, false, false, false, false, false, false, true, true, true, false, false] [] [x27x, x28x] (.call 45 (.cons (.t x27x) (.cons (.t x28x) .nil))) false [] [] []), (.mk 
  (some x30x) none true [] false [true, true, true, true, false, false, false, false, false, false, true, true, true, false, false] [] [x26x, x29x] (.ixs 2 (.t x26x) (.t x29x)) 
  false [] [] []), (.mk (some x31x) none false [] false [true, true, true, true, true, false, false, false, false, false, false, true, true, true, false, false] [] [x30x] (.ld 2 
  true (.t x30x)) false [] [] []), (.mk (some x32x) none true [] false [true, true, true, true, true, true, true, true, true, true, true, true, true, true, true, true, false] [] 
  [x21x, x25x, x31x] (.build (.cons (.n 0) (.cons (.n 0) (.cons (.n 0) (.cons (.n 0) (.cons (.n 0) (.cons (.n 0) .nil)))))) (.cons 0 2 (.t x21x) (.cons 2 2 (.t x25x) (.cons 4 2 (.t 
  x31x) .nil)))) false [] [] []), (.mk (some x33x) none true [] true [true, true, true, true, true, true, true, true, true, true, true, true, true, true, true, true, true, false] 
  [] [x32x] (.bsl 47 6 1 (.cons (.n 0) (.cons (.n 0) (.cons (.n 0) (.cons (.n 0) (.cons (.n 0) (.cons (.n 0) .nil)))))) (.cons 0 6 (.t x32x) .nil)) false [] [] []), (.mk (some 
  x34x) none false [x15x, x33x] true [true, true, true, true, true, true, true, true, true, true, true, true, true, true, true, true, true, true, true] [] [x15x, x33x] (.app 47 6 
  48 (.t x15x) (.t x33x)) false [] [] []), (.mk (some x3x) none true [] false [true, true, true, true, true, true, true, true, true, true, true, true, true, true, true, true, true, 
  true, true, true] [] [x34x] (.mv (.t x34x)) false [] [] [])]) (.reg (.cons (some x35x) none (.mv (.t x4x)) (.cons (some x36x) none (.mv (.t x5x)) (.cons (some x37x) none (.mv (.t 
  x5x)) (.cons (some x38x) none (.bin .add (.t x37x) (.c (.n 1))) (.cons (some x39x) none (.call 50 (.cons (.t x35x) (.cons (.t x36x) (.cons (.t x38x) .nil)))) (.cons (some x4x) 
  none (.mv (.t x39x)) .nil))))))))))))) (.seq (.reg (.cons (some x40x) none (.mv (.t x3x)) (.cons (some x41x) none (.mv (.t x4x)) (.cons (some x42x) none (.s2a 3 (.t x41x)) (.cons 
  (some x43x) none (.ld 6 true (.t x42x)) (.cons (some x44x) none (.bsl 47 6 1 (.cons (.n 0) (.cons (.n 0) (.cons (.n 0) (.cons (.n 0) (.cons (.n 0) (.cons (.n 0) .nil)))))) (.cons 
  0 6 (.t x43x) .nil)) (.cons (some x45x) none (.app 47 6 48 (.t x40x) (.t x44x)) (.cons (some x2x) none (.mv (.t x45x)) .nil)))))))) .ret))))) [(.tmp x2x)])
theorem cc27 : compF Tryd.prog drops true false Tryd.f27 = some i27 := by kernel_rfl
noncomputable def i28 : FnI := (.mk true true (.seq (.reg (.cons (some x3x) none (.box 30 (.t x0x)) (.cons (some x6x) none (.alloc 30 (.cons (.n 0) (.cons (.n 0) .nil)) 2) .nil))) (.seq (.seq (.reg (.cons (some 
  x7x) none (.mv (.t x2x)) .nil)) (.cond (.t x7x) (.seq (.reg (.cons (some x8x) none (.fad 0 (.t x3x)) (.cons (some x9x) none (.ld 1 false (.t x8x)) (.cons (some x10x) none (.fad 1 
  (.t x3x)) (.cons (some x11x) none (.ld 1 false (.t x10x)) (.cons (some x12x) none (.mv (.t x1x)) (.cons (some x13x) none (.fad 0 (.t x3x)) (.cons (some x14x) none (.ld 1 false 
  (.t x13x)) (.cons (some x15x) none (.bin .mul (.t x12x) (.t x14x)) (.cons (some x16x) none (.bin .add (.t x11x) (.t x15x)) (.cons (some x17x) none (.build (.cons (.n 0) (.cons 
  (.n 0) .nil)) (.cons 0 1 (.t x9x) (.cons 1 1 (.t x16x) .nil))) (.cons none none (.st 2 (.t x6x) (.t x17x)) .nil)))))))))))) .ret) .skip)) (.seq (.reg (.cons (some x18x) none 
  (.fad 0 (.t x3x)) (.cons (some x19x) none (.ld 1 false (.t x18x)) (.cons (some x20x) none (.mv (.t x1x)) (.cons (some x21x) none (.fad 1 (.t x3x)) (.cons (some x22x) none (.ld 1 
  false (.t x21x)) (.cons (some x23x) none (.bin .mul (.t x20x) (.t x22x)) (.cons (some x24x) none (.bin .add (.t x19x) (.t x23x)) (.cons (some x25x) none (.fad 1 (.t x3x)) (.cons 
  (some x26x) none (.ld 1 false (.t x25x)) (.cons (some x27x) none (.build (.cons (.n 0) (.cons (.n 0) .nil)) (.cons 0 1 (.t x24x) (.cons 1 1 (.t x26x) .nil))) (.cons none none 
  (.st 2 (.t x6x) (.t x27x)) .nil)))))))))))) .ret))) [(.cell x6x 2 true)])
theorem cc28 : compF Tryd.prog drops true true Tryd.f28 = some i28 := by kernel_rfl
noncomputable def i29 : FnI := (.mk true true (.seq (.reg (.cons (some x4x) none (.mv (.c (.b false))) .nil)) (.seq (.reg (.cons (some x5x) none (.mv (.t x0x)) (.cons (some x6x) none (.mv (.t x1x)) (.cons (some 
  x7x) none (.call 51 (.cons (.t x5x) (.cons (.t x6x) .nil))) (.cons (some x8x) none (.bin .geq (.t x7x) (.c (.n 0))) (.cons (some x4x) none (.mv (.t x8x)) .nil)))))) .ret)) [(.tmp 
  x4x)])
theorem cc29 : compF Tryd.prog drops true true Tryd.f29 = some i29 := by kernel_rfl
noncomputable def i30 : FnI := (.mk true true (.seq (.reg (.cons (some x1x) none (.box 30 (.t x0x)) (.cons (some x2x) none (.mv (.c (.b false))) .nil))) (.seq (.reg (.cons (some x3x) none (.ld 2 true (.t x1x)) 
  (.cons (some x4x) none (.call 20 (.cons (.t x3x) .nil)) (.cons (some x5x) none (.not (.t x4x)) (.cons (some x2x) none (.mv (.t x5x)) .nil))))) .ret)) [(.tmp x2x)])
theorem cc30 : compF Tryd.prog drops true true Tryd.f30 = some i30 := by kernel_rfl
noncomputable def i31 : FnI := (.mk true true (.seq (.reg (.cons (some x2x) none (.mv (.c (.n 0))) .nil)) (.seq (.seq (.reg (.cons (some x5x) none (.mv (.t x0x)) (.cons (some x6x) none (.len (.t x5x)) (.cons 
  (some x7x) none (.bin .lss (.t x6x) (.c (.n 3))) .nil)))) (.cond (.t x7x) (.seq (.reg (.cons (some x2x) none (.mv (.c (.n 4))) .nil)) .ret) .skip)) (.seq (.seq (.reg (.cons (some 
  x8x) none (.mv (.t x0x)) (.cons (some x9x) none (.len (.t x8x)) (.cons (some x10x) none (.bin .gtr (.t x9x) (.c (.n 8))) .nil)))) (.cond (.t x10x) (.seq (.reg (.cons (some x2x) 
  none (.mv (.c (.n 3))) .nil)) .ret) .skip)) (.seq (.seq (.reg (.cons (some x11x) none (.mv (.t x0x)) (.cons (some x12x) none (.len (.t x11x)) (.cons (some x13x) none (.mv (.c (.n 
  0))) .nil)))) (.block 0 (.loop (.seq (.reg (.cons (some x14x) none (.bin .lss (.t x13x) (.t x12x)) .nil)) (.seq (.cond (.t x14x) .skip (.exit 0)) (.seq (.block 1 (.seq (.reg 
  (.cons (some x15x) none (.mv (.t x13x)) (.cons (some x16x) none (.ixs 2 (.t x11x) (.t x13x)) (.cons (some x17x) none (.ld 2 true (.t x16x)) (.cons (some x4x) none (.alloc 30 
  (.cons (.n 0) (.cons (.n 0) .nil)) 2) (.cons (some x3x) none (.mv (.t x15x)) (.cons none none (.st 2 (.t x4x) (.t x17x)) .nil))))))) (.seq (.seq (.reg (.cons (some x18x) none 
  (.ld 2 true (.t x4x)) (.cons (some x19x) none (.call 20 (.cons (.t x18x) .nil)) (.cons (some x20x) none (.not (.t x19x)) .nil)))) (.cond (.t x20x) (.seq (.reg (.cons (some x2x) 
  none (.mv (.c (.n 1))) .nil)) .ret) .skip)) (.seq (.draw [(.mk (some x21x) none true [] false [] [] [x0x] (.mv (.t x0x)) false [] [] []), (.mk (some x22x) none true [] false 
  [false] [] [x3x] (.mv (.t x3x)) false [] [] []), (.mk (some x23x) none false [] false [true, true] [] [x21x, x22x] (.slc 2 (.t x21x) none (some (.t x22x)) none) false [] [] []), 
  (.mk (some x24x) none false [] false [false, false, false] [] [x4x] (.ld 2 true (.t x4x)) false [] [] []), (.mk (some x25x) none false [] false [true, true, true, true] [] [x23x, 
  x24x] (.call 52 (.cons (.t x23x) (.cons (.t x24x) .nil))) false [] [] [])]) (.cond (.t x25x) (.seq (.reg (.cons (some x2x) none (.mv (.c (.n 6))) .nil)) .ret) .skip))))) (.reg 
  (.cons (some x26x) none (.bin .add (.t x13x) (.c (.n 1))) (.cons (some x13x) none (.mv (.t x26x)) .nil))))))))) (.seq (.reg (.cons (some x2x) none (.mv (.c (.n 0))) .nil)) 
  .ret))))) [(.tmp x2x)])
theorem cc31 : compF Tryd.prog drops true true Tryd.f31 = some i31 := by kernel_rfl
noncomputable def i32 : FnI := (.mk true false (.seq (.reg (.cons (some x2x) none (.mv (.c .ns)) .nil)) (.seq (.reg (.cons (some x6x) none (.mv (.t x0x)) (.cons (some x7x) none (.call 54 (.cons (.t x6x) .nil)) 
  (.cons (some x8x) none (.call 53 (.cons (.t x7x) (.cons (.c (.fn 55 .nil .nil)) .nil))) (.cons (some x3x) none (.mv (.t x8x)) .nil))))) (.seq (.reg (.cons (some x9x) none (.mv 
  (.t x3x)) (.cons (some x10x) none (.call 56 (.cons (.t x9x) .nil)) (.cons (some x4x) none (.mv (.t x10x)) .nil)))) (.seq (.reg (.cons (some x11x) none (.mv (.t x3x)) (.cons (some 
  x12x) none (.call 57 (.cons (.t x11x) .nil)) .nil))) (.seq (.reg (.cons (some x13x) none (.mv (.t x3x)) (.cons (some x14x) none (.call 56 (.cons (.t x13x) .nil)) (.cons (some 
  x5x) none (.mv (.t x14x)) .nil)))) (.seq (.draw [(.mk (some x15x) none true [] false [] [] [x4x] (.mv (.t x4x)) false [] [] []), (.mk (some x16x) none true [] false [false] [] 
  [x4x] (.mv (.t x4x)) false [] [] []), (.mk (some x17x) none true [] false [true, false] [] [x16x] (.len (.t x16x)) false [] [] []), (.mk (some x18x) none true [] false [true, 
  true, false] [] [x17x] (.bin .sub (.t x17x) (.c (.n 1))) false [] [] []), (.mk (some x19x) none false [] false [true, true, true, true] [] [x15x, x18x] (.slc 2 (.t x15x) none 
  (some (.t x18x)) none) false [] [] []), (.mk (some x20x) none true [] false [false, false, false, false, false] [] [x5x] (.mv (.t x5x)) false [] [] []), (.mk (some x21x) none 
  true [] false [false, false, false, false, false, false] [] [x5x] (.mv (.t x5x)) false [] [] []), (.mk (some x22x) none true [] false [true, false, false, false, false, false, 
  false] [] [x21x] (.len (.t x21x)) false [] [] []), (.mk (some x23x) none true [] false [true, true, false, false, false, false, false, false] [] [x22x] (.bin .sub (.t x22x) (.c 
  (.n 1))) false [] [] []), (.mk (some x24x) none false [] false [true, true, true, true, false, false, false, false, false] [] [x20x, x23x] (.slc 2 (.t x20x) none (some (.t x23x)) 
  none) false [] [] []), (.mk (some x25x) none true [] true [true, true, true, true, true, true, true, true, true, true] [] [x19x, x24x] (.bsl 25 1 2 (.cons .ns (.cons .ns .nil)) 
  (.cons 0 1 (.t x19x) (.cons 1 1 (.t x24x) .nil))) false [] [] []), (.mk (some x26x) none false [] true [true, true, true, true, true, true, true, true, true, true, true] [] 
  [x25x] (.call 58 (.cons (.t x25x) .nil)) false [] [] []), (.mk (some x2x) none true [] false [true, true, true, true, true, true, true, true, true, true, true, true] [] [x26x] 
  (.mv (.t x26x)) false [] [] [])]) .ret)))))) [(.tmp x2x)])
theorem cc32 : compF Tryd.prog drops true false Tryd.f32 = some i32 := by kernel_rfl
noncomputable def i33 : FnI := (.mk true true (.seq (.reg (.cons (some x2x) none (.mv (.c (.b false))) .nil)) (.seq (.seq (.reg (.cons (some x6x) none (.mv (.t x0x)) (.cons (some x7x) none (.len (.t x6x)) (.cons 
  (some x8x) none (.mv (.c (.n 0))) .nil)))) (.block 0 (.loop (.seq (.reg (.cons (some x9x) none (.bin .lss (.t x8x) (.t x7x)) .nil)) (.seq (.cond (.t x9x) .skip (.exit 0)) (.seq 
  (.block 1 (.seq (.reg (.cons (some x10x) none (.mv (.t x8x)) (.cons (some x3x) none (.mv (.t x10x)) .nil))) (.seq (.reg (.cons (some x11x) none (.mv (.t x3x)) (.cons (some x12x) 
  none (.mv (.c (.n 0))) .nil))) (.block 2 (.loop (.seq (.reg (.cons (some x13x) none (.bin .lss (.t x12x) (.t x11x)) .nil)) (.seq (.cond (.t x13x) .skip (.exit 2)) (.seq (.block 3 
  (.seq (.reg (.cons (some x14x) none (.mv (.t x12x)) (.cons (some x4x) none (.mv (.t x14x)) .nil))) (.seq (.reg (.cons (some x15x) none (.mv (.t x0x)) (.cons (some x16x) none (.mv 
  (.t x3x)) (.cons (some x17x) none (.call 45 (.cons (.t x15x) (.cons (.t x16x) .nil))) (.cons (some x18x) none (.mv (.t x4x)) (.cons (some x19x) none (.bin .eql (.t x17x) (.t 
  x18x)) (.cons (some x20x) none (.mv (.t x19x)) (.cons (some x21x) (some (.mk x20x false)) (.mv (.t x0x)) (.cons (some x22x) (some (.mk x20x false)) (.mv (.t x4x)) (.cons (some 
  x23x) (some (.mk x20x false)) (.call 45 (.cons (.t x21x) (.cons (.t x22x) .nil))) (.cons (some x24x) (some (.mk x20x false)) (.mv (.t x3x)) (.cons (some x25x) (some (.mk x20x 
  false)) (.bin .eql (.t x23x) (.t x24x)) (.cons (some x26x) none (.pick (.t x20x) (.c (.b true)) (.t x25x)) (.cons (some x5x) none (.mv (.t x26x)) .nil)))))))))))))) (.seq (.reg 
  (.cons (some x27x) none (.mv (.t x5x)) (.cons (some x28x) none (.mv (.t x27x)) (.cons (some x29x) (some (.mk x28x true)) (.mv (.t x0x)) (.cons (some x30x) (some (.mk x28x true)) 
  (.mv (.t x3x)) (.cons (some x31x) (some (.mk x28x true)) (.call 39 (.cons (.t x29x) (.cons (.t x30x) .nil))) (.cons (some x32x) (some (.mk x28x true)) (.mv (.t x0x)) (.cons (some 
  x33x) (some (.mk x28x true)) (.mv (.t x4x)) (.cons (some x34x) (some (.mk x28x true)) (.call 39 (.cons (.t x32x) (.cons (.t x33x) .nil))) (.cons (some x35x) (some (.mk x28x 
  true)) (.call 59 (.cons (.t x31x) (.cons (.t x34x) .nil))) (.cons (some x36x) (some (.mk x28x true)) (.not (.t x35x)) (.cons (some x37x) none (.pick (.t x28x) (.t x36x) (.c (.b 
  false))) (.cons (some x38x) none (.mv (.t x37x)) (.cons (some x39x) (some (.mk x38x false)) (.mv (.t x5x)) (.cons (some x40x) (some (.mk x38x false)) (.not (.t x39x)) (.cons 
  (some x41x) (some (.mk x38x false)) (.mv (.t x40x)) (.cons (some x42x) (some (.mk x41x true)) (.mv (.t x0x)) (.cons (some x43x) (some (.mk x41x true)) (.mv (.t x3x)) (.cons (some 
  x44x) (some (.mk x41x true)) (.call 39 (.cons (.t x42x) (.cons (.t x43x) .nil))) (.cons (some x45x) (some (.mk x41x true)) (.mv (.t x0x)) (.cons (some x46x) (some (.mk x41x 
  true)) (.mv (.t x4x)) (.cons (some x47x) (some (.mk x41x true)) (.call 39 (.cons (.t x45x) (.cons (.t x46x) .nil))) (.cons (some x48x) (some (.mk x41x true)) (.call 60 (.cons (.t 
  x44x) (.cons (.t x47x) .nil))) (.cons (some x49x) (some (.mk x41x true)) (.not (.t x48x)) (.cons (some x50x) (some (.mk x38x false)) (.pick (.t x41x) (.t x49x) (.c (.b false))) 
  (.cons (some x51x) none (.pick (.t x38x) (.c (.b true)) (.t x50x)) .nil)))))))))))))))))))))))))) (.cond (.t x51x) (.seq (.reg (.cons (some x2x) none (.mv (.c (.b false))) .nil)) 
  .ret) .skip))))) (.reg (.cons (some x52x) none (.bin .add (.t x12x) (.c (.n 1))) (.cons (some x12x) none (.mv (.t x52x)) .nil))))))))))) (.reg (.cons (some x53x) none (.bin .add 
  (.t x8x) (.c (.n 1))) (.cons (some x8x) none (.mv (.t x53x)) .nil))))))))) (.seq (.reg (.cons (some x2x) none (.mv (.c (.b true))) .nil)) .ret))) [(.tmp x2x)])
theorem cc33 : compF Tryd.prog drops true true Tryd.f33 = some i33 := by kernel_rfl
noncomputable def i34 : FnI := (.mk true false (.seq (.reg (.cons (some x2x) none (.mv (.c .ns)) (.cons (some x3x) none (.mv (.c (.n 0))) .nil))) (.seq (.seq (.reg (.cons (some x5x) none (.mv (.t x0x)) (.cons 
  (some x6x) none (.call 17 (.cons (.t x5x) .nil)) (.cons (some x4x) none (.mv (.t x6x)) .nil)))) (.seq (.reg (.cons (some x7x) none (.mv (.t x4x)) (.cons (some x8x) none (.bin 
  .neq (.t x7x) (.c (.n 0))) .nil))) (.cond (.t x8x) (.seq (.reg (.cons (some x9x) none (.mv (.t x4x)) (.cons (some x2x) none (.mv (.c .ns)) (.cons (some x3x) none (.mv (.t x9x)) 
  .nil)))) .ret) .skip))) (.seq (.reg (.cons (some x10x) none (.mv (.t x0x)) (.cons (some x11x) none (.call 61 (.cons (.t x10x) (.cons (.c (.n 1)) .nil))) (.cons (some x2x) none 
  (.mv (.t x11x)) (.cons (some x3x) none (.mv (.c (.n 0))) .nil))))) .ret))) [(.tmp x2x), (.tmp x3x)])
theorem cc34 : compF Tryd.prog drops true false Tryd.f34 = some i34 := by kernel_rfl
noncomputable def i35 : FnI := (.mk true false (.seq (.reg (.cons (some x2x) none (.mv (.c .ns)) (.cons (some x3x) none (.mv (.c (.n 0))) .nil))) (.seq (.seq (.reg (.cons (some x5x) none (.mv (.t x0x)) (.cons 
  (some x6x) none (.call 17 (.cons (.t x5x) .nil)) (.cons (some x4x) none (.mv (.t x6x)) .nil)))) (.seq (.reg (.cons (some x7x) none (.mv (.t x4x)) (.cons (some x8x) none (.bin 
  .neq (.t x7x) (.c (.n 0))) .nil))) (.cond (.t x8x) (.seq (.reg (.cons (some x9x) none (.mv (.t x4x)) (.cons (some x2x) none (.mv (.c .ns)) (.cons (some x3x) none (.mv (.t x9x)) 
  .nil)))) .ret) .skip))) (.seq (.reg (.cons (some x10x) none (.mv (.t x0x)) (.cons (some x11x) none (.call 61 (.cons (.t x10x) (.cons (.c (.n 2)) .nil))) (.cons (some x2x) none 
  (.mv (.t x11x)) (.cons (some x3x) none (.mv (.c (.n 0))) .nil))))) .ret))) [(.tmp x2x), (.tmp x3x)])
theorem cc35 : compF Tryd.prog drops true false Tryd.f35 = some i35 := by kernel_rfl
noncomputable def i36 : FnI := (.mk true false (.seq (.reg (.cons (some x2x) none (.mv (.c .ns)) (.cons (some x3x) none (.mv (.c (.n 0))) .nil))) (.seq (.seq (.reg (.cons (some x5x) none (.mv (.t x0x)) (.cons 
  (some x6x) none (.call 17 (.cons (.t x5x) .nil)) (.cons (some x4x) none (.mv (.t x6x)) .nil)))) (.seq (.reg (.cons (some x7x) none (.mv (.t x4x)) (.cons (some x8x) none (.bin 
  .neq (.t x7x) (.c (.n 0))) .nil))) (.cond (.t x8x) (.seq (.reg (.cons (some x9x) none (.mv (.t x4x)) (.cons (some x2x) none (.mv (.c .ns)) (.cons (some x3x) none (.mv (.t x9x)) 
  .nil)))) .ret) .skip))) (.seq (.reg (.cons (some x10x) none (.mv (.t x0x)) (.cons (some x11x) none (.call 48 (.cons (.t x10x) .nil)) (.cons (some x2x) none (.mv (.t x11x)) (.cons 
  (some x3x) none (.mv (.c (.n 0))) .nil))))) .ret))) [(.tmp x2x), (.tmp x3x)])
theorem cc36 : compF Tryd.prog drops true false Tryd.f36 = some i36 := by kernel_rfl
noncomputable def i37 : FnI := (.mk true true (.seq (.reg (.cons (some x2x) none (.mv (.c (.b false))) (.cons (some x3x) none (.mv (.c (.n 0))) .nil))) (.seq (.seq (.reg (.cons (some x6x) none (.mv (.t x0x)) 
  (.cons (some x7x) none (.call 17 (.cons (.t x6x) .nil)) (.cons (some x4x) none (.mv (.t x7x)) .nil)))) (.seq (.reg (.cons (some x8x) none (.mv (.t x4x)) (.cons (some x9x) none 
  (.bin .neq (.t x8x) (.c (.n 0))) .nil))) (.cond (.t x9x) (.seq (.reg (.cons (some x10x) none (.mv (.t x4x)) (.cons (some x2x) none (.mv (.c (.b false))) (.cons (some x3x) none 
  (.mv (.t x10x)) .nil)))) .ret) .skip))) (.seq (.reg (.cons (some x11x) none (.mv (.t x0x)) (.cons (some x5x) none (.mv (.t x11x)) .nil))) (.seq (.reg (.cons (some x12x) none (.mv 
  (.t x5x)) (.cons (some x13x) none (.len (.t x12x)) (.cons (some x14x) none (.bin .eql (.t x13x) (.c (.n 3))) (.cons (some x15x) none (.mv (.t x14x)) (.cons (some x16x) (some (.mk 
  x15x true)) (.mv (.t x5x)) (.cons (some x17x) (some (.mk x15x true)) (.call 61 (.cons (.t x16x) (.cons (.c (.n 1)) .nil))) (.cons (some x18x) (some (.mk x15x true)) (.len (.t 
  x17x)) (.cons (some x19x) (some (.mk x15x true)) (.bin .eql (.t x18x) (.c (.n 3))) (.cons (some x20x) none (.pick (.t x15x) (.t x19x) (.c (.b false))) (.cons (some x21x) none 
  (.mv (.t x20x)) (.cons (some x22x) (some (.mk x21x true)) (.mv (.t x5x)) (.cons (some x23x) (some (.mk x21x true)) (.call 61 (.cons (.t x22x) (.cons (.c (.n 2)) .nil))) (.cons 
  (some x24x) (some (.mk x21x true)) (.len (.t x23x)) (.cons (some x25x) (some (.mk x21x true)) (.bin .eql (.t x24x) (.c (.n 0))) (.cons (some x26x) none (.pick (.t x21x) (.t x25x) 
  (.c (.b false))) (.cons (some x2x) none (.mv (.t x26x)) (.cons (some x3x) none (.mv (.c (.n 0))) .nil)))))))))))))))))) .ret)))) [(.tmp x2x), (.tmp x3x)])
theorem cc37 : compF Tryd.prog drops true true Tryd.f37 = some i37 := by kernel_rfl
noncomputable def i38 : FnI := (.mk true true (.seq (.reg (.cons (some x4x) none (.mv (.c (.b false))) .nil)) (.seq (.seq (.reg (.cons (some x6x) none (.mv (.t x0x)) (.cons (some x7x) none (.len (.t x6x)) (.cons 
  (some x8x) none (.mv (.t x1x)) (.cons (some x9x) none (.len (.t x8x)) (.cons (some x10x) none (.bin .neq (.t x7x) (.t x9x)) .nil)))))) (.cond (.t x10x) (.seq (.reg (.cons (some 
  x4x) none (.mv (.c (.b false))) .nil)) .ret) .skip)) (.seq (.seq (.reg (.cons (some x5x) none (.mv (.c (.n 0))) .nil)) (.block 0 (.loop (.seq (.seq (.reg (.cons (some x11x) none 
  (.mv (.t x5x)) (.cons (some x12x) none (.mv (.t x0x)) (.cons (some x13x) none (.len (.t x12x)) (.cons (some x14x) none (.bin .lss (.t x11x) (.t x13x)) .nil))))) (.cond (.t x14x) 
  .skip (.exit 0))) (.seq (.block 1 (.seq (.draw [(.mk (some x17x) none true [] false [] [] [x0x] (.mv (.t x0x)) false [] [] []), (.mk (some x18x) none true [] false [false] [] 
  [x5x] (.mv (.t x5x)) false [] [] []), (.mk (some x19x) none true [] false [true, true] [] [x17x, x18x] (.ixs 1 (.t x17x) (.t x18x)) false [] [] []), (.mk (some x20x) none false 
  [] false [true, true, true] [] [x19x] (.ld 1 false (.t x19x)) false [] [] []), (.mk (some x21x) none true [] false [false, false, false, false] [] [x1x] (.mv (.t x1x)) false [] 
  [] []), (.mk (some x22x) none true [] false [false, false, false, false, false] [] [x5x] (.mv (.t x5x)) false [] [] []), (.mk (some x23x) none true [] false [true, true, false, 
  false, false, false] [] [x21x, x22x] (.ixs 1 (.t x21x) (.t x22x)) false [] [] []), (.mk (some x24x) none false [] false [true, true, true, false, false, false, false] [] [x23x] 
  (.ld 1 false (.t x23x)) false [] [] []), (.mk (some x25x) none true [] false [true, true, true, true, true, true, true, true] [] [x20x, x24x] (.bin .neq (.t x20x) (.t x24x)) 
  false [] [] [])]) (.cond (.t x25x) (.seq (.reg (.cons (some x4x) none (.mv (.c (.b false))) .nil)) .ret) .skip))) (.reg (.cons (some x15x) none (.mv (.t x5x)) (.cons (some x16x) 
  none (.bin .add (.t x15x) (.c (.n 1))) (.cons (some x5x) none (.mv (.t x16x)) .nil))))))))) (.seq (.reg (.cons (some x4x) none (.mv (.c (.b true))) .nil)) .ret)))) [(.tmp x4x)])
theorem cc38 : compF Tryd.prog drops true true Tryd.f38 = some i38 := by kernel_rfl
noncomputable def i39 : FnI := (.mk true true (.seq (.reg (.cons (some x4x) none (.alloc 71 (.cons (.n 0) (.cons (.n 0) (.cons (.n 0) (.cons (.n 0) .nil)))) 4) .nil)) (.seq (.draw [(.mk (some x5x) none true [] 
  false [] [] [x0x] (.mv (.t x0x)) false [] [] []), (.mk (some x6x) none true [] false [false] [] [x1x] (.mv (.t x1x)) false [] [] []), (.mk (some x7x) none true [] false [true, 
  true] [] [x5x, x6x] (.ixs 2 (.t x5x) (.t x6x)) false [] [] []), (.mk (some x8x) none false [] false [true, true, true] [] [x7x] (.ld 2 true (.t x7x)) false [] [] []), (.mk (some 
  x9x) none true [] false [false, false, false, false] [] [x0x] (.mv (.t x0x)) false [] [] []), (.mk (some x10x) none true [] false [false, false, false, false, false] [] [x0x] 
  (.mv (.t x0x)) false [] [] []), (.mk (some x11x) none true [] false [false, false, false, false, false, false] [] [x1x] (.mv (.t x1x)) false [] [] []), (.mk (some x12x) none 
  false [] false [true, true, false, false, false, false, false] [] [x10x, x11x] (.call 45 (.cons (.t x10x) (.cons (.t x11x) .nil))) false [] [] []), (.mk (some x13x) none true [] 
  false [true, true, true, true, false, false, false, false] [] [x9x, x12x] (.ixs 2 (.t x9x) (.t x12x)) false [] [] []), (.mk (some x14x) none false [] false [true, true, true, 
  true, true, false, false, false, false] [] [x13x] (.ld 2 true (.t x13x)) false [] [] []), (.mk (some x15x) none true [] false [true, true, true, true, true, true, true, true, 
  true, true] [] [x8x, x14x] (.build (.cons (.n 0) (.cons (.n 0) (.cons (.n 0) (.cons (.n 0) .nil)))) (.cons 0 2 (.t x8x) (.cons 2 2 (.t x14x) .nil))) false [] [] []), (.mk none 
  none false [x4x] false [true, true, true, true, true, true, true, true, true, true, true] [] [x4x, x15x] (.st 4 (.t x4x) (.t x15x)) false [] [] [])]) .ret)) [(.cell x4x 4 true)])
theorem cc39 : compF Tryd.prog drops true true Tryd.f39 = some i39 := by kernel_rfl
noncomputable def i40 : FnI := (.mk true true (.seq (.reg (.cons (some x4x) none (.mv (.c (.n 0))) .nil)) (.seq (.reg (.cons (some x7x) none (.mv (.t x0x)) (.cons (some x8x) none (.call 62 (.cons (.t x7x) .nil)) 
  (.cons (some x5x) none (.mv (.t x8x)) .nil)))) (.seq (.reg (.cons (some x9x) none (.mv (.t x1x)) (.cons (some x10x) none (.call 62 (.cons (.t x9x) .nil)) (.cons (some x6x) none 
  (.mv (.t x10x)) .nil)))) (.seq (.seq (.reg (.cons (some x11x) none (.mv (.t x5x)) .nil)) (.cond (.t x11x) (.seq (.seq (.reg (.cons (some x12x) none (.mv (.t x6x)) .nil)) (.cond 
  (.t x12x) (.seq (.reg (.cons (some x4x) none (.mv (.c (.n 0))) .nil)) .ret) .skip)) (.seq (.reg (.cons (some x4x) none (.mv (.c (.i .i64 (.negSucc 0)))) .nil)) .ret)) .skip)) 
  (.seq (.seq (.reg (.cons (some x13x) none (.mv (.t x6x)) .nil)) (.cond (.t x13x) (.seq (.reg (.cons (some x4x) none (.mv (.c (.n 1))) .nil)) .ret) .skip)) (.seq (.seq (.reg 
  (.cons (some x14x) none (.mv (.t x0x)) (.cons (some x15x) none (.mv (.t x1x)) (.cons (some x16x) none (.bin .lss (.t x14x) (.t x15x)) .nil)))) (.cond (.t x16x) (.seq (.reg (.cons 
  (some x4x) none (.mv (.c (.i .i64 (.negSucc 0)))) .nil)) .ret) .skip)) (.seq (.seq (.reg (.cons (some x17x) none (.mv (.t x0x)) (.cons (some x18x) none (.mv (.t x1x)) (.cons 
  (some x19x) none (.bin .gtr (.t x17x) (.t x18x)) .nil)))) (.cond (.t x19x) (.seq (.reg (.cons (some x4x) none (.mv (.c (.n 1))) .nil)) .ret) .skip)) (.seq (.reg (.cons (some x4x) 
  none (.mv (.c (.n 0))) .nil)) .ret)))))))) [(.tmp x4x)])
theorem cc40 : compF Tryd.prog drops true true Tryd.f40 = some i40 := by kernel_rfl
noncomputable def i41 : FnI := (.mk true true (.seq (.reg (.cons (some x2x) none (.box 71 (.t x0x)) (.cons (some x3x) none (.box 30 (.t x1x)) (.cons (some x4x) none (.mv (.c (.b false))) .nil)))) (.seq (.reg 
  (.cons (some x5x) none (.ld 4 true (.t x2x)) (.cons (some x6x) none (.ld 2 true (.t x3x)) (.cons (some x7x) none (.call 63 (.cons (.t x5x) (.cons (.t x6x) .nil))) (.cons (some 
  x8x) none (.bin .eql (.t x7x) (.c (.n 0))) (.cons (some x9x) none (.mv (.t x8x)) (.cons (some x10x) (some (.mk x9x true)) (.fad 0 (.t x2x)) (.cons (some x11x) (some (.mk x9x 
  true)) (.fad 0 (.t x10x)) (.cons (some x12x) (some (.mk x9x true)) (.ld 1 false (.t x11x)) (.cons (some x13x) (some (.mk x9x true)) (.fad 0 (.t x3x)) (.cons (some x14x) (some 
  (.mk x9x true)) (.ld 1 false (.t x13x)) (.cons (some x15x) (some (.mk x9x true)) (.fad 2 (.t x2x)) (.cons (some x16x) (some (.mk x9x true)) (.fad 0 (.t x15x)) (.cons (some x17x) 
  (some (.mk x9x true)) (.ld 1 false (.t x16x)) (.cons (some x18x) (some (.mk x9x true)) (.call 64 (.cons (.t x12x) (.cons (.t x14x) (.cons (.t x17x) .nil)))) (.cons (some x19x) 
  none (.pick (.t x9x) (.t x18x) (.c (.b false))) (.cons (some x20x) none (.mv (.t x19x)) (.cons (some x21x) (some (.mk x20x true)) (.fad 0 (.t x2x)) (.cons (some x22x) (some (.mk 
  x20x true)) (.fad 1 (.t x21x)) (.cons (some x23x) (some (.mk x20x true)) (.ld 1 false (.t x22x)) (.cons (some x24x) (some (.mk x20x true)) (.fad 1 (.t x3x)) (.cons (some x25x) 
  (some (.mk x20x true)) (.ld 1 false (.t x24x)) (.cons (some x26x) (some (.mk x20x true)) (.fad 2 (.t x2x)) (.cons (some x27x) (some (.mk x20x true)) (.fad 1 (.t x26x)) (.cons 
  (some x28x) (some (.mk x20x true)) (.ld 1 false (.t x27x)) (.cons (some x29x) (some (.mk x20x true)) (.call 64 (.cons (.t x23x) (.cons (.t x25x) (.cons (.t x28x) .nil)))) (.cons 
  (some x30x) none (.pick (.t x20x) (.t x29x) (.c (.b false))) (.cons (some x4x) none (.mv (.t x30x)) .nil)))))))))))))))))))))))))))) .ret)) [(.tmp x4x)])
theorem cc41 : compF Tryd.prog drops true true Tryd.f41 = some i41 := by kernel_rfl
noncomputable def i42 : FnI := (.mk true true (.seq (.reg (.cons (some x3x) none (.box 30 (.t x1x)) (.cons (some x4x) none (.mv (.c (.n 0))) .nil))) (.seq (.reg (.cons (some x5x) none (.mv (.c (.n 0))) .nil)) 
  (.seq (.seq (.reg (.cons (some x9x) none (.mv (.t x0x)) (.cons (some x10x) none (.len (.t x9x)) (.cons (some x11x) none (.mv (.c (.n 0))) .nil)))) (.block 0 (.loop (.seq (.reg 
  (.cons (some x12x) none (.bin .lss (.t x11x) (.t x10x)) .nil)) (.seq (.cond (.t x12x) .skip (.exit 0)) (.seq (.block 1 (.seq (.reg (.cons (some x13x) none (.mv (.t x11x)) (.cons 
  (some x6x) none (.mv (.t x13x)) .nil))) (.seq (.reg (.cons (some x14x) none (.mv (.t x0x)) (.cons (some x15x) none (.mv (.t x6x)) (.cons (some x16x) none (.call 39 (.cons (.t 
  x14x) (.cons (.t x15x) .nil))) (.cons (some x7x) none (.alloc 71 (.cons (.n 0) (.cons (.n 0) (.cons (.n 0) (.cons (.n 0) .nil)))) 4) (.cons none none (.st 4 (.t x7x) (.t x16x)) 
  .nil)))))) (.seq (.draw [(.mk (some x17x) none true [] false [] [] [x7x] (.fad 2 (.t x7x)) false [] [] []), (.mk (some x18x) none false [] false [true] [] [x17x] (.ld 2 true (.t 
  x17x)) false [] [] []), (.mk (some x19x) none false [] false [false, false] [] [x3x] (.ld 2 true (.t x3x)) false [] [] []), (.mk (some x20x) none false [] false [true, true, 
  true] [] [x18x, x19x] (.call 65 (.cons (.t x18x) (.cons (.t x19x) .nil))) false [] [] []), (.mk (some x21x) none true [] false [false, false, false, false] [] [x7x] (.fad 0 (.t 
  x7x)) false [] [] []), (.mk (some x22x) none false [] false [true, false, false, false, false] [] [x21x] (.ld 2 true (.t x21x)) false [] [] []), (.mk (some x23x) none false [] 
  false [false, false, false, false, false, false] [] [x3x] (.ld 2 true (.t x3x)) false [] [] []), (.mk (some x24x) none false [] false [true, true, true, true, true, true, true] 
  [] [x22x, x23x] (.call 65 (.cons (.t x22x) (.cons (.t x23x) .nil))) false [] [] []), (.mk (some x25x) none true [] false [true, true, true, true, true, true, true, true] [] 
  [x20x, x24x] (.bin .sub (.t x20x) (.t x24x)) false [] [] []), (.mk (some x26x) none true [] false [true, true, true, true, true, true, true, true, true] [] [x25x] (.bin .add (.t 
  x25x) (.c (.n 4))) false [] [] []), (.mk (some x27x) none true [] false [true, true, true, true, true, true, true, true, true, true] [] [x26x] (.bin .rem (.t x26x) (.c (.n 4))) 
  false [] [] []), (.mk (some x28x) none true [] false [true, true, true, true, true, true, true, true, true, true, true] [] [x27x] (.ixa 4 1 (.c (.p x0x 0)) (.t x27x)) false [] [] 
  []), (.mk (some x29x) none false [] false [true, true, true, true, true, true, true, true, true, true, true, true] [] [x28x] (.ld 1 false (.t x28x)) false [] [] []), (.mk (some 
  x8x) none true [] false [true, true, true, true, true, true, true, true, true, true, true, true, true] [] [x29x] (.mv (.t x29x)) false [] [] [])]) (.seq (.seq (.reg (.cons (some 
  x30x) none (.mv (.t x8x)) (.cons (some x31x) none (.bin .eql (.t x30x) (.c (.n 2))) .nil))) (.cond (.t x31x) (.reg (.cons (some x32x) none (.mv (.t x8x)) (.cons (some x33x) none 
  (.ld 4 true (.t x7x)) (.cons (some x34x) none (.ld 2 true (.t x3x)) (.cons (some x35x) none (.call 63 (.cons (.t x33x) (.cons (.t x34x) .nil))) (.cons (some x36x) none (.bin .mul 
  (.t x32x) (.t x35x)) (.cons (some x8x) none (.mv (.t x36x)) .nil))))))) .skip)) (.reg (.cons (some x37x) none (.mv (.t x5x)) (.cons (some x38x) none (.mv (.t x8x)) (.cons (some 
  x39x) none (.bin .add (.t x37x) (.t x38x)) (.cons (some x5x) none (.mv (.t x39x)) .nil)))))))))) (.reg (.cons (some x40x) none (.bin .add (.t x11x) (.c (.n 1))) (.cons (some 
  x11x) none (.mv (.t x40x)) .nil))))))))) (.seq (.reg (.cons (some x41x) none (.mv (.t x5x)) (.cons (some x4x) none (.mv (.t x41x)) .nil))) .ret)))) [(.tmp x4x)])
theorem cc42 : compF Tryd.prog drops true true Tryd.f42 = some i42 := by kernel_rfl
noncomputable def i43 : FnI := (.mk true false (.seq (.reg (.cons (some x2x) none (.box 71 (.t x0x)) (.cons (some x3x) none (.box 71 (.t x1x)) (.cons (some x4x) none (.mv (.c .nif)) .nil)))) (.seq (.draw [(.mk 
  (some x7x) none false [] false [] [] [x2x] (.ld 4 true (.t x2x)) false [] [] []), (.mk (some x8x) none false [] false [false] [] [x3x] (.ld 4 true (.t x3x)) false [] [] []), (.mk 
  (some x9x) none false [] true [true, true] [] [x7x, x8x] (.call 66 (.cons (.t x7x) (.cons (.t x8x) .nil))) false [] [] []), (.mk (some x10x) none false [] false [false, false, 
  false] [] [x3x] (.ld 4 true (.t x3x)) false [] [] []), (.mk (some x11x) none false [] false [false, false, false, false] [] [x2x] (.ld 4 true (.t x2x)) false [] [] []), (.mk 
  (some x12x) none false [] true [true, true, true, true, true] [] [x10x, x11x] (.call 66 (.cons (.t x10x) (.cons (.t x11x) .nil))) false [] [] []), (.mk (some x5x) none true [] 
  false [true, true, true, true, true, true] [] [x9x] (.mv (.t x9x)) false [] [] []), (.mk (some x6x) none true [] false [true, true, true, true, true, true, true] [] [x12x] (.mv 
  (.t x12x)) false [] [] [])]) (.seq (.block 0 (.seq (.reg (.cons (some x14x) none (.mv (.t x5x)) (.cons (some x15x) none (.len (.t x14x)) (.cons (some x16x) none (.bin .eql (.t 
  x15x) (.c (.n 1))) (.cons (some x17x) none (.mv (.t x16x)) (.cons (some x18x) (some (.mk x17x true)) (.mv (.t x5x)) (.cons (some x19x) (some (.mk x17x true)) (.mv (.t x6x)) 
  (.cons (some x20x) (some (.mk x17x true)) (.call 67 (.cons (.t x18x) (.cons (.t x19x) .nil))) (.cons (some x21x) none (.pick (.t x17x) (.t x20x) (.c (.b false))) (.cons (some 
  x13x) none (.mv (.t x21x)) .nil)))))))))) (.cond (.t x13x) (.seq (.reg (.cons (some x22x) none (.build .nil .nil) (.cons (some x23x) none (.mki 99 (.t x22x)) (.cons (some x4x) 
  none (.mv (.t x23x)) .nil)))) .ret) (.seq (.reg (.cons (some x25x) none (.mv (.t x5x)) (.cons (some x26x) none (.len (.t x25x)) (.cons (some x27x) none (.bin .gtr (.t x26x) (.c 
  (.n 0))) (.cons (some x28x) none (.mv (.t x27x)) (.cons (some x29x) (some (.mk x28x false)) (.mv (.t x6x)) (.cons (some x30x) (some (.mk x28x false)) (.len (.t x29x)) (.cons 
  (some x31x) (some (.mk x28x false)) (.bin .gtr (.t x30x) (.c (.n 0))) (.cons (some x32x) none (.pick (.t x28x) (.c (.b true)) (.t x31x)) (.cons (some x33x) none (.mv (.t x32x)) 
  (.cons (some x34x) (some (.mk x33x false)) (.ld 4 true (.t x2x)) (.cons (some x35x) (some (.mk x33x false)) (.ld 4 true (.t x3x)) (.cons (some x36x) (some (.mk x33x false)) 
  (.call 68 (.cons (.t x34x) (.cons (.t x35x) .nil))) (.cons (some x37x) none (.pick (.t x33x) (.c (.b true)) (.t x36x)) (.cons (some x24x) none (.mv (.t x37x)) .nil))))))))))))))) 
  (.cond (.t x24x) (.seq (.reg (.cons (some x38x) none (.build .nil .nil) (.cons (some x39x) none (.mki 75 (.t x38x)) (.cons (some x4x) none (.mv (.t x39x)) .nil)))) .ret) 
  .skip))))) (.seq (.reg (.cons (some x40x) none (.build .nil .nil) (.cons (some x41x) none (.mki 100 (.t x40x)) (.cons (some x4x) none (.mv (.t x41x)) .nil)))) .ret)))) [(.tmp 
  x4x)])
theorem cc43 : compF Tryd.prog drops true false Tryd.f43 = some i43 := by kernel_rfl
noncomputable def i44 : FnI := (.mk true false (.seq (.reg (.cons (some x2x) none (.mv (.c .ns)) .nil)) (.seq (.reg (.cons (some x3x) none (.mv (.c .ns)) .nil)) (.seq (.seq (.reg (.cons (some x6x) none (.mv (.t 
  x0x)) (.cons (some x7x) none (.len (.t x6x)) (.cons (some x8x) none (.mv (.c (.n 0))) .nil)))) (.block 0 (.loop (.seq (.reg (.cons (some x9x) none (.bin .lss (.t x8x) (.t x7x)) 
  .nil)) (.seq (.cond (.t x9x) .skip (.exit 0)) (.seq (.block 1 (.seq (.reg (.cons (some x10x) none (.ixs 2 (.t x6x) (.t x8x)) (.cons (some x11x) none (.ld 2 true (.t x10x)) (.cons 
  (some x5x) none (.alloc 30 (.cons (.n 0) (.cons (.n 0) .nil)) 2) (.cons none none (.st 2 (.t x5x) (.t x11x)) .nil))))) (.reg (.cons (some x12x) none (.mv (.t x3x)) (.cons (some 
  x13x) none (.fad 0 (.t x5x)) (.cons (some x14x) none (.ld 1 false (.t x13x)) (.cons (some x15x) none (.bin .mul (.c (.n 2)) (.t x14x)) (.cons (some x16x) none (.fad 1 (.t x5x)) 
  (.cons (some x17x) none (.ld 1 false (.t x16x)) (.cons (some x18x) none (.bin .mul (.c (.n 2)) (.t x17x)) (.cons (some x19x) none (.build (.cons (.n 0) (.cons (.n 0) .nil)) 
  (.cons 0 1 (.t x15x) (.cons 1 1 (.t x18x) .nil))) (.cons (some x20x) none (.bsl 30 2 1 (.cons (.n 0) (.cons (.n 0) .nil)) (.cons 0 2 (.t x19x) .nil)) (.cons (some x21x) none 
  (.app 30 2 16 (.t x12x) (.t x20x)) (.cons (some x3x) none (.mv (.t x21x)) .nil)))))))))))))) (.reg (.cons (some x22x) none (.bin .add (.t x8x) (.c (.n 1))) (.cons (some x8x) none 
  (.mv (.t x22x)) .nil))))))))) (.seq (.reg (.cons (some x23x) none (.mv (.t x3x)) (.cons (some x2x) none (.mv (.t x23x)) .nil))) .ret)))) [(.tmp x2x)])
theorem cc44 : compF Tryd.prog drops true false Tryd.f44 = some i44 := by kernel_rfl
noncomputable def i45 : FnI := (.mk true true (.seq (.reg (.cons (some x4x) none (.mv (.c (.n 0))) .nil)) (.seq (.reg (.cons (some x5x) none (.mv (.t x1x)) (.cons (some x6x) none (.bin .add (.t x5x) (.c (.n 1))) 
  (.cons (some x7x) none (.mv (.t x0x)) (.cons (some x8x) none (.len (.t x7x)) (.cons (some x9x) none (.bin .rem (.t x6x) (.t x8x)) (.cons (some x4x) none (.mv (.t x9x)) 
  .nil))))))) .ret)) [(.tmp x4x)])
theorem cc45 : compF Tryd.prog drops true true Tryd.f45 = some i45 := by kernel_rfl
noncomputable def i46 : FnI := (.mk true true (.seq (.reg (.cons (some x6x) none (.mv (.c (.n 0))) .nil)) (.seq (.seq (.reg (.cons (some x9x) none (.mv (.t x2x)) (.cons (some x10x) none (.mv (.t x1x)) (.cons 
  (some x11x) none (.bin .add (.t x10x) (.c (.n 1))) (.cons (some x12x) none (.bin .eql (.t x9x) (.t x11x)) .nil))))) (.cond (.t x12x) (.seq (.reg (.cons (some x6x) none (.mv (.c 
  (.n 1))) .nil)) .ret) .skip)) (.seq (.reg (.cons (some x7x) none (.mv (.c (.n 0))) .nil)) (.seq (.seq (.reg (.cons (some x13x) none (.mv (.t x1x)) (.cons (some x14x) none (.bin 
  .add (.t x13x) (.c (.n 1))) (.cons (some x8x) none (.mv (.t x14x)) .nil)))) (.block 0 (.loop (.seq (.seq (.reg (.cons (some x15x) none (.mv (.t x8x)) (.cons (some x16x) none (.mv 
  (.t x2x)) (.cons (some x17x) none (.bin .lss (.t x15x) (.t x16x)) .nil)))) (.cond (.t x17x) .skip (.exit 0))) (.seq (.block 1 (.seq (.reg (.cons (some x20x) none (.mv (.t x0x)) 
  (.cons (some x21x) none (.mv (.t x1x)) (.cons (some x22x) none (.mv (.t x8x)) (.cons (some x23x) none (.call 69 (.cons (.t x20x) (.cons (.t x21x) (.cons (.t x22x) .nil)))) (.cons 
  (some x24x) none (.mv (.t x23x)) (.cons (some x25x) (some (.mk x24x true)) (.mv (.t x0x)) (.cons (some x26x) (some (.mk x24x true)) (.mv (.t x8x)) (.cons (some x27x) (some (.mk 
  x24x true)) (.mv (.t x2x)) (.cons (some x28x) (some (.mk x24x true)) (.call 69 (.cons (.t x25x) (.cons (.t x26x) (.cons (.t x27x) .nil)))) (.cons (some x29x) none (.pick (.t 
  x24x) (.t x28x) (.c (.b false))) .nil))))))))))) (.cond (.t x29x) (.reg (.cons (some x30x) none (.mv (.t x7x)) (.cons (some x31x) none (.mv (.t x0x)) (.cons (some x32x) none (.mv 
  (.t x1x)) (.cons (some x33x) none (.mv (.t x8x)) (.cons (some x34x) none (.call 46 (.cons (.t x31x) (.cons (.t x32x) (.cons (.t x33x) .nil)))) (.cons (some x35x) none (.mv (.t 
  x0x)) (.cons (some x36x) none (.mv (.t x8x)) (.cons (some x37x) none (.mv (.t x2x)) (.cons (some x38x) none (.call 46 (.cons (.t x35x) (.cons (.t x36x) (.cons (.t x37x) .nil)))) 
  (.cons (some x39x) none (.bin .mul (.t x34x) (.t x38x)) (.cons (some x40x) none (.bin .add (.t x30x) (.t x39x)) (.cons (some x7x) none (.mv (.t x40x)) .nil))))))))))))) .skip))) 
  (.reg (.cons (some x18x) none (.mv (.t x8x)) (.cons (some x19x) none (.bin .add (.t x18x) (.c (.n 1))) (.cons (some x8x) none (.mv (.t x19x)) .nil))))))))) (.seq (.reg (.cons 
  (some x41x) none (.mv (.t x7x)) (.cons (some x6x) none (.mv (.t x41x)) .nil))) .ret))))) [(.tmp x6x)])
theorem cc46 : compF Tryd.prog drops true true Tryd.f46 = some i46 := by kernel_rfl
noncomputable def i47 : FnI := (.mk true false (.seq (.reg (.cons (some x2x) none (.mv (.c .ns)) .nil)) (.seq (.seq (.reg (.cons (some x3x) none (.mv (.t x0x)) (.cons (some x4x) none (.eqn false (.t x3x) (.c 
  .ns)) .nil))) (.cond (.t x4x) (.seq (.reg (.cons (some x2x) none (.mv (.c .ns)) .nil)) .ret) .skip)) (.seq (.reg (.cons (some x5x) none (.bsl 30 2 0 .nil .nil) (.cons (some x6x) 
  none (.mv (.t x0x)) (.cons (some x7x) none (.app 30 2 16 (.t x5x) (.t x6x)) (.cons (some x2x) none (.mv (.t x7x)) .nil))))) .ret))) [(.tmp x2x)])
theorem cc47 : compF Tryd.prog drops true false Tryd.f47 = some i47 := by kernel_rfl
noncomputable def i48 : FnI := (.mk true false (.seq (.reg (.cons (some x2x) none (.mv (.c .ns)) .nil)) (.seq (.reg (.cons (some x3x) none (.mv (.c .ns)) .nil)) (.seq (.seq (.reg (.cons (some x5x) none (.mv (.t 
  x0x)) (.cons (some x6x) none (.len (.t x5x)) (.cons (some x7x) none (.mv (.c (.n 0))) .nil)))) (.block 0 (.loop (.seq (.reg (.cons (some x8x) none (.bin .lss (.t x7x) (.t x6x)) 
  .nil)) (.seq (.cond (.t x8x) .skip (.exit 0)) (.seq (.block 1 (.seq (.reg (.cons (some x9x) none (.mv (.t x7x)) (.cons (some x4x) none (.mv (.t x9x)) .nil))) (.seq (.reg (.cons 
  (some x10x) none (.mv (.t x0x)) (.cons (some x11x) none (.mv (.t x4x)) (.cons (some x12x) none (.call 70 (.cons (.t x10x) (.cons (.t x11x) .nil))) .nil)))) (.cond (.t x12x) (.reg 
  (.cons (some x13x) none (.mv (.t x3x)) (.cons (some x14x) none (.mv (.t x4x)) (.cons (some x15x) none (.bsl 3 1 1 (.cons (.n 0) .nil) (.cons 0 1 (.t x14x) .nil)) (.cons (some 
  x16x) none (.app 3 1 8 (.t x13x) (.t x15x)) (.cons (some x3x) none (.mv (.t x16x)) .nil)))))) .skip)))) (.reg (.cons (some x17x) none (.bin .add (.t x7x) (.c (.n 1))) (.cons 
  (some x7x) none (.mv (.t x17x)) .nil))))))))) (.seq (.reg (.cons (some x18x) none (.mv (.t x3x)) (.cons (some x2x) none (.mv (.t x18x)) .nil))) .ret)))) [(.tmp x2x)])
theorem cc48 : compF Tryd.prog drops true false Tryd.f48 = some i48 := by kernel_rfl
noncomputable def i49 : FnI := (.mk true true (.seq (.reg (.cons (some x4x) none (.mv (.c (.n 0))) .nil)) (.seq (.reg (.cons (some x5x) none (.mv (.t x1x)) (.cons (some x6x) none (.mv (.t x0x)) (.cons (some x7x) 
  none (.len (.t x6x)) (.cons (some x8x) none (.bin .add (.t x5x) (.t x7x)) (.cons (some x9x) none (.bin .sub (.t x8x) (.c (.n 1))) (.cons (some x10x) none (.mv (.t x0x)) (.cons 
  (some x11x) none (.len (.t x10x)) (.cons (some x12x) none (.bin .rem (.t x9x) (.t x11x)) (.cons (some x4x) none (.mv (.t x12x)) .nil)))))))))) .ret)) [(.tmp x4x)])
theorem cc49 : compF Tryd.prog drops true true Tryd.f49 = some i49 := by kernel_rfl
noncomputable def i50 : FnI := (.mk false false (.seq (.reg (.cons (some x6x) none (.mv (.c .ns)) .nil)) (.seq (.reg (.cons (some x8x) none (.mv (.t x0x)) (.cons (some x9x) none (.mv (.t x1x)) (.cons (some x10x) 
  none (.mv (.t x2x)) (.cons (some x11x) none (.mv (.t x0x)) (.cons (some x12x) none (.len (.t x11x)) (.cons (some x13x) none (.slc 2 (.t x8x) (some (.t x9x)) (some (.t x10x)) 
  (some (.t x12x))) .nil))))))) (.seq (.seq (.reg (.cons (some x14x) none (.mv (.t x1x)) (.cons (some x15x) none (.mv (.t x2x)) (.cons (some x16x) none (.bin .eql (.t x14x) (.t 
  x15x)) .nil)))) (.cond (.t x16x) (.seq (.reg (.cons (some x17x) none (.mv (.t x0x)) (.cons (some x6x) none (.mv (.t x17x)) .nil))) .ret) .skip)) (.seq (.reg (.cons (some x18x) 
  none (.mv (.t x0x)) (.cons (some x19x) none (.len (.t x18x)) (.cons (some x7x) none (.mv (.t x19x)) .nil)))) (.seq (.draw [(.mk (some x20x) none true [] false [] [] [x0x] (.mv 
  (.t x0x)) false [] [] []), (.mk (some x21x) none true [] false [false] [] [x1x] (.mv (.t x1x)) false [] [] []), (.mk (some x22x) none false [] false [true, true] [] [x20x, x21x] 
  (.slc 2 (.t x20x) none (some (.t x21x)) none) false [] [] []), (.mk (some x23x) none true [] false [false, false, false] [] [x0x] (.mv (.t x0x)) false [] [] []), (.mk (some x24x) 
  none true [] false [false, false, false, false] [] [x2x] (.mv (.t x2x)) false [] [] []), (.mk (some x25x) none false [] false [true, true, false, false, false] [] [x23x, x24x] 
  (.slc 2 (.t x23x) (some (.t x24x)) none none) false [] [] []), (.mk (some x26x) none false [x22x, x25x] true [true, true, true, true, true, true] [] [x22x, x25x] (.app 30 2 16 
  (.t x22x) (.t x25x)) false [] [] []), (.mk (some x0x) none true [] false [true, true, true, true, true, true, true] [] [x26x] (.mv (.t x26x)) false [] [] [])]) (.seq (.reg (.cons 
  (some x27x) none (.mv (.t x0x)) (.cons (some x28x) none (.mv (.t x0x)) (.cons (some x29x) none (.len (.t x28x)) (.cons (some x30x) none (.mv (.t x7x)) (.cons (some x31x) none 
  (.slm 2 (.t x27x) (.t x29x) (.t x30x)) (.cons none none (.cla 30 2 2 (.cons (.n 0) (.cons (.n 0) .nil)) (.t x31x)) .nil))))))) (.seq (.reg (.cons (some x32x) none (.mv (.t x0x)) 
  (.cons (some x6x) none (.mv (.t x32x)) .nil))) .ret))))))) [(.tmp x6x)])
theorem cc50 : compF Tryd.prog drops false false Tryd.f50 = some i50 := by kernel_rfl
noncomputable def i51 : FnI := (.mk true true (.seq (.reg (.cons (some x4x) none (.mv (.c (.n 0))) .nil)) (.seq (.seq (.reg (.cons (some x6x) none (.mv (.t x0x)) (.cons (some x7x) none (.len (.t x6x)) (.cons 
  (some x8x) none (.mv (.c (.n 0))) .nil)))) (.block 0 (.loop (.seq (.reg (.cons (some x9x) none (.bin .lss (.t x8x) (.t x7x)) .nil)) (.seq (.cond (.t x9x) .skip (.exit 0)) (.seq 
  (.block 1 (.seq (.reg (.cons (some x10x) none (.mv (.t x8x)) (.cons (some x5x) none (.mv (.t x10x)) .nil))) (.seq (.reg (.cons (some x11x) none (.mv (.t x1x)) (.cons (some x12x) 
  none (.mv (.t x0x)) (.cons (some x13x) none (.mv (.t x5x)) (.cons (some x14x) none (.ixs 2 (.t x12x) (.t x13x)) (.cons (some x15x) none (.ld 2 true (.t x14x)) (.cons (some x16x) 
  none (.callv (.t x11x) (.cons (.t x15x) .nil)) .nil))))))) (.cond (.t x16x) (.seq (.reg (.cons (some x17x) none (.mv (.t x5x)) (.cons (some x4x) none (.mv (.t x17x)) .nil))) 
  .ret) .skip)))) (.reg (.cons (some x18x) none (.bin .add (.t x8x) (.c (.n 1))) (.cons (some x8x) none (.mv (.t x18x)) .nil))))))))) (.seq (.reg (.cons (some x4x) none (.mv (.c 
  (.i .i64 (.negSucc 0)))) .nil)) .ret))) [(.tmp x4x)])
theorem cc51 : compF Tryd.prog drops true true Tryd.f51 = some i51 := by kernel_rfl
noncomputable def i52 : FnI := (.mk true true (.seq (.reg (.cons (some x3x) none (.box 30 (.t x1x)) (.cons (some x4x) none (.mv (.c (.b false))) .nil))) (.seq (.reg (.cons (some x5x) none (.mv (.t x0x)) (.cons 
  (some x6x) none (.ld 2 true (.t x3x)) (.cons (some x7x) none (.call 71 (.cons (.t x5x) (.cons (.t x6x) .nil))) (.cons (some x8x) none (.bin .geq (.t x7x) (.c (.n 0))) (.cons 
  (some x4x) none (.mv (.t x8x)) .nil)))))) .ret)) [(.tmp x4x)])
theorem cc52 : compF Tryd.prog drops true true Tryd.f52 = some i52 := by kernel_rfl
noncomputable def i53 : FnI := (.mk true false (.seq (.reg (.cons (some x4x) none (.mv (.c .ns)) .nil)) (.seq (.reg (.cons (some x6x) none (.mv (.t x0x)) (.cons (some x7x) none (.call 72 (.cons (.t x6x) .nil)) 
  (.cons (some x5x) none (.mv (.t x7x)) .nil)))) (.seq (.reg (.cons (some x8x) none (.mv (.t x5x)) (.cons (some x9x) none (.mv (.t x1x)) (.cons (some x10x) none (.call 73 (.cons 
  (.t x8x) (.cons (.t x9x) .nil))) .nil)))) (.seq (.reg (.cons (some x11x) none (.mv (.t x5x)) (.cons (some x4x) none (.mv (.t x11x)) .nil))) .ret)))) [(.tmp x4x)])
theorem cc53 : compF Tryd.prog drops true false Tryd.f53 = some i53 := by kernel_rfl
noncomputable def i54 : FnI := (.mk true false (.seq (.reg (.cons (some x1x) none (.box 25 (.t x0x)) (.cons (some x2x) none (.mv (.c .nf)) .nil))) (.seq (.reg (.cons (some x3x) none (.mkf 74 .nil (.cons (.t x1x) 
  .nil)) (.cons (some x2x) none (.mv (.t x3x)) .nil))) .ret)) [(.tmp x2x)])
theorem cc54 : compF Tryd.prog drops true false Tryd.f54 = some i54 := by kernel_rfl
noncomputable def i55 : FnI := (.mk true true (.seq (.reg (.cons (some x2x) none (.box 30 (.t x0x)) (.cons (some x3x) none (.box 30 (.t x1x)) (.cons (some x4x) none (.mv (.c (.n 0))) .nil)))) (.seq (.draw [(.mk 
  (some x5x) none true [] false [] [] [x2x] (.fad 0 (.t x2x)) false [] [] []), (.mk (some x6x) none false [] false [true] [] [x5x] (.ld 1 false (.t x5x)) false [] [] []), (.mk 
  (some x7x) none true [] false [false, false] [] [x3x] (.fad 0 (.t x3x)) false [] [] []), (.mk (some x8x) none false [] false [true, false, false] [] [x7x] (.ld 1 false (.t x7x)) 
  false [] [] []), (.mk (some x9x) none false [] false [true, true, true, true] [] [x6x, x8x] (.call 40 (.cons (.t x6x) (.cons (.t x8x) .nil))) false [] [] []), (.mk (some x10x) 
  none true [] false [false, false, false, false, false] [] [x2x] (.fad 1 (.t x2x)) false [] [] []), (.mk (some x11x) none false [] false [true, false, false, false, false, false] 
  [] [x10x] (.ld 1 false (.t x10x)) false [] [] []), (.mk (some x12x) none true [] false [false, false, false, false, false, false, false] [] [x3x] (.fad 1 (.t x3x)) false [] [] 
  []), (.mk (some x13x) none false [] false [true, false, false, false, false, false, false, false] [] [x12x] (.ld 1 false (.t x12x)) false [] [] []), (.mk (some x14x) none false 
  [] false [true, true, true, true, true, true, true, true, true] [] [x11x, x13x] (.call 40 (.cons (.t x11x) (.cons (.t x13x) .nil))) false [] [] []), (.mk (some x15x) none true [] 
  true [true, true, true, true, true, true, true, true, true, true] [] [x9x, x14x] (.bsl 3 1 2 (.cons (.n 0) (.cons (.n 0) .nil)) (.cons 0 1 (.t x9x) (.cons 1 1 (.t x14x) .nil))) 
  false [] [] []), (.mk (some x16x) none false [] false [true, true, true, true, true, true, true, true, true, true, true] [] [x15x] (.call 75 (.cons (.t x15x) .nil)) false [] [] 
  []), (.mk (some x4x) none true [] false [true, true, true, true, true, true, true, true, true, true, true, true] [] [x16x] (.mv (.t x16x)) false [] [] [])]) .ret)) [(.tmp x4x)])
theorem cc55 : compF Tryd.prog drops true true Tryd.f55 = some i55 := by kernel_rfl
noncomputable def i56 : FnI := (.mk true false (.seq (.reg (.cons (some x2x) none (.mv (.c .ns)) .nil)) (.seq (.reg (.cons (some x3x) none (.mv (.c .ns)) .nil)) (.seq (.seq (.reg (.cons (some x6x) none (.mv (.t 
  x0x)) (.cons (some x7x) none (.len (.t x6x)) (.cons (some x8x) none (.mv (.c (.n 0))) .nil)))) (.block 0 (.loop (.seq (.reg (.cons (some x9x) none (.bin .lss (.t x8x) (.t x7x)) 
  .nil)) (.seq (.cond (.t x9x) .skip (.exit 0)) (.seq (.block 1 (.seq (.reg (.cons (some x10x) none (.ixs 2 (.t x6x) (.t x8x)) (.cons (some x11x) none (.ld 2 true (.t x10x)) (.cons 
  (some x5x) none (.alloc 30 (.cons (.n 0) (.cons (.n 0) .nil)) 2) (.cons none none (.st 2 (.t x5x) (.t x11x)) .nil))))) (.seq (.block 2 (.loop (.seq (.seq (.draw [(.mk (some x12x) 
  none true [] false [] [] [x3x] (.mv (.t x3x)) false [] [] []), (.mk (some x13x) none true [] false [true] [] [x12x] (.len (.t x12x)) false [] [] []), (.mk (some x14x) none true 
  [] false [true, true] [] [x13x] (.bin .gtr (.t x13x) (.c (.n 1))) false [] [] []), (.mk (some x15x) none true [] false [true, true, true] [] [x14x] (.mv (.t x14x)) false [] [] 
  []), (.mk (some x16x) (some (.mk x15x true)) true [] false [true, true, true, true] [] [x15x, x3x] (.mv (.t x3x)) false [] [] []), (.mk (some x17x) (some (.mk x15x true)) true [] 
  false [false, true, true, true, true] [] [x15x, x3x] (.mv (.t x3x)) false [] [] []), (.mk (some x18x) (some (.mk x15x true)) true [] false [true, false, true, true, true, true] 
  [] [x15x, x17x] (.len (.t x17x)) false [] [] []), (.mk (some x19x) (some (.mk x15x true)) true [] false [true, true, false, true, true, true, true] [] [x15x, x18x] (.bin .sub (.t 
  x18x) (.c (.n 2))) false [] [] []), (.mk (some x20x) (some (.mk x15x true)) true [] false [true, true, true, true, true, true, true, true] [] [x15x, x16x, x19x] (.ixs 2 (.t x16x) 
  (.t x19x)) false [] [] []), (.mk (some x21x) (some (.mk x15x true)) false [] false [true, true, true, true, true, true, true, true, true] [] [x15x, x20x] (.ld 2 true (.t x20x)) 
  false [] [] []), (.mk (some x22x) (some (.mk x15x true)) true [] false [false, false, false, false, false, false, true, true, true, true] [] [x15x, x3x] (.mv (.t x3x)) false [] 
  [] []), (.mk (some x23x) (some (.mk x15x true)) true [] false [false, false, false, false, false, false, false, true, true, true, true] [] [x15x, x3x] (.mv (.t x3x)) false [] [] 
  []), (.mk (some x24x) (some (.mk x15x true)) true [] false [true, false, false, false, false, false, false, false, true, true, true, true] [] [x15x, x23x] (.len (.t x23x)) false 
  [] [] []), (.mk (some x25x) (some (.mk x15x true)) true [] false [true, true, false, false, false, false, false, false, false, true, true, true, true] [] [x15x, x24x] (.bin .sub 
  (.t x24x) (.c (.n 1))) false [] [] []), (.mk (some x26x) (some (.mk x15x true)) true [] false [true, true, true, true, false, false, false, false, false, false, true, true, true, 
  true] [] [x15x, x22x, x25x] (.ixs 2 (.t x22x) (.t x25x)) false [] [] []), (.mk (some x27x) (some (.mk x15x true)) false [] false [true, true, true, true, true, false, false, 
  false, false, false, false, true, true, true, true] [] [x15x, x26x] (.ld 2 true (.t x26x)) false [] [] []), (.mk (some x28x) (some (.mk x15x true)) true [] false [true, true, 
  true, true, true, true, true, true, true, true, true, true, true, true, true, true] [] [x15x, x21x, x27x] (.build (.cons (.n 0) (.cons (.n 0) (.cons (.n 0) (.cons (.n 0) .nil)))) 
  (.cons 0 2 (.t x21x) (.cons 2 2 (.t x27x) .nil))) false [] [] []), (.mk (some x29x) (some (.mk x15x true)) false [] false [false, false, false, false, false, false, false, false, 
  false, false, false, false, false, true, true, true, true] [] [x15x, x5x] (.ld 2 true (.t x5x)) false [] [] []), (.mk (some x30x) (some (.mk x15x true)) false [] false [true, 
  true, true, true, true, true, true, true, true, true, true, true, true, true, true, true, true, true] [] [x15x, x28x, x29x] (.call 63 (.cons (.t x28x) (.cons (.t x29x) .nil))) 
  false [] [] []), (.mk (some x31x) (some (.mk x15x true)) true [] false [true, true, true, true, true, true, true, true, true, true, true, true, true, true, true, true, true, 
  true, true] [] [x15x, x30x] (.bin .leq (.t x30x) (.c (.n 0))) false [] [] []), (.mk (some x32x) none true [] false [true, true, true, true, true, true, true, true, true, true, 
  true, true, true, true, true, true, true, true, true, true] [] [x15x, x31x] (.pick (.t x15x) (.t x31x) (.c (.b false))) false [] [] [])]) (.cond (.t x32x) .skip (.exit 2))) 
  (.block 3 (.reg (.cons (some x33x) none (.mv (.t x3x)) (.cons (some x34x) none (.mv (.t x3x)) (.cons (some x35x) none (.len (.t x34x)) (.cons (some x36x) none (.bin .sub (.t 
  x35x) (.c (.n 1))) (.cons (some x37x) none (.slc 2 (.t x33x) none (some (.t x36x)) none) (.cons (some x3x) none (.mv (.t x37x)) .nil))))))))))) (.reg (.cons (some x38x) none (.mv 
  (.t x3x)) (.cons (some x39x) none (.ld 2 true (.t x5x)) (.cons (some x40x) none (.bsl 30 2 1 (.cons (.n 0) (.cons (.n 0) .nil)) (.cons 0 2 (.t x39x) .nil)) (.cons (some x41x) 
  none (.app 30 2 16 (.t x38x) (.t x40x)) (.cons (some x3x) none (.mv (.t x41x)) .nil))))))))) (.reg (.cons (some x42x) none (.bin .add (.t x8x) (.c (.n 1))) (.cons (some x8x) none 
  (.mv (.t x42x)) .nil))))))))) (.seq (.reg (.cons (some x43x) none (.mv (.t x3x)) (.cons (some x2x) none (.mv (.t x43x)) .nil))) .ret)))) [(.tmp x2x)])
theorem cc56 : compF Tryd.prog drops true false Tryd.f56 = some i56 := by kernel_rfl
noncomputable def i57 : FnI := (.mk false false (.seq (.reg (.cons (some x4x) none (.mv (.t x0x)) (.cons (some x5x) none (.len (.t x4x)) (.cons (some x6x) none (.bin .sub (.t x5x) (.c (.n 1))) (.cons (some x2x) 
  none (.mv (.c (.n 0))) (.cons (some x3x) none (.mv (.t x6x)) .nil)))))) (.block 0 (.loop (.seq (.seq (.reg (.cons (some x7x) none (.mv (.t x2x)) (.cons (some x8x) none (.mv (.t 
  x3x)) (.cons (some x9x) none (.bin .lss (.t x7x) (.t x8x)) .nil)))) (.cond (.t x9x) .skip (.exit 0))) (.seq (.block 1 (.draw [(.mk (some x14x) none true [] false [] [] [x0x] (.mv 
  (.t x0x)) false [] [] []), (.mk (some x15x) none true [] false [false] [] [x2x] (.mv (.t x2x)) false [] [] []), (.mk (some x16x) none true [] false [false, false] [x26x] [x0x] 
  (.mv (.t x0x)) false [] [] []), (.mk (some x17x) none true [] false [false, false, false] [x26x] [x3x] (.mv (.t x3x)) false [] [] []), (.mk (some x18x) none true [] false [false, 
  false, false, false] [] [x0x] (.mv (.t x0x)) false [] [] []), (.mk (some x19x) none true [] false [false, false, false, false, false] [] [x3x] (.mv (.t x3x)) false [] [] []), 
  (.mk (some x20x) none true [] false [true, true, false, false, false, false] [] [x18x, x19x] (.ixs 2 (.t x18x) (.t x19x)) false [] [] []), (.mk (some x21x) none false [] false 
  [true, true, true, false, false, false, false] [] [x20x] (.ld 2 true (.t x20x)) false [] [] []), (.mk (some x22x) none true [] false [false, false, false, false, false, false, 
  false, false] [] [x0x] (.mv (.t x0x)) false [] [] []), (.mk (some x23x) none true [] false [false, false, false, false, false, false, false, false, false] [] [x2x] (.mv (.t x2x)) 
  false [] [] []), (.mk (some x24x) none true [] false [true, true, false, false, false, false, false, false, false, false] [] [x22x, x23x] (.ixs 2 (.t x22x) (.t x23x)) false [] [] 
  []), (.mk (some x25x) none false [] false [true, true, true, false, false, false, false, false, false, false, false] [] [x24x] (.ld 2 true (.t x24x)) false [] [] []), (.mk (some 
  x26x) none true [] false [true, true, true, true, true, true, true, true, false, false, true, true] [] [x14x, x15x] (.ixs 2 (.t x14x) (.t x15x)) false [] [] []), (.mk none none 
  false [x26x] false [true, true, true, true, true, true, true, true, true, false, false, true, true] [] [x26x, x21x] (.st 2 (.t x26x) (.t x21x)) false [] [] []), (.mk (some x27x) 
  none true [] false [true, true, true, true, true, true, true, true, true, true, true, true, true, true] [] [x16x, x17x] (.ixs 2 (.t x16x) (.t x17x)) false [] [] []), (.mk none 
  none false [x27x] false [true, true, true, true, true, true, true, true, true, true, true, true, true, true, true] [] [x27x, x25x] (.st 2 (.t x27x) (.t x25x)) false [] [] [])])) 
  (.reg (.cons (some x10x) none (.mv (.t x2x)) (.cons (some x11x) none (.bin .add (.t x10x) (.c (.n 1))) (.cons (some x12x) none (.mv (.t x3x)) (.cons (some x13x) none (.bin .sub 
  (.t x12x) (.c (.n 1))) (.cons (some x2x) none (.mv (.t x11x)) (.cons (some x3x) none (.mv (.t x13x)) .nil)))))))))))) [])
theorem cc57 : compF Tryd.prog drops false false Tryd.f57 = some i57 := by kernel_rfl
noncomputable def i58 : FnI := (.mk true false (.seq (.reg (.cons (some x2x) none (.mv (.c .ns)) .nil)) (.seq (.reg (.cons (some x3x) none (.mv (.c (.n 0))) .nil)) (.seq (.seq (.reg (.cons (some x9x) none (.mv 
  (.t x0x)) (.cons (some x10x) none (.len (.t x9x)) (.cons (some x11x) none (.mv (.c (.n 0))) .nil)))) (.block 0 (.loop (.seq (.reg (.cons (some x12x) none (.bin .lss (.t x11x) (.t 
  x10x)) .nil)) (.seq (.cond (.t x12x) .skip (.exit 0)) (.seq (.block 1 (.seq (.reg (.cons (some x13x) none (.ixs 1 (.t x9x) (.t x11x)) (.cons (some x14x) none (.ld 1 false (.t 
  x13x)) (.cons (some x5x) none (.mv (.t x14x)) .nil)))) (.seq (.reg (.cons (some x15x) none (.mv (.t x3x)) (.cons (some x16x) none (.mv (.t x5x)) (.cons (some x17x) none (.len (.t 
  x16x)) (.cons (some x18x) none (.bin .add (.t x15x) (.t x17x)) (.cons (some x3x) none (.mv (.t x18x)) .nil)))))) (.seq (.reg (.cons (some x19x) none (.mv (.t x3x)) (.cons (some 
  x20x) none (.bin .lss (.t x19x) (.c (.n 0))) .nil))) (.cond (.t x20x) (.reg (.cons (some x21x) none (.mki 9 (.c (.s [108, 101, 110, 32, 111, 117, 116, 32, 111, 102, 32, 114, 97, 
  110, 103, 101]))) (.cons none none .nope .nil))) .skip))))) (.reg (.cons (some x22x) none (.bin .add (.t x11x) (.c (.n 1))) (.cons (some x11x) none (.mv (.t x22x)) .nil))))))))) 
  (.seq (.reg (.cons (some x23x) none (.mv (.t x3x)) (.cons (some x24x) none (.call 76 (.cons (.c .ns) (.cons (.t x23x) .nil))) (.cons (some x6x) none (.mv (.t x24x)) .nil)))) 
  (.seq (.seq (.reg (.cons (some x25x) none (.mv (.t x0x)) (.cons (some x26x) none (.len (.t x25x)) (.cons (some x27x) none (.mv (.c (.n 0))) .nil)))) (.block 2 (.loop (.seq (.reg 
  (.cons (some x28x) none (.bin .lss (.t x27x) (.t x26x)) .nil)) (.seq (.cond (.t x28x) .skip (.exit 2)) (.seq (.block 3 (.seq (.reg (.cons (some x29x) none (.ixs 1 (.t x25x) (.t 
  x27x)) (.cons (some x30x) none (.ld 1 false (.t x29x)) (.cons (some x8x) none (.mv (.t x30x)) .nil)))) (.reg (.cons (some x31x) none (.mv (.t x6x)) (.cons (some x32x) none (.mv 
  (.t x8x)) (.cons (some x33x) none (.app 30 2 16 (.t x31x) (.t x32x)) (.cons (some x6x) none (.mv (.t x33x)) .nil))))))) (.reg (.cons (some x34x) none (.bin .add (.t x27x) (.c (.n 
  1))) (.cons (some x27x) none (.mv (.t x34x)) .nil))))))))) (.seq (.reg (.cons (some x35x) none (.mv (.t x6x)) (.cons (some x2x) none (.mv (.t x35x)) .nil))) .ret)))))) [(.tmp 
  x2x)])
theorem cc58 : compF Tryd.prog drops true false Tryd.f58 = some i58 := by kernel_rfl
noncomputable def i59 : FnI := (.mk true true (.seq (.reg (.cons (some x2x) none (.box 71 (.t x0x)) (.cons (some x3x) none (.box 71 (.t x1x)) (.cons (some x4x) none (.mv (.c (.b false))) .nil)))) (.seq (.reg 
  (.cons (some x8x) none (.ld 4 true (.t x2x)) (.cons (some x9x) none (.ld 4 true (.t x3x)) (.cons (some x10x) none (.call 43 (.cons (.t x8x) (.cons (.t x9x) .nil))) (.cons (some 
  x11x) none (.tas 99 (.ag .nil) true (.t x10x)) (.cons (some x7x) none (.mv (.t x11x)) (.cons (some x12x) none (.ext 0 (.t x7x)) (.cons (some x13x) none (.ext 1 (.t x7x)) (.cons 
  (some x5x) none (.alloc 99 .nil 0) (.cons none none (.st 0 (.t x5x) (.t x12x)) (.cons (some x6x) none (.mv (.t x13x)) .nil))))))))))) (.seq (.reg (.cons (some x14x) none (.mv (.t 
  x6x)) (.cons (some x4x) none (.mv (.t x14x)) .nil))) .ret))) [(.tmp x4x)])
theorem cc59 : compF Tryd.prog drops true true Tryd.f59 = some i59 := by kernel_rfl
noncomputable def i60 : FnI := (.mk true true (.seq (.reg (.cons (some x2x) none (.box 71 (.t x0x)) (.cons (some x3x) none (.box 71 (.t x1x)) (.cons (some x4x) none (.mv (.c (.b false))) .nil)))) (.seq (.reg 
  (.cons (some x8x) none (.ld 4 true (.t x2x)) (.cons (some x9x) none (.ld 4 true (.t x3x)) (.cons (some x10x) none (.call 43 (.cons (.t x8x) (.cons (.t x9x) .nil))) (.cons (some 
  x11x) none (.tas 100 (.ag .nil) true (.t x10x)) (.cons (some x7x) none (.mv (.t x11x)) (.cons (some x12x) none (.ext 0 (.t x7x)) (.cons (some x13x) none (.ext 1 (.t x7x)) (.cons 
  (some x5x) none (.alloc 100 .nil 0) (.cons none none (.st 0 (.t x5x) (.t x12x)) (.cons (some x6x) none (.mv (.t x13x)) .nil))))))))))) (.seq (.reg (.cons (some x14x) none (.mv 
  (.t x6x)) (.cons (some x4x) none (.mv (.t x14x)) .nil))) .ret))) [(.tmp x4x)])
theorem cc60 : compF Tryd.prog drops true true Tryd.f60 = some i60 := by kernel_rfl
noncomputable def i61 : FnI := (.mk true false (.seq (.reg (.cons (some x4x) none (.mv (.c .ns)) .nil)) (.seq (.reg (.cons (some x5x) none (.mv (.c .ns)) .nil)) (.seq (.seq (.reg (.cons (some x9x) none (.mv (.c 
  (.n 0))) .nil)) (.block 0 (.loop (.seq (.reg (.cons (some x10x) none (.bin .lss (.t x9x) (.c (.n 13))) .nil)) (.seq (.cond (.t x10x) .skip (.exit 0)) (.seq (.block 1 (.seq (.reg 
  (.cons (some x11x) none (.mv (.t x9x)) (.cons (some x6x) none (.mv (.t x11x)) .nil))) (.seq (.reg (.cons (some x12x) none (.mv (.c (.n 0))) .nil)) (.block 2 (.loop (.seq (.reg 
  (.cons (some x13x) none (.bin .lss (.t x12x) (.c (.n 13))) .nil)) (.seq (.cond (.t x13x) .skip (.exit 2)) (.seq (.block 3 (.seq (.reg (.cons (some x14x) none (.mv (.t x12x)) 
  (.cons (some x7x) none (.mv (.t x14x)) .nil))) (.seq (.reg (.cons (some x15x) none (.mv (.t x6x)) (.cons (some x16x) none (.mv (.t x7x)) (.cons (some x17x) none (.build (.cons 
  (.n 0) (.cons (.n 0) .nil)) (.cons 0 1 (.t x15x) (.cons 1 1 (.t x16x) .nil))) (.cons (some x8x) none (.alloc 30 (.cons (.n 0) (.cons (.n 0) .nil)) 2) (.cons none none (.st 2 (.t 
  x8x) (.t x17x)) .nil)))))) (.seq (.reg (.cons (some x18x) none (.mv (.t x0x)) (.cons (some x19x) none (.ld 2 true (.t x8x)) (.cons (some x20x) none (.call 21 (.cons (.t x18x) 
  (.cons (.t x19x) .nil))) (.cons (some x21x) none (.mv (.t x1x)) (.cons (some x22x) none (.bin .eql (.t x20x) (.t x21x)) .nil)))))) (.cond (.t x22x) (.reg (.cons (some x23x) none 
  (.mv (.t x5x)) (.cons (some x24x) none (.ld 2 true (.t x8x)) (.cons (some x25x) none (.bsl 30 2 1 (.cons (.n 0) (.cons (.n 0) .nil)) (.cons 0 2 (.t x24x) .nil)) (.cons (some 
  x26x) none (.app 30 2 16 (.t x23x) (.t x25x)) (.cons (some x5x) none (.mv (.t x26x)) .nil)))))) .skip))))) (.reg (.cons (some x27x) none (.bin .add (.t x12x) (.c (.n 1))) (.cons 
  (some x12x) none (.mv (.t x27x)) .nil))))))))))) (.reg (.cons (some x28x) none (.bin .add (.t x9x) (.c (.n 1))) (.cons (some x9x) none (.mv (.t x28x)) .nil))))))))) (.seq (.reg 
  (.cons (some x29x) none (.mv (.t x5x)) (.cons (some x4x) none (.mv (.t x29x)) .nil))) .ret)))) [(.tmp x4x)])
theorem cc61 : compF Tryd.prog drops true false Tryd.f61 = some i61 := by kernel_rfl
noncomputable def i62 : FnI := (.mk true true (.seq (.reg (.cons (some x2x) none (.mv (.c (.b false))) .nil)) (.seq (.reg (.cons (some x3x) none (.mv (.t x0x)) (.cons (some x4x) none (.mv (.t x0x)) (.cons (some 
  x5x) none (.bin .neq (.t x3x) (.t x4x)) (.cons (some x2x) none (.mv (.t x5x)) .nil))))) .ret)) [(.tmp x2x)])
theorem cc62 : compF Tryd.prog drops true true Tryd.f62 = some i62 := by kernel_rfl
noncomputable def i63 : FnI := (.mk true true (.seq (.reg (.cons (some x2x) none (.box 71 (.t x0x)) (.cons (some x3x) none (.box 30 (.t x1x)) (.cons (some x4x) none (.mv (.c (.n 0))) .nil)))) (.seq (.reg (.cons 
  (some x5x) none (.fad 2 (.t x2x)) (.cons (some x6x) none (.fad 0 (.t x5x)) (.cons (some x7x) none (.ld 1 false (.t x6x)) (.cons (some x8x) none (.fad 0 (.t x2x)) (.cons (some 
  x9x) none (.fad 0 (.t x8x)) (.cons (some x10x) none (.ld 1 false (.t x9x)) (.cons (some x11x) none (.bin .sub (.t x7x) (.t x10x)) (.cons (some x12x) none (.fad 1 (.t x3x)) (.cons 
  (some x13x) none (.ld 1 false (.t x12x)) (.cons (some x14x) none (.fad 0 (.t x2x)) (.cons (some x15x) none (.fad 1 (.t x14x)) (.cons (some x16x) none (.ld 1 false (.t x15x)) 
  (.cons (some x17x) none (.bin .sub (.t x13x) (.t x16x)) (.cons (some x18x) none (.bin .mul (.t x11x) (.t x17x)) (.cons (some x19x) none (.fad 2 (.t x2x)) (.cons (some x20x) none 
  (.fad 1 (.t x19x)) (.cons (some x21x) none (.ld 1 false (.t x20x)) (.cons (some x22x) none (.fad 0 (.t x2x)) (.cons (some x23x) none (.fad 1 (.t x22x)) (.cons (some x24x) none 
  (.ld 1 false (.t x23x)) (.cons (some x25x) none (.bin .sub (.t x21x) (.t x24x)) (.cons (some x26x) none (.fad 0 (.t x3x)) (.cons (some x27x) none (.ld 1 false (.t x26x)) (.cons 
  (some x28x) none (.fad 0 (.t x2x)) (.cons (some x29x) none (.fad 0 (.t x28x)) (.cons (some x30x) none (.ld 1 false (.t x29x)) (.cons (some x31x) none (.bin .sub (.t x27x) (.t 
  x30x)) (.cons (some x32x) none (.bin .mul (.t x25x) (.t x31x)) (.cons (some x33x) none (.call 40 (.cons (.t x18x) (.cons (.t x32x) .nil))) (.cons (some x4x) none (.mv (.t x33x)) 
  .nil))))))))))))))))))))))))))))))) .ret)) [(.tmp x4x)])
theorem cc63 : compF Tryd.prog drops true true Tryd.f63 = some i63 := by kernel_rfl
noncomputable def i64 : FnI := (.mk true true (.seq (.reg (.cons (some x6x) none (.mv (.c (.b false))) .nil)) (.seq (.reg (.cons (some x7x) none (.mv (.t x0x)) (.cons (some x8x) none (.mv (.t x2x)) (.cons (some 
  x9x) none (.mm false (.t x7x) (.cons (.t x8x) .nil)) (.cons (some x10x) none (.mv (.t x1x)) (.cons (some x11x) none (.bin .leq (.t x9x) (.t x10x)) (.cons (some x12x) none (.mv 
  (.t x11x)) (.cons (some x13x) (some (.mk x12x true)) (.mv (.t x1x)) (.cons (some x14x) (some (.mk x12x true)) (.mv (.t x0x)) (.cons (some x15x) (some (.mk x12x true)) (.mv (.t 
  x2x)) (.cons (some x16x) (some (.mk x12x true)) (.mm true (.t x14x) (.cons (.t x15x) .nil)) (.cons (some x17x) (some (.mk x12x true)) (.bin .leq (.t x13x) (.t x16x)) (.cons (some 
  x18x) none (.pick (.t x12x) (.t x17x) (.c (.b false))) (.cons (some x6x) none (.mv (.t x18x)) .nil)))))))))))))) .ret)) [(.tmp x6x)])
theorem cc64 : compF Tryd.prog drops true true Tryd.f64 = some i64 := by kernel_rfl
noncomputable def i65 : FnI := (.mk true true (.seq (.reg (.cons (some x2x) none (.box 30 (.t x0x)) (.cons (some x3x) none (.box 30 (.t x1x)) (.cons (some x4x) none (.mv (.c (.n 0))) .nil)))) (.seq (.draw [(.mk 
  (some x5x) none true [] false [] [] [x2x] (.fad 1 (.t x2x)) false [] [] []), (.mk (some x6x) none false [] false [true] [] [x5x] (.ld 1 false (.t x5x)) false [] [] []), (.mk 
  (some x7x) none true [] false [false, false] [] [x3x] (.fad 1 (.t x3x)) false [] [] []), (.mk (some x8x) none false [] false [true, false, false] [] [x7x] (.ld 1 false (.t x7x)) 
  false [] [] []), (.mk (some x9x) none false [] false [true, true, true, true] [] [x6x, x8x] (.call 40 (.cons (.t x6x) (.cons (.t x8x) .nil))) false [] [] []), (.mk (some x10x) 
  none true [] false [true, true, true, true, true] [] [x9x] (.bin .add (.t x9x) (.c (.n 1))) false [] [] []), (.mk (some x11x) none true [] false [false, false, false, false, 
  false, false] [] [x2x] (.fad 0 (.t x2x)) false [] [] []), (.mk (some x12x) none false [] false [true, false, false, false, false, false, false] [] [x11x] (.ld 1 false (.t x11x)) 
  false [] [] []), (.mk (some x13x) none true [] false [false, false, false, false, false, false, false, false] [] [x3x] (.fad 0 (.t x3x)) false [] [] []), (.mk (some x14x) none 
  false [] false [true, false, false, false, false, false, false, false, false] [] [x13x] (.ld 1 false (.t x13x)) false [] [] []), (.mk (some x15x) none false [] false [true, true, 
  true, true, false, true, true, true, true, true] [] [x12x, x14x] (.call 40 (.cons (.t x12x) (.cons (.t x14x) .nil))) false [] [] []), (.mk (some x16x) none true [] false [true, 
  true, true, true, true, false, true, true, true, true, true] [] [x15x] (.bin .add (.t x15x) (.c (.n 1))) false [] [] []), (.mk (some x17x) none true [] false [false, false, 
  false, false, false, false, true, true, true, true, true, true] [] [x10x] (.ixa 3 3 (.c (.p x1x 0)) (.t x10x)) false [] [] []), (.mk (some x18x) none true [] false [true, true, 
  true, true, true, true, true, true, true, true, true, true, true] [] [x17x, x16x] (.ixa 3 1 (.t x17x) (.t x16x)) false [] [] []), (.mk (some x19x) none false [] false [true, 
  true, true, true, true, true, true, true, true, true, true, true, true, true] [] [x18x] (.ld 1 false (.t x18x)) false [] [] []), (.mk (some x4x) none true [] false [true, true, 
  true, true, true, true, true, true, true, true, true, true, true, true, true] [] [x19x] (.mv (.t x19x)) false [] [] [])]) .ret)) [(.tmp x4x)])
theorem cc65 : compF Tryd.prog drops true true Tryd.f65 = some i65 := by kernel_rfl
noncomputable def i66 : FnI := (.mk true false (.seq (.reg (.cons (some x2x) none (.box 71 (.t x0x)) (.cons (some x3x) none (.box 71 (.t x1x)) (.cons (some x4x) none (.mv (.c .ns)) .nil)))) (.seq (.reg (.cons 
  (some x5x) none (.mv (.c .ns)) .nil)) (.seq (.seq (.reg (.cons (some x8x) none (.fad 0 (.t x2x)) (.cons (some x9x) none (.ld 2 true (.t x8x)) (.cons (some x10x) none (.fad 2 (.t 
  x2x)) (.cons (some x11x) none (.ld 2 true (.t x10x)) (.cons (some x12x) none (.build (.cons (.n 0) (.cons (.n 0) (.cons (.n 0) (.cons (.n 0) .nil)))) (.cons 0 2 (.t x9x) (.cons 2 
  2 (.t x11x) .nil))) (.cons (some x13x) none (.mv (.c (.n 0))) .nil))))))) (.block 0 (.loop (.seq (.reg (.cons (some x14x) none (.bin .lss (.t x13x) (.c (.n 2))) .nil)) (.seq 
  (.cond (.t x14x) .skip (.exit 0)) (.seq (.block 1 (.seq (.reg (.cons (some x15x) none (.idx 2 2 true (.t x12x) (.t x13x)) (.cons (some x7x) none (.alloc 30 (.cons (.n 0) (.cons 
  (.n 0) .nil)) 2) (.cons none none (.st 2 (.t x7x) (.t x15x)) .nil)))) (.seq (.reg (.cons (some x16x) none (.ld 4 true (.t x3x)) (.cons (some x17x) none (.ld 2 true (.t x7x)) 
  (.cons (some x18x) none (.call 41 (.cons (.t x16x) (.cons (.t x17x) .nil))) .nil)))) (.cond (.t x18x) (.reg (.cons (some x19x) none (.mv (.t x5x)) (.cons (some x20x) none (.ld 2 
  true (.t x7x)) (.cons (some x21x) none (.bsl 30 2 1 (.cons (.n 0) (.cons (.n 0) .nil)) (.cons 0 2 (.t x20x) .nil)) (.cons (some x22x) none (.app 30 2 16 (.t x19x) (.t x21x)) 
  (.cons (some x5x) none (.mv (.t x22x)) .nil)))))) .skip)))) (.reg (.cons (some x23x) none (.bin .add (.t x13x) (.c (.n 1))) (.cons (some x13x) none (.mv (.t x23x)) .nil))))))))) 
  (.seq (.reg (.cons (some x24x) none (.mv (.t x5x)) (.cons (some x4x) none (.mv (.t x24x)) .nil))) .ret)))) [(.tmp x4x)])
theorem cc66 : compF Tryd.prog drops true false Tryd.f66 = some i66 := by kernel_rfl
noncomputable def i67 : FnI := (.mk true true (.seq (.reg (.cons (some x4x) none (.mv (.c (.b false))) .nil)) (.seq (.seq (.reg (.cons (some x6x) none (.mv (.t x0x)) (.cons (some x7x) none (.len (.t x6x)) (.cons 
  (some x8x) none (.mv (.t x1x)) (.cons (some x9x) none (.len (.t x8x)) (.cons (some x10x) none (.bin .neq (.t x7x) (.t x9x)) .nil)))))) (.cond (.t x10x) (.seq (.reg (.cons (some 
  x4x) none (.mv (.c (.b false))) .nil)) .ret) .skip)) (.seq (.seq (.reg (.cons (some x11x) none (.mv (.t x0x)) (.cons (some x12x) none (.len (.t x11x)) (.cons (some x13x) none 
  (.mv (.c (.n 0))) .nil)))) (.block 0 (.loop (.seq (.reg (.cons (some x14x) none (.bin .lss (.t x13x) (.t x12x)) .nil)) (.seq (.cond (.t x14x) .skip (.exit 0)) (.seq (.block 1 
  (.seq (.reg (.cons (some x15x) none (.mv (.t x13x)) (.cons (some x5x) none (.mv (.t x15x)) .nil))) (.seq (.draw [(.mk (some x16x) none true [] false [] [] [x0x] (.mv (.t x0x)) 
  false [] [] []), (.mk (some x17x) none true [] false [false] [] [x5x] (.mv (.t x5x)) false [] [] []), (.mk (some x18x) none true [] false [true, true] [] [x16x, x17x] (.ixs 2 (.t 
  x16x) (.t x17x)) false [] [] []), (.mk (some x19x) none false [] false [true, true, true] [] [x18x] (.ld 2 true (.t x18x)) false [] [] []), (.mk (some x20x) none true [] false 
  [false, false, false, false] [] [x1x] (.mv (.t x1x)) false [] [] []), (.mk (some x21x) none true [] false [false, false, false, false, false] [] [x5x] (.mv (.t x5x)) false [] [] 
  []), (.mk (some x22x) none true [] false [true, true, false, false, false, false] [] [x20x, x21x] (.ixs 2 (.t x20x) (.t x21x)) false [] [] []), (.mk (some x23x) none false [] 
  false [true, true, true, false, false, false, false] [] [x22x] (.ld 2 true (.t x22x)) false [] [] []), (.mk (some x24x) none true [] false [true, true, true, true, true, true, 
  true, true] [] [x19x, x23x] (.eqa true (.st (.cons 0 1 false .int (.cons 1 1 false .int .nil))) (.t x19x) (.t x23x)) false [] [] [])]) (.cond (.t x24x) (.seq (.reg (.cons (some 
  x4x) none (.mv (.c (.b false))) .nil)) .ret) .skip)))) (.reg (.cons (some x25x) none (.bin .add (.t x13x) (.c (.n 1))) (.cons (some x13x) none (.mv (.t x25x)) .nil))))))))) (.seq 
  (.reg (.cons (some x4x) none (.mv (.c (.b true))) .nil)) .ret)))) [(.tmp x4x)])
theorem cc67 : compF Tryd.prog drops true true Tryd.f67 = some i67 := by kernel_rfl
noncomputable def i68 : FnI := (.mk true true (.seq (.reg (.cons (some x2x) none (.box 71 (.t x0x)) (.cons (some x3x) none (.box 71 (.t x1x)) (.cons (some x4x) none (.mv (.c (.b false))) .nil)))) (.seq (.draw 
  [(.mk (some x5x) none false [] false [] [] [x2x] (.ld 4 true (.t x2x)) false [] [] []), (.mk (some x6x) none true [] false [false] [] [x3x] (.fad 0 (.t x3x)) false [] [] []), 
  (.mk (some x7x) none false [] false [true, false] [] [x6x] (.ld 2 true (.t x6x)) false [] [] []), (.mk (some x8x) none false [] false [true, true, true] [] [x5x, x7x] (.call 63 
  (.cons (.t x5x) (.cons (.t x7x) .nil))) false [] [] []), (.mk (some x9x) none false [] false [false, false, false, false] [] [x2x] (.ld 4 true (.t x2x)) false [] [] []), (.mk 
  (some x10x) none true [] false [false, false, false, false, false] [] [x3x] (.fad 2 (.t x3x)) false [] [] []), (.mk (some x11x) none false [] false [true, false, false, false, 
  false, false] [] [x10x] (.ld 2 true (.t x10x)) false [] [] []), (.mk (some x12x) none false [] false [true, true, true, true, true, true, true] [] [x9x, x11x] (.call 63 (.cons 
  (.t x9x) (.cons (.t x11x) .nil))) false [] [] []), (.mk (some x13x) none true [] false [true, true, true, true, true, true, true, true] [] [x8x, x12x] (.bin .mul (.t x8x) (.t 
  x12x)) false [] [] []), (.mk (some x14x) none true [] false [true, true, true, true, true, true, true, true, true] [] [x13x] (.bin .lss (.t x13x) (.c (.n 0))) false [] [] []), 
  (.mk (some x15x) none true [] false [true, true, true, true, true, true, true, true, true, true] [] [x14x] (.mv (.t x14x)) false [] [] []), (.mk (some x16x) (some (.mk x15x 
  true)) false [] false [true, true, true, true, true, true, true, true, true, true, true] [] [x15x, x3x] (.ld 4 true (.t x3x)) false [] [] []), (.mk (some x17x) (some (.mk x15x 
  true)) true [] false [false, true, true, true, true, true, true, true, true, true, true, true] [] [x15x, x2x] (.fad 0 (.t x2x)) false [] [] []), (.mk (some x18x) (some (.mk x15x 
  true)) false [] false [true, false, true, true, true, true, true, true, true, true, true, true, true] [] [x15x, x17x] (.ld 2 true (.t x17x)) false [] [] []), (.mk (some x19x) 
  (some (.mk x15x true)) false [] false [true, true, true, true, true, true, true, true, true, true, true, true, true, true] [] [x15x, x16x, x18x] (.call 63 (.cons (.t x16x) (.cons 
  (.t x18x) .nil))) false [] [] []), (.mk (some x20x) (some (.mk x15x true)) false [] false [false, false, false, false, true, true, true, true, true, true, true, true, true, true, 
  true] [] [x15x, x3x] (.ld 4 true (.t x3x)) false [] [] []), (.mk (some x21x) (some (.mk x15x true)) true [] false [false, false, false, false, false, true, true, true, true, 
  true, true, true, true, true, true, true] [] [x15x, x2x] (.fad 2 (.t x2x)) false [] [] []), (.mk (some x22x) (some (.mk x15x true)) false [] false [true, false, false, false, 
  false, false, true, true, true, true, true, true, true, true, true, true, true] [] [x15x, x21x] (.ld 2 true (.t x21x)) false [] [] []), (.mk (some x23x) (some (.mk x15x true)) 
  false [] false [true, true, true, true, true, true, true, true, true, true, true, true, true, true, true, true, true, true] [] [x15x, x20x, x22x] (.call 63 (.cons (.t x20x) 
  (.cons (.t x22x) .nil))) false [] [] []), (.mk (some x24x) (some (.mk x15x true)) true [] false [true, true, true, true, true, true, true, true, true, true, true, true, true, 
  true, true, true, true, true, true] [] [x15x, x19x, x23x] (.bin .mul (.t x19x) (.t x23x)) false [] [] []), (.mk (some x25x) (some (.mk x15x true)) true [] false [true, true, 
  true, true, true, true, true, true, true, true, true, true, true, true, true, true, true, true, true, true] [] [x15x, x24x] (.bin .lss (.t x24x) (.c (.n 0))) false [] [] []), 
  (.mk (some x26x) none true [] false [true, true, true, true, true, true, true, true, true, true, true, true, true, true, true, true, true, true, true, true, true] [] [x15x, x25x] 
  (.pick (.t x15x) (.t x25x) (.c (.b false))) false [] [] []), (.mk (some x4x) none true [] false [true, true, true, true, true, true, true, true, true, true, true, true, true, 
  true, true, true, true, true, true, true, true, true] [] [x26x] (.mv (.t x26x)) false [] [] [])]) .ret)) [(.tmp x4x)])
theorem cc68 : compF Tryd.prog drops true true Tryd.f68 = some i68 := by kernel_rfl
noncomputable def i69 : FnI := (.mk true true (.seq (.reg (.cons (some x6x) none (.mv (.c (.b false))) .nil)) (.seq (.reg (.cons (some x7x) none (.mv (.t x2x)) (.cons (some x8x) none (.mv (.t x1x)) (.cons (some 
  x9x) none (.bin .add (.t x8x) (.c (.n 1))) (.cons (some x10x) none (.bin .eql (.t x7x) (.t x9x)) (.cons (some x11x) none (.mv (.t x10x)) (.cons (some x12x) (some (.mk x11x 
  false)) (.mv (.t x0x)) (.cons (some x13x) (some (.mk x11x false)) (.mv (.t x1x)) (.cons (some x14x) (some (.mk x11x false)) (.mv (.t x2x)) (.cons (some x15x) (some (.mk x11x 
  false)) (.call 24 (.cons (.t x12x) (.cons (.t x13x) (.cons (.t x14x) .nil)))) (.cons (some x16x) none (.pick (.t x11x) (.c (.b true)) (.t x15x)) (.cons (some x6x) none (.mv (.t 
  x16x)) .nil)))))))))))) .ret)) [(.tmp x6x)])
theorem cc69 : compF Tryd.prog drops true true Tryd.f69 = some i69 := by kernel_rfl
noncomputable def i70 : FnI := (.mk true true (.seq (.reg (.cons (some x4x) none (.mv (.c (.b false))) .nil)) (.seq (.reg (.cons (some x5x) none (.mv (.t x0x)) (.cons (some x6x) none (.len (.t x5x)) (.cons (some 
  x7x) none (.bin .eql (.t x6x) (.c (.n 3))) (.cons (some x8x) none (.mv (.t x7x)) (.cons (some x9x) (some (.mk x8x false)) (.mv (.t x0x)) (.cons (some x10x) (some (.mk x8x false)) 
  (.mv (.t x0x)) (.cons (some x11x) (some (.mk x8x false)) (.mv (.t x1x)) (.cons (some x12x) (some (.mk x8x false)) (.call 49 (.cons (.t x10x) (.cons (.t x11x) .nil))) (.cons (some 
  x13x) (some (.mk x8x false)) (.mv (.t x0x)) (.cons (some x14x) (some (.mk x8x false)) (.mv (.t x1x)) (.cons (some x15x) (some (.mk x8x false)) (.call 45 (.cons (.t x13x) (.cons 
  (.t x14x) .nil))) (.cons (some x16x) (some (.mk x8x false)) (.call 24 (.cons (.t x9x) (.cons (.t x12x) (.cons (.t x15x) .nil)))) (.cons (some x17x) none (.pick (.t x8x) (.c (.b 
  true)) (.t x16x)) (.cons (some x4x) none (.mv (.t x17x)) .nil))))))))))))))) .ret)) [(.tmp x4x)])
theorem cc70 : compF Tryd.prog drops true true Tryd.f70 = some i70 := by kernel_rfl
noncomputable def i71 : FnI := (.mk true true (.seq (.reg (.cons (some x3x) none (.box 30 (.t x1x)) (.cons (some x4x) none (.mv (.c (.n 0))) .nil))) (.seq (.seq (.reg (.cons (some x6x) none (.mv (.t x0x)) (.cons 
  (some x7x) none (.len (.t x6x)) (.cons (some x8x) none (.mv (.c (.n 0))) .nil)))) (.block 0 (.loop (.seq (.reg (.cons (some x9x) none (.bin .lss (.t x8x) (.t x7x)) .nil)) (.seq 
  (.cond (.t x9x) .skip (.exit 0)) (.seq (.block 1 (.seq (.reg (.cons (some x10x) none (.mv (.t x8x)) (.cons (some x5x) none (.mv (.t x10x)) .nil))) (.seq (.draw [(.mk (some x11x) 
  none false [] false [] [] [x3x] (.ld 2 true (.t x3x)) false [] [] []), (.mk (some x12x) none true [] false [false] [] [x0x] (.mv (.t x0x)) false [] [] []), (.mk (some x13x) none 
  true [] false [false, false] [] [x5x] (.mv (.t x5x)) false [] [] []), (.mk (some x14x) none true [] false [true, true, false] [] [x12x, x13x] (.ixs 2 (.t x12x) (.t x13x)) false 
  [] [] []), (.mk (some x15x) none false [] false [true, true, true, false] [] [x14x] (.ld 2 true (.t x14x)) false [] [] []), (.mk (some x16x) none true [] false [true, true, true, 
  true, true] [] [x11x, x15x] (.eqa false (.st (.cons 0 1 false .int (.cons 1 1 false .int .nil))) (.t x11x) (.t x15x)) false [] [] [])]) (.cond (.t x16x) (.seq (.reg (.cons (some 
  x17x) none (.mv (.t x5x)) (.cons (some x4x) none (.mv (.t x17x)) .nil))) .ret) .skip)))) (.reg (.cons (some x18x) none (.bin .add (.t x8x) (.c (.n 1))) (.cons (some x8x) none 
  (.mv (.t x18x)) .nil))))))))) (.seq (.reg (.cons (some x4x) none (.mv (.c (.i .i64 (.negSucc 0)))) .nil)) .ret))) [(.tmp x4x)])
theorem cc71 : compF Tryd.prog drops true true Tryd.f71 = some i71 := by kernel_rfl
noncomputable def i72 : FnI := (.mk true false (.seq (.reg (.cons (some x2x) none (.mv (.c .ns)) .nil)) (.seq (.reg (.cons (some x3x) none (.mv (.t x0x)) (.cons (some x4x) none (.call 77 (.cons (.c .ns) (.cons 
  (.t x3x) .nil))) (.cons (some x2x) none (.mv (.t x4x)) .nil)))) .ret)) [(.tmp x2x)])
theorem cc72 : compF Tryd.prog drops true false Tryd.f72 = some i72 := by kernel_rfl
noncomputable def i73 : FnI := (.mk false false (.seq (.reg (.cons (some x5x) none (.mv (.t x0x)) (.cons (some x6x) none (.len (.t x5x)) (.cons (some x4x) none (.mv (.t x6x)) .nil)))) (.reg (.cons (some x7x) 
  none (.mv (.t x0x)) (.cons (some x8x) none (.mv (.t x4x)) (.cons (some x9x) none (.mv (.t x4x)) (.cons (some x10x) none (.conv .u64 (.t x9x)) (.cons (some x11x) none (.call 79 
  (.cons (.t x10x) .nil)) (.cons (some x12x) none (.mv (.t x1x)) (.cons (some x13x) none (.call 78 (.cons (.t x7x) (.cons (.c (.n 0)) (.cons (.t x8x) (.cons (.t x11x) (.cons (.t 
  x12x) .nil)))))) .nil))))))))) [])
theorem cc73 : compF Tryd.prog drops false false Tryd.f73 = some i73 := by kernel_rfl
noncomputable def i74 : FnI := (.mk false false (.seq (.reg (.cons (some x5x) none (.ld 1 false (.t x1x)) (.cons (some x6x) none (.len (.t x5x)) (.cons (some x7x) none (.mv (.c (.n 0))) .nil)))) (.block 0 (.loop 
  (.seq (.reg (.cons (some x8x) none (.bin .lss (.t x7x) (.t x6x)) .nil)) (.seq (.cond (.t x8x) .skip (.exit 0)) (.seq (.block 1 (.seq (.reg (.cons (some x9x) none (.ixs 2 (.t x5x) 
  (.t x7x)) (.cons (some x10x) none (.ld 2 true (.t x9x)) (.cons (some x4x) none (.alloc 30 (.cons (.n 0) (.cons (.n 0) .nil)) 2) (.cons none none (.st 2 (.t x4x) (.t x10x)) 
  .nil))))) (.seq (.reg (.cons (some x11x) none (.mv (.t x0x)) (.cons (some x12x) none (.ld 2 true (.t x4x)) (.cons (some x13x) none (.callv (.t x11x) (.cons (.t x12x) .nil)) 
  (.cons (some x14x) none (.not (.t x13x)) .nil))))) (.cond (.t x14x) .ret .skip)))) (.reg (.cons (some x15x) none (.bin .add (.t x7x) (.c (.n 1))) (.cons (some x7x) none (.mv (.t 
  x15x)) .nil))))))))) [])
theorem cc74 : compF Tryd.prog drops false false Tryd.f74 = some i74 := by kernel_rfl
noncomputable def i75 : FnI := (.mk true true (.seq (.reg (.cons (some x2x) none (.mv (.c (.n 0))) .nil)) (.seq (.reg (.cons (some x3x) none (.mv (.c (.n 0))) .nil)) (.seq (.seq (.reg (.cons (some x6x) none (.mv 
  (.t x0x)) (.cons (some x7x) none (.len (.t x6x)) (.cons (some x8x) none (.mv (.c (.n 0))) .nil)))) (.block 0 (.loop (.seq (.reg (.cons (some x9x) none (.bin .lss (.t x8x) (.t 
  x7x)) .nil)) (.seq (.cond (.t x9x) .skip (.exit 0)) (.seq (.block 1 (.seq (.reg (.cons (some x10x) none (.ixs 1 (.t x6x) (.t x8x)) (.cons (some x11x) none (.ld 1 false (.t x10x)) 
  (.cons (some x5x) none (.mv (.t x11x)) .nil)))) (.seq (.reg (.cons (some x12x) none (.mv (.t x5x)) (.cons (some x13x) none (.mv (.t x3x)) (.cons (some x14x) none (.bin .neq (.t 
  x12x) (.t x13x)) .nil)))) (.cond (.t x14x) (.seq (.reg (.cons (some x15x) none (.mv (.t x5x)) (.cons (some x2x) none (.mv (.t x15x)) .nil))) .ret) .skip)))) (.reg (.cons (some 
  x16x) none (.bin .add (.t x8x) (.c (.n 1))) (.cons (some x8x) none (.mv (.t x16x)) .nil))))))))) (.seq (.reg (.cons (some x17x) none (.mv (.t x3x)) (.cons (some x2x) none (.mv 
  (.t x17x)) .nil))) .ret)))) [(.tmp x2x)])
theorem cc75 : compF Tryd.prog drops true true Tryd.f75 = some i75 := by kernel_rfl
noncomputable def i76 : FnI := (.mk true false (.seq (.reg (.cons (some x4x) none (.mv (.c .ns)) .nil)) (.seq (.seq (.reg (.cons (some x5x) none (.mv (.t x1x)) (.cons (some x6x) none (.bin .lss (.t x5x) (.c (.n 
  0))) .nil))) (.cond (.t x6x) (.reg (.cons (some x7x) none (.mki 9 (.c (.s [99, 97, 110, 110, 111, 116, 32, 98, 101, 32, 110, 101, 103, 97, 116, 105, 118, 101]))) (.cons none none 
  .nope .nil))) .skip)) (.seq (.seq (.reg (.cons (some x8x) none (.mv (.t x1x)) (.cons (some x9x) none (.mv (.t x0x)) (.cons (some x10x) none (.cap (.t x9x)) (.cons (some x11x) 
  none (.mv (.t x0x)) (.cons (some x12x) none (.len (.t x11x)) (.cons (some x13x) none (.bin .sub (.t x10x) (.t x12x)) (.cons (some x14x) none (.bin .sub (.t x8x) (.t x13x)) (.cons 
  (some x1x) none (.mv (.t x14x)) .nil))))))))) (.seq (.reg (.cons (some x15x) none (.mv (.t x1x)) (.cons (some x16x) none (.bin .gtr (.t x15x) (.c (.n 0))) .nil))) (.cond (.t 
  x16x) (.reg (.cons (some x17x) none (.mv (.t x0x)) (.cons (some x18x) none (.mv (.t x0x)) (.cons (some x19x) none (.cap (.t x18x)) (.cons (some x20x) none (.slc 2 (.t x17x) none 
  (some (.t x19x)) none) (.cons (some x21x) none (.mv (.t x1x)) (.cons (some x22x) none (.apz 30 2 16 2 (.cons (.n 0) (.cons (.n 0) .nil)) (.t x20x) (.t x21x)) (.cons (some x23x) 
  none (.mv (.t x0x)) (.cons (some x24x) none (.len (.t x23x)) (.cons (some x25x) none (.slc 2 (.t x22x) none (some (.t x24x)) none) (.cons (some x0x) none (.mv (.t x25x)) 
  .nil))))))))))) .skip))) (.seq (.reg (.cons (some x26x) none (.mv (.t x0x)) (.cons (some x4x) none (.mv (.t x26x)) .nil))) .ret)))) [(.tmp x4x)])
theorem cc76 : compF Tryd.prog drops true false Tryd.f76 = some i76 := by kernel_rfl
noncomputable def i77 : FnI := (compF Tryd.prog drops false false Tryd.f77).getD (.mk false false .skip [])
theorem cc77 : compF Tryd.prog drops false false Tryd.f77 = some i77 := by kernel_rfl
noncomputable def i78 : FnI := (.mk false false (.seq (.reg (.cons (some x10x) none (.mv (.c (.b true))) .nil)) (.seq (.reg (.cons (some x11x) none (.mv (.c (.b true))) .nil)) (.block 0 (.loop (.block 1 (.seq 
  (.reg (.cons (some x21x) none (.mv (.t x2x)) (.cons (some x22x) none (.mv (.t x1x)) (.cons (some x23x) none (.bin .sub (.t x21x) (.t x22x)) (.cons (some x12x) none (.mv (.t 
  x23x)) .nil))))) (.seq (.seq (.reg (.cons (some x24x) none (.mv (.t x12x)) (.cons (some x25x) none (.bin .leq (.t x24x) (.c (.n 12))) .nil))) (.cond (.t x25x) (.seq (.reg (.cons 
  (some x26x) none (.mv (.t x0x)) (.cons (some x27x) none (.mv (.t x1x)) (.cons (some x28x) none (.mv (.t x2x)) (.cons (some x29x) none (.mv (.t x4x)) (.cons (some x30x) none 
  (.call 80 (.cons (.t x26x) (.cons (.t x27x) (.cons (.t x28x) (.cons (.t x29x) .nil))))) .nil)))))) .ret) .skip)) (.seq (.seq (.reg (.cons (some x31x) none (.mv (.t x3x)) (.cons 
  (some x32x) none (.bin .eql (.t x31x) (.c (.n 0))) .nil))) (.cond (.t x32x) (.seq (.reg (.cons (some x33x) none (.mv (.t x0x)) (.cons (some x34x) none (.mv (.t x1x)) (.cons (some 
  x35x) none (.mv (.t x2x)) (.cons (some x36x) none (.mv (.t x4x)) (.cons (some x37x) none (.call 81 (.cons (.t x33x) (.cons (.t x34x) (.cons (.t x35x) (.cons (.t x36x) .nil))))) 
  .nil)))))) .ret) .skip)) (.seq (.seq (.reg (.cons (some x38x) none (.mv (.t x10x)) (.cons (some x39x) none (.not (.t x38x)) .nil))) (.cond (.t x39x) (.seq (.reg (.cons (some 
  x40x) none (.mv (.t x0x)) (.cons (some x41x) none (.mv (.t x1x)) (.cons (some x42x) none (.mv (.t x2x)) (.cons (some x43x) none (.mv (.t x4x)) (.cons (some x44x) none (.call 82 
  (.cons (.t x40x) (.cons (.t x41x) (.cons (.t x42x) (.cons (.t x43x) .nil))))) .nil)))))) (.reg (.cons (some x45x) none (.mv (.t x3x)) (.cons (some x46x) none (.bin .sub (.t x45x) 
  (.c (.n 1))) (.cons (some x3x) none (.mv (.t x46x)) .nil))))) .skip)) (.seq (.reg (.cons (some x48x) none (.mv (.t x0x)) (.cons (some x49x) none (.mv (.t x1x)) (.cons (some x50x) 
  none (.mv (.t x2x)) (.cons (some x51x) none (.mv (.t x4x)) (.cons (some x52x) none (.call 83 (.cons (.t x48x) (.cons (.t x49x) (.cons (.t x50x) (.cons (.t x51x) .nil))))) (.cons 
  (some x47x) none (.mv (.t x52x)) (.cons (some x53x) none (.ext 0 (.t x47x)) (.cons (some x54x) none (.ext 1 (.t x47x)) (.cons (some x13x) none (.mv (.t x53x)) (.cons (some x14x) 
  none (.mv (.t x54x)) .nil))))))))))) (.seq (.seq (.reg (.cons (some x55x) none (.mv (.t x14x)) (.cons (some x56x) none (.bin .eql (.t x55x) (.c (.n 2))) .nil))) (.cond (.t x56x) 
  (.seq (.reg (.cons (some x57x) none (.mv (.t x0x)) (.cons (some x58x) none (.mv (.t x1x)) (.cons (some x59x) none (.mv (.t x2x)) (.cons (some x60x) none (.mv (.t x4x)) (.cons 
  (some x61x) none (.call 84 (.cons (.t x57x) (.cons (.t x58x) (.cons (.t x59x) (.cons (.t x60x) .nil))))) .nil)))))) (.seq (.reg (.cons (some x62x) none (.mv (.t x2x)) (.cons 
  (some x63x) none (.bin .sub (.t x62x) (.c (.n 1))) (.cons (some x64x) none (.mv (.t x13x)) (.cons (some x65x) none (.mv (.t x1x)) (.cons (some x66x) none (.bin .sub (.t x64x) (.t 
  x65x)) (.cons (some x67x) none (.bin .sub (.t x63x) (.t x66x)) (.cons (some x13x) none (.mv (.t x67x)) .nil)))))))) (.reg (.cons (some x14x) none (.mv (.c (.n 1))) .nil)))) 
  .skip)) (.seq (.seq (.reg (.cons (some x68x) none (.mv (.t x10x)) (.cons (some x69x) none (.mv (.t x68x)) (.cons (some x70x) (some (.mk x69x true)) (.mv (.t x11x)) (.cons (some 
  x71x) none (.pick (.t x69x) (.t x70x) (.c (.b false))) (.cons (some x72x) none (.mv (.t x71x)) (.cons (some x73x) (some (.mk x72x true)) (.mv (.t x14x)) (.cons (some x74x) (some 
  (.mk x72x true)) (.bin .eql (.t x73x) (.c (.n 1))) (.cons (some x75x) none (.pick (.t x72x) (.t x74x) (.c (.b false))) .nil))))))))) (.cond (.t x75x) (.seq (.reg (.cons (some 
  x76x) none (.mv (.t x0x)) (.cons (some x77x) none (.mv (.t x1x)) (.cons (some x78x) none (.mv (.t x2x)) (.cons (some x79x) none (.mv (.t x4x)) (.cons (some x80x) none (.call 85 
  (.cons (.t x76x) (.cons (.t x77x) (.cons (.t x78x) (.cons (.t x79x) .nil))))) .nil)))))) (.cond (.t x80x) .ret .skip)) .skip)) (.seq (.seq (.draw [(.mk (some x81x) none true [] 
  false [] [] [x1x] (.mv (.t x1x)) false [] [] []), (.mk (some x82x) none true [] false [true] [] [x81x] (.bin .gtr (.t x81x) (.c (.n 0))) false [] [] []), (.mk (some x83x) none 
  true [] false [true, true] [] [x82x] (.mv (.t x82x)) false [] [] []), (.mk (some x84x) (some (.mk x83x true)) true [] false [true, true, true] [] [x83x, x4x] (.mv (.t x4x)) false 
  [] [] []), (.mk (some x85x) (some (.mk x83x true)) true [] false [false, true, true, true] [] [x83x, x0x] (.mv (.t x0x)) false [] [] []), (.mk (some x86x) (some (.mk x83x true)) 
  true [] false [false, false, true, true, true] [] [x83x, x1x] (.mv (.t x1x)) false [] [] []), (.mk (some x87x) (some (.mk x83x true)) true [] false [true, false, false, true, 
  true, true] [] [x83x, x86x] (.bin .sub (.t x86x) (.c (.n 1))) false [] [] []), (.mk (some x88x) (some (.mk x83x true)) true [] false [true, true, true, false, true, true, true] 
  [] [x83x, x85x, x87x] (.ixs 2 (.t x85x) (.t x87x)) false [] [] []), (.mk (some x89x) (some (.mk x83x true)) false [] false [true, true, true, true, false, true, true, true] [] 
  [x83x, x88x] (.ld 2 true (.t x88x)) false [] [] []), (.mk (some x90x) (some (.mk x83x true)) true [] false [false, false, false, false, false, false, true, true, true] [] [x83x, 
  x0x] (.mv (.t x0x)) false [] [] []), (.mk (some x91x) (some (.mk x83x true)) true [] false [false, false, false, false, false, false, false, true, true, true] [] [x83x, x13x] 
  (.mv (.t x13x)) false [] [] []), (.mk (some x92x) (some (.mk x83x true)) true [] false [true, true, false, false, false, false, false, false, true, true, true] [] [x83x, x90x, 
  x91x] (.ixs 2 (.t x90x) (.t x91x)) false [] [] []), (.mk (some x93x) (some (.mk x83x true)) false [] false [true, true, true, false, false, false, false, false, false, true, 
  true, true] [] [x83x, x92x] (.ld 2 true (.t x92x)) false [] [] []), (.mk (some x94x) (some (.mk x83x true)) false [] true [true, true, true, true, true, true, true, true, true, 
  true, true, true, true] [] [x83x, x84x, x89x, x93x] (.callv (.t x84x) (.cons (.t x89x) (.cons (.t x93x) .nil))) true [] [] [x0x, x1x]), (.mk (some x95x) (some (.mk x83x true)) 
  true [] false [true, true, true, true, true, true, true, true, true, true, true, true, true, true] [] [x83x, x94x] (.bin .lss (.t x94x) (.c (.n 0))) false [] [] []), (.mk (some 
  x96x) (some (.mk x83x true)) true [] false [true, true, true, true, true, true, true, true, true, true, true, true, true, true, true] [] [x83x, x95x] (.not (.t x95x)) false [] [] 
  []), (.mk (some x97x) none true [] false [true, true, true, true, true, true, true, true, true, true, true, true, true, true, true, true] [] [x83x, x96x] (.pick (.t x83x) (.t 
  x96x) (.c (.b false))) false [] [] [])]) (.cond (.t x97x) (.seq (.reg (.cons (some x98x) none (.mv (.t x0x)) (.cons (some x99x) none (.mv (.t x1x)) (.cons (some x100x) none (.mv 
  (.t x2x)) (.cons (some x101x) none (.mv (.t x13x)) (.cons (some x102x) none (.mv (.t x4x)) (.cons (some x103x) none (.call 86 (.cons (.t x98x) (.cons (.t x99x) (.cons (.t x100x) 
  (.cons (.t x101x) (.cons (.t x102x) .nil)))))) (.cons (some x15x) none (.mv (.t x103x)) .nil)))))))) (.seq (.reg (.cons (some x104x) none (.mv (.t x15x)) (.cons (some x1x) none 
  (.mv (.t x104x)) .nil))) (.exit 1))) .skip)) (.seq (.reg (.cons (some x106x) none (.mv (.t x0x)) (.cons (some x107x) none (.mv (.t x1x)) (.cons (some x108x) none (.mv (.t x2x)) 
  (.cons (some x109x) none (.mv (.t x13x)) (.cons (some x110x) none (.mv (.t x4x)) (.cons (some x111x) none (.call 87 (.cons (.t x106x) (.cons (.t x107x) (.cons (.t x108x) (.cons 
  (.t x109x) (.cons (.t x110x) .nil)))))) (.cons (some x105x) none (.mv (.t x111x)) (.cons (some x112x) none (.ext 0 (.t x105x)) (.cons (some x113x) none (.ext 1 (.t x105x)) (.cons 
  (some x16x) none (.mv (.t x112x)) (.cons (some x17x) none (.mv (.t x113x)) .nil)))))))))))) (.seq (.reg (.cons (some x114x) none (.mv (.t x17x)) (.cons (some x11x) none (.mv (.t 
  x114x)) .nil))) (.seq (.reg (.cons (some x115x) none (.mv (.t x16x)) (.cons (some x116x) none (.mv (.t x1x)) (.cons (some x117x) none (.bin .sub (.t x115x) (.t x116x)) (.cons 
  (some x118x) none (.mv (.t x2x)) (.cons (some x119x) none (.mv (.t x16x)) (.cons (some x120x) none (.bin .sub (.t x118x) (.t x119x)) (.cons (some x18x) none (.mv (.t x117x)) 
  (.cons (some x19x) none (.mv (.t x120x)) .nil))))))))) (.seq (.reg (.cons (some x121x) none (.mv (.t x12x)) (.cons (some x122x) none (.bin .quo (.t x121x) (.c (.n 8))) (.cons 
  (some x20x) none (.mv (.t x122x)) .nil)))) (.seq (.reg (.cons (some x123x) none (.mv (.t x18x)) (.cons (some x124x) none (.mv (.t x19x)) (.cons (some x125x) none (.bin .lss (.t 
  x123x) (.t x124x)) .nil)))) (.cond (.t x125x) (.seq (.reg (.cons (some x126x) none (.mv (.t x18x)) (.cons (some x127x) none (.mv (.t x20x)) (.cons (some x128x) none (.bin .geq 
  (.t x126x) (.t x127x)) (.cons (some x10x) none (.mv (.t x128x)) .nil))))) (.seq (.reg (.cons (some x129x) none (.mv (.t x0x)) (.cons (some x130x) none (.mv (.t x1x)) (.cons (some 
  x131x) none (.mv (.t x16x)) (.cons (some x132x) none (.mv (.t x3x)) (.cons (some x133x) none (.mv (.t x4x)) (.cons (some x134x) none (.call 78 (.cons (.t x129x) (.cons (.t x130x) 
  (.cons (.t x131x) (.cons (.t x132x) (.cons (.t x133x) .nil)))))) .nil))))))) (.reg (.cons (some x135x) none (.mv (.t x16x)) (.cons (some x136x) none (.bin .add (.t x135x) (.c (.n 
  1))) (.cons (some x1x) none (.mv (.t x136x)) .nil)))))) (.seq (.reg (.cons (some x137x) none (.mv (.t x19x)) (.cons (some x138x) none (.mv (.t x20x)) (.cons (some x139x) none 
  (.bin .geq (.t x137x) (.t x138x)) (.cons (some x10x) none (.mv (.t x139x)) .nil))))) (.seq (.reg (.cons (some x140x) none (.mv (.t x0x)) (.cons (some x141x) none (.mv (.t x16x)) 
  (.cons (some x142x) none (.bin .add (.t x141x) (.c (.n 1))) (.cons (some x143x) none (.mv (.t x2x)) (.cons (some x144x) none (.mv (.t x3x)) (.cons (some x145x) none (.mv (.t 
  x4x)) (.cons (some x146x) none (.call 78 (.cons (.t x140x) (.cons (.t x142x) (.cons (.t x143x) (.cons (.t x144x) (.cons (.t x145x) .nil)))))) .nil)))))))) (.reg (.cons (some 
  x147x) none (.mv (.t x16x)) (.cons (some x2x) none (.mv (.t x147x)) .nil)))))))))))))))))))))))) [])
theorem cc78 : compF Tryd.prog drops false false Tryd.f78 = some i78 := by kernel_rfl
noncomputable def i79 : FnI := (.mk true true (.seq (.reg (.cons (some x2x) none (.mv (.c (.n 0))) .nil)) (.seq (.cond (.c (.b false)) (.seq (.reg (.cons (some x3x) none (.mv (.t x0x)) (.cons (some x4x) none 
  (.conv .u32 (.t x3x)) (.cons (some x5x) none (.call 88 (.cons (.t x4x) .nil)) (.cons (some x2x) none (.mv (.t x5x)) .nil))))) .ret) .skip) (.seq (.reg (.cons (some x6x) none (.mv 
  (.t x0x)) (.cons (some x7x) none (.call 89 (.cons (.t x6x) .nil)) (.cons (some x2x) none (.mv (.t x7x)) .nil)))) .ret))) [(.tmp x2x)])
theorem cc79 : compF Tryd.prog drops true true Tryd.f79 = some i79 := by kernel_rfl
noncomputable def i80 : FnI := (.mk false false (.seq (.reg (.cons (some x10x) none (.mv (.t x1x)) (.cons (some x11x) none (.bin .add (.t x10x) (.c (.n 1))) (.cons (some x8x) none (.mv (.t x11x)) .nil)))) 
  (.block 0 (.loop (.seq (.seq (.reg (.cons (some x12x) none (.mv (.t x8x)) (.cons (some x13x) none (.mv (.t x2x)) (.cons (some x14x) none (.bin .lss (.t x12x) (.t x13x)) .nil)))) 
  (.cond (.t x14x) .skip (.exit 0))) (.seq (.block 1 (.seq (.reg (.cons (some x17x) none (.mv (.t x8x)) (.cons (some x9x) none (.mv (.t x17x)) .nil))) (.block 2 (.loop (.seq (.seq 
  (.draw [(.mk (some x18x) none true [] false [] [] [x9x] (.mv (.t x9x)) false [] [] []), (.mk (some x19x) none true [] false [false] [] [x1x] (.mv (.t x1x)) false [] [] []), (.mk 
  (some x20x) none true [] false [true, true] [] [x18x, x19x] (.bin .gtr (.t x18x) (.t x19x)) false [] [] []), (.mk (some x21x) none true [] false [true, true, true] [] [x20x] (.mv 
  (.t x20x)) false [] [] []), (.mk (some x22x) (some (.mk x21x true)) true [] false [true, true, true, true] [] [x21x, x3x] (.mv (.t x3x)) false [] [] []), (.mk (some x23x) (some 
  (.mk x21x true)) true [] false [false, true, true, true, true] [] [x21x, x0x] (.mv (.t x0x)) false [] [] []), (.mk (some x24x) (some (.mk x21x true)) true [] false [false, false, 
  true, true, true, true] [] [x21x, x9x] (.mv (.t x9x)) false [] [] []), (.mk (some x25x) (some (.mk x21x true)) true [] false [true, true, false, true, true, true, true] [] [x21x, 
  x23x, x24x] (.ixs 2 (.t x23x) (.t x24x)) false [] [] []), (.mk (some x26x) (some (.mk x21x true)) false [] false [true, true, true, false, true, true, true, true] [] [x21x, x25x] 
  (.ld 2 true (.t x25x)) false [] [] []), (.mk (some x27x) (some (.mk x21x true)) true [] false [false, false, false, false, false, true, true, true, true] [] [x21x, x0x] (.mv (.t 
  x0x)) false [] [] []), (.mk (some x28x) (some (.mk x21x true)) true [] false [false, false, false, false, false, false, true, true, true, true] [] [x21x, x9x] (.mv (.t x9x)) 
  false [] [] []), (.mk (some x29x) (some (.mk x21x true)) true [] false [true, false, false, false, false, false, false, true, true, true, true] [] [x21x, x28x] (.bin .sub (.t 
  x28x) (.c (.n 1))) false [] [] []), (.mk (some x30x) (some (.mk x21x true)) true [] false [true, true, true, false, false, false, false, false, true, true, true, true] [] [x21x, 
  x27x, x29x] (.ixs 2 (.t x27x) (.t x29x)) false [] [] []), (.mk (some x31x) (some (.mk x21x true)) false [] false [true, true, true, true, false, false, false, false, false, true, 
  true, true, true] [] [x21x, x30x] (.ld 2 true (.t x30x)) false [] [] []), (.mk (some x32x) (some (.mk x21x true)) false [] true [true, true, true, true, true, true, true, true, 
  true, true, true, true, true, true] [] [x21x, x22x, x26x, x31x] (.callv (.t x22x) (.cons (.t x26x) (.cons (.t x31x) .nil))) true [] [] [x0x, x1x]), (.mk (some x33x) (some (.mk 
  x21x true)) true [] false [true, true, true, true, true, true, true, true, true, true, true, true, true, true, true] [] [x21x, x32x] (.bin .lss (.t x32x) (.c (.n 0))) false [] [] 
  []), (.mk (some x34x) none true [] false [true, true, true, true, true, true, true, true, true, true, true, true, true, true, true, true] [] [x21x, x33x] (.pick (.t x21x) (.t 
  x33x) (.c (.b false))) false [] [] [])]) (.cond (.t x34x) .skip (.exit 2))) (.seq (.block 3 (.draw [(.mk (some x37x) none true [] false [] [] [x0x] (.mv (.t x0x)) false [] [] 
  []), (.mk (some x38x) none true [] false [false] [] [x9x] (.mv (.t x9x)) false [] [] []), (.mk (some x39x) none true [] false [false, false] [x51x] [x0x] (.mv (.t x0x)) false [] 
  [] []), (.mk (some x40x) none true [] false [false, false, false] [x51x] [x9x] (.mv (.t x9x)) false [] [] []), (.mk (some x41x) none true [] false [true, false, false, false] 
  [x51x] [x40x] (.bin .sub (.t x40x) (.c (.n 1))) false [] [] []), (.mk (some x42x) none true [] false [false, false, false, false, false] [] [x0x] (.mv (.t x0x)) false [] [] []), 
  (.mk (some x43x) none true [] false [false, false, false, false, false, false] [] [x9x] (.mv (.t x9x)) false [] [] []), (.mk (some x44x) none true [] false [true, false, false, 
  false, false, false, false] [] [x43x] (.bin .sub (.t x43x) (.c (.n 1))) false [] [] []), (.mk (some x45x) none true [] false [true, true, true, false, false, false, false, false] 
  [] [x42x, x44x] (.ixs 2 (.t x42x) (.t x44x)) false [] [] []), (.mk (some x46x) none false [] false [true, true, true, true, false, false, false, false, false] [] [x45x] (.ld 2 
  true (.t x45x)) false [] [] []), (.mk (some x47x) none true [] false [false, false, false, false, false, false, false, false, false, false] [] [x0x] (.mv (.t x0x)) false [] [] 
  []), (.mk (some x48x) none true [] false [false, false, false, false, false, false, false, false, false, false, false] [] [x9x] (.mv (.t x9x)) false [] [] []), (.mk (some x49x) 
  none true [] false [true, true, false, false, false, false, false, false, false, false, false, false] [] [x47x, x48x] (.ixs 2 (.t x47x) (.t x48x)) false [] [] []), (.mk (some 
  x50x) none false [] false [true, true, true, false, false, false, false, false, false, false, false, false, false] [] [x49x] (.ld 2 true (.t x49x)) false [] [] []), (.mk (some 
  x51x) none true [] false [true, true, true, true, true, true, true, true, true, false, false, false, true, true] [] [x37x, x38x] (.ixs 2 (.t x37x) (.t x38x)) false [] [] []), 
  (.mk none none false [x51x] false [true, true, true, true, true, true, true, true, true, true, false, false, false, true, true] [] [x51x, x46x] (.st 2 (.t x51x) (.t x46x)) false 
  [] [] []), (.mk (some x52x) none true [] false [true, true, true, true, true, true, true, true, true, true, true, true, true, true, true, true] [] [x39x, x41x] (.ixs 2 (.t x39x) 
  (.t x41x)) false [] [] []), (.mk none none false [x52x] false [true, true, true, true, true, true, true, true, true, true, true, true, true, true, true, true, true] [] [x52x, 
  x50x] (.st 2 (.t x52x) (.t x50x)) false [] [] [])])) (.reg (.cons (some x35x) none (.mv (.t x9x)) (.cons (some x36x) none (.bin .sub (.t x35x) (.c (.n 1))) (.cons (some x9x) none 
  (.mv (.t x36x)) .nil)))))))))) (.reg (.cons (some x15x) none (.mv (.t x8x)) (.cons (some x16x) none (.bin .add (.t x15x) (.c (.n 1))) (.cons (some x8x) none (.mv (.t x16x)) 
  .nil))))))))) [])
theorem cc80 : compF Tryd.prog drops false false Tryd.f80 = some i80 := by kernel_rfl
noncomputable def i88 : FnI := (.mk true true (.seq (.reg (.cons (some x2x) none (.mv (.c (.n 0))) .nil)) (.seq (.seq (.reg (.cons (some x3x) none (.mv (.t x0x)) (.cons (some x4x) none (.bin .geq (.t x3x) (.c 
  (.i .u32 (.ofNat 65536)))) .nil))) (.cond (.t x4x) (.seq (.reg (.cons (some x5x) none (.mv (.t x0x)) (.cons (some x6x) none (.bin .shr (.t x5x) (.c (.i .u64 (.ofNat 16)))) (.cons 
  (some x0x) none (.mv (.t x6x)) .nil)))) (.reg (.cons (some x2x) none (.mv (.c (.n 16))) .nil))) .skip)) (.seq (.seq (.reg (.cons (some x7x) none (.mv (.t x0x)) (.cons (some x8x) 
  none (.bin .geq (.t x7x) (.c (.i .u32 (.ofNat 256)))) .nil))) (.cond (.t x8x) (.seq (.reg (.cons (some x9x) none (.mv (.t x0x)) (.cons (some x10x) none (.bin .shr (.t x9x) (.c 
  (.i .u64 (.ofNat 8)))) (.cons (some x0x) none (.mv (.t x10x)) .nil)))) (.reg (.cons (some x11x) none (.mv (.t x2x)) (.cons (some x12x) none (.bin .add (.t x11x) (.c (.n 8))) 
  (.cons (some x2x) none (.mv (.t x12x)) .nil))))) .skip)) (.seq (.reg (.cons (some x13x) none (.mv (.t x2x)) (.cons (some x14x) none (.mv (.t x0x)) (.cons (some x15x) none (.conv 
  .u8 (.t x14x)) (.cons (some x16x) none (.six (.c (.s [0, 1, 2, 2, 3, 3, 3, 3, 4, 4, 4, 4, 4, 4, 4, 4, 5, 5, 5, 5, 5, 5, 5, 5, 5, 5, 5, 5, 5, 5, 5, 5, 6, 6, 6, 6, 6, 6, 6, 6, 6, 
  6, 6, 6, 6, 6, 6, 6, 6, 6, 6, 6, 6, 6, 6, 6, 6, 6, 6, 6, 6, 6, 6, 6, 7, 7, 7, 7, 7, 7, 7, 7, 7, 7, 7, 7, 7, 7, 7, 7, 7, 7, 7, 7, 7, 7, 7, 7, 7, 7, 7, 7, 7, 7, 7, 7, 7, 7, 7, 7, 
  7, 7, 7, 7, 7, 7, 7, 7, 7, 7, 7, 7, 7, 7, 7, 7, 7, 7, 7, 7, 7, 7, 7, 7, 7, 7, 7, 7, 8, 8, 8, 8, 8, 8, 8, 8, 8, 8, 8, 8, 8, 8, 8, 8, 8, 8, 8, 8, 8, 8, 8, 8, 8, 8, 8, 8, 8, 8, 8, 
  8, 8, 8, 8, 8, 8, 8, 8, 8, 8, 8, 8, 8, 8, 8, 8, 8, 8, 8, 8, 8, 8, 8, 8, 8, 8, 8, 8, 8, 8, 8, 8, 8, 8, 8, 8, 8, 8, 8, 8, 8, 8, 8, 8, 8, 8, 8, 8, 8, 8, 8, 8, 8, 8, 8, 8, 8, 8, 8, 
  8, 8, 8, 8, 8, 8, 8, 8, 8, 8, 8, 8, 8, 8, 8, 8, 8, 8, 8, 8, 8, 8, 8, 8, 8, 8, 8, 8, 8, 8, 8, 8, 8, 8, 8, 8, 8, 8])) (.t x15x)) (.cons (some x17x) none (.conv .i64 (.t x16x)) 
  (.cons (some x18x) none (.bin .add (.t x13x) (.t x17x)) (.cons (some x2x) none (.mv (.t x18x)) .nil)))))))) .ret)))) [(.tmp x2x)])
theorem cc88 : compF Tryd.prog drops true true Tryd.f88 = some i88 := by kernel_rfl
noncomputable def i89 : FnI := (.mk true true (.seq (.reg (.cons (some x2x) none (.mv (.c (.n 0))) .nil)) (.seq (.seq (.reg (.cons (some x3x) none (.mv (.t x0x)) (.cons (some x4x) none (.bin .geq (.t x3x) (.c 
  (.i .u64 (.ofNat 4294967296)))) .nil))) (.cond (.t x4x) (.seq (.reg (.cons (some x5x) none (.mv (.t x0x)) (.cons (some x6x) none (.bin .shr (.t x5x) (.c (.i .u64 (.ofNat 32)))) 
  (.cons (some x0x) none (.mv (.t x6x)) .nil)))) (.reg (.cons (some x2x) none (.mv (.c (.n 32))) .nil))) .skip)) (.seq (.seq (.reg (.cons (some x7x) none (.mv (.t x0x)) (.cons 
  (some x8x) none (.bin .geq (.t x7x) (.c (.i .u64 (.ofNat 65536)))) .nil))) (.cond (.t x8x) (.seq (.reg (.cons (some x9x) none (.mv (.t x0x)) (.cons (some x10x) none (.bin .shr 
  (.t x9x) (.c (.i .u64 (.ofNat 16)))) (.cons (some x0x) none (.mv (.t x10x)) .nil)))) (.reg (.cons (some x11x) none (.mv (.t x2x)) (.cons (some x12x) none (.bin .add (.t x11x) (.c 
  (.n 16))) (.cons (some x2x) none (.mv (.t x12x)) .nil))))) .skip)) (.seq (.seq (.reg (.cons (some x13x) none (.mv (.t x0x)) (.cons (some x14x) none (.bin .geq (.t x13x) (.c (.i 
  .u64 (.ofNat 256)))) .nil))) (.cond (.t x14x) (.seq (.reg (.cons (some x15x) none (.mv (.t x0x)) (.cons (some x16x) none (.bin .shr (.t x15x) (.c (.i .u64 (.ofNat 8)))) (.cons 
  (some x0x) none (.mv (.t x16x)) .nil)))) (.reg (.cons (some x17x) none (.mv (.t x2x)) (.cons (some x18x) none (.bin .add (.t x17x) (.c (.n 8))) (.cons (some x2x) none (.mv (.t 
  x18x)) .nil))))) .skip)) (.seq (.reg (.cons (some x19x) none (.mv (.t x2x)) (.cons (some x20x) none (.mv (.t x0x)) (.cons (some x21x) none (.conv .u8 (.t x20x)) (.cons (some 
  x22x) none (.six (.c (.s [0, 1, 2, 2, 3, 3, 3, 3, 4, 4, 4, 4, 4, 4, 4, 4, 5, 5, 5, 5, 5, 5, 5, 5, 5, 5, 5, 5, 5, 5, 5, 5, 6, 6, 6, 6, 6, 6, 6, 6, 6, 6, 6, 6, 6, 6, 6, 6, 6, 6, 6, 
  6, 6, 6, 6, 6, 6, 6, 6, 6, 6, 6, 6, 6, 7, 7, 7, 7, 7, 7, 7, 7, 7, 7, 7, 7, 7, 7, 7, 7, 7, 7, 7, 7, 7, 7, 7, 7, 7, 7, 7, 7, 7, 7, 7, 7, 7, 7, 7, 7, 7, 7, 7, 7, 7, 7, 7, 7, 7, 7, 
  7, 7, 7, 7, 7, 7, 7, 7, 7, 7, 7, 7, 7, 7, 7, 7, 7, 7, 8, 8, 8, 8, 8, 8, 8, 8, 8, 8, 8, 8, 8, 8, 8, 8, 8, 8, 8, 8, 8, 8, 8, 8, 8, 8, 8, 8, 8, 8, 8, 8, 8, 8, 8, 8, 8, 8, 8, 8, 8, 
  8, 8, 8, 8, 8, 8, 8, 8, 8, 8, 8, 8, 8, 8, 8, 8, 8, 8, 8, 8, 8, 8, 8, 8, 8, 8, 8, 8, 8, 8, 8, 8, 8, 8, 8, 8, 8, 8, 8, 8, 8, 8, 8, 8, 8, 8, 8, 8, 8, 8, 8, 8, 8, 8, 8, 8, 8, 8, 8, 
  8, 8, 8, 8, 8, 8, 8, 8, 8, 8, 8, 8, 8, 8, 8, 8, 8, 8, 8, 8, 8, 8, 8, 8, 8, 8, 8, 8])) (.t x21x)) (.cons (some x23x) none (.conv .i64 (.t x22x)) (.cons (some x24x) none (.bin .add 
  (.t x19x) (.t x23x)) (.cons (some x2x) none (.mv (.t x24x)) .nil)))))))) .ret))))) [(.tmp x2x)])
theorem cc89 : compF Tryd.prog drops true true Tryd.f89 = some i89 := by kernel_rfl
noncomputable def fs89 : List (Nat × FnI) := (89, i89) :: []
theorem l89 : Listed Tryd.prog fs89 := listed_cons Tryd.func89 cc89 listed_nil (by decide)
noncomputable def fs88 : List (Nat × FnI) := (88, i88) :: fs89
theorem l88 : Listed Tryd.prog fs88 := listed_cons Tryd.func88 cc88 l89 (by decide)
noncomputable def fs80 : List (Nat × FnI) := (80, i80) :: fs88
theorem l80 : Listed Tryd.prog fs80 := listed_cons Tryd.func80 cc80 l88 (by decide)
noncomputable def fs79 : List (Nat × FnI) := (79, i79) :: fs80
theorem l79 : Listed Tryd.prog fs79 := listed_cons Tryd.func79 cc79 l80 (by decide)
noncomputable def fs78 : List (Nat × FnI) := (78, i78) :: fs79
theorem l78 : Listed Tryd.prog fs78 := listed_cons Tryd.func78 cc78 l79 (by decide)
noncomputable def fs77 : List (Nat × FnI) := (77, i77) :: fs78
theorem l77 : Listed Tryd.prog fs77 := listed_cons Tryd.func77 cc77 l78 (by decide)
noncomputable def fs76 : List (Nat × FnI) := (76, i76) :: fs77
theorem l76 : Listed Tryd.prog fs76 := listed_cons Tryd.func76 cc76 l77 (by decide)
noncomputable def fs75 : List (Nat × FnI) := (75, i75) :: fs76
theorem l75 : Listed Tryd.prog fs75 := listed_cons Tryd.func75 cc75 l76 (by decide)
noncomputable def fs74 : List (Nat × FnI) := (74, i74) :: fs75
theorem l74 : Listed Tryd.prog fs74 := listed_cons Tryd.func74 cc74 l75 (by decide)
noncomputable def fs73 : List (Nat × FnI) := (73, i73) :: fs74
theorem l73 : Listed Tryd.prog fs73 := listed_cons Tryd.func73 cc73 l74 (by decide)
noncomputable def fs72 : List (Nat × FnI) := (72, i72) :: fs73
theorem l72 : Listed Tryd.prog fs72 := listed_cons Tryd.func72 cc72 l73 (by decide)
noncomputable def fs71 : List (Nat × FnI) := (71, i71) :: fs72
theorem l71 : Listed Tryd.prog fs71 := listed_cons Tryd.func71 cc71 l72 (by decide)
noncomputable def fs70 : List (Nat × FnI) := (70, i70) :: fs71
theorem l70 : Listed Tryd.prog fs70 := listed_cons Tryd.func70 cc70 l71 (by decide)
noncomputable def fs69 : List (Nat × FnI) := (69, i69) :: fs70
theorem l69 : Listed Tryd.prog fs69 := listed_cons Tryd.func69 cc69 l70 (by decide)
noncomputable def fs68 : List (Nat × FnI) := (68, i68) :: fs69
theorem l68 : Listed Tryd.prog fs68 := listed_cons Tryd.func68 cc68 l69 (by decide)
noncomputable def fs67 : List (Nat × FnI) := (67, i67) :: fs68
theorem l67 : Listed Tryd.prog fs67 := listed_cons Tryd.func67 cc67 l68 (by decide)
noncomputable def fs66 : List (Nat × FnI) := (66, i66) :: fs67
theorem l66 : Listed Tryd.prog fs66 := listed_cons Tryd.func66 cc66 l67 (by decide)
noncomputable def fs65 : List (Nat × FnI) := (65, i65) :: fs66
theorem l65 : Listed Tryd.prog fs65 := listed_cons Tryd.func65 cc65 l66 (by decide)
noncomputable def fs64 : List (Nat × FnI) := (64, i64) :: fs65
theorem l64 : Listed Tryd.prog fs64 := listed_cons Tryd.func64 cc64 l65 (by decide)
noncomputable def fs63 : List (Nat × FnI) := (63, i63) :: fs64
theorem l63 : Listed Tryd.prog fs63 := listed_cons Tryd.func63 cc63 l64 (by decide)
noncomputable def fs62 : List (Nat × FnI) := (62, i62) :: fs63
theorem l62 : Listed Tryd.prog fs62 := listed_cons Tryd.func62 cc62 l63 (by decide)
noncomputable def fs61 : List (Nat × FnI) := (61, i61) :: fs62
theorem l61 : Listed Tryd.prog fs61 := listed_cons Tryd.func61 cc61 l62 (by decide)
noncomputable def fs60 : List (Nat × FnI) := (60, i60) :: fs61
theorem l60 : Listed Tryd.prog fs60 := listed_cons Tryd.func60 cc60 l61 (by decide)
noncomputable def fs59 : List (Nat × FnI) := (59, i59) :: fs60
theorem l59 : Listed Tryd.prog fs59 := listed_cons Tryd.func59 cc59 l60 (by decide)
noncomputable def fs58 : List (Nat × FnI) := (58, i58) :: fs59
theorem l58 : Listed Tryd.prog fs58 := listed_cons Tryd.func58 cc58 l59 (by decide)
noncomputable def fs57 : List (Nat × FnI) := (57, i57) :: fs58
theorem l57 : Listed Tryd.prog fs57 := listed_cons Tryd.func57 cc57 l58 (by decide)
noncomputable def fs56 : List (Nat × FnI) := (56, i56) :: fs57
theorem l56 : Listed Tryd.prog fs56 := listed_cons Tryd.func56 cc56 l57 (by decide)
noncomputable def fs55 : List (Nat × FnI) := (55, i55) :: fs56
theorem l55 : Listed Tryd.prog fs55 := listed_cons Tryd.func55 cc55 l56 (by decide)
noncomputable def fs54 : List (Nat × FnI) := (54, i54) :: fs55
theorem l54 : Listed Tryd.prog fs54 := listed_cons Tryd.func54 cc54 l55 (by decide)
noncomputable def fs53 : List (Nat × FnI) := (53, i53) :: fs54
theorem l53 : Listed Tryd.prog fs53 := listed_cons Tryd.func53 cc53 l54 (by decide)
noncomputable def fs52 : List (Nat × FnI) := (52, i52) :: fs53
theorem l52 : Listed Tryd.prog fs52 := listed_cons Tryd.func52 cc52 l53 (by decide)
noncomputable def fs51 : List (Nat × FnI) := (51, i51) :: fs52
theorem l51 : Listed Tryd.prog fs51 := listed_cons Tryd.func51 cc51 l52 (by decide)
noncomputable def fs50 : List (Nat × FnI) := (50, i50) :: fs51
theorem l50 : Listed Tryd.prog fs50 := listed_cons Tryd.func50 cc50 l51 (by decide)
noncomputable def fs49 : List (Nat × FnI) := (49, i49) :: fs50
theorem l49 : Listed Tryd.prog fs49 := listed_cons Tryd.func49 cc49 l50 (by decide)
noncomputable def fs48 : List (Nat × FnI) := (48, i48) :: fs49
theorem l48 : Listed Tryd.prog fs48 := listed_cons Tryd.func48 cc48 l49 (by decide)
noncomputable def fs47 : List (Nat × FnI) := (47, i47) :: fs48
theorem l47 : Listed Tryd.prog fs47 := listed_cons Tryd.func47 cc47 l48 (by decide)
noncomputable def fs46 : List (Nat × FnI) := (46, i46) :: fs47
theorem l46 : Listed Tryd.prog fs46 := listed_cons Tryd.func46 cc46 l47 (by decide)
noncomputable def fs45 : List (Nat × FnI) := (45, i45) :: fs46
theorem l45 : Listed Tryd.prog fs45 := listed_cons Tryd.func45 cc45 l46 (by decide)
noncomputable def fs44 : List (Nat × FnI) := (44, i44) :: fs45
theorem l44 : Listed Tryd.prog fs44 := listed_cons Tryd.func44 cc44 l45 (by decide)
noncomputable def fs43 : List (Nat × FnI) := (43, i43) :: fs44
theorem l43 : Listed Tryd.prog fs43 := listed_cons Tryd.func43 cc43 l44 (by decide)
noncomputable def fs42 : List (Nat × FnI) := (42, i42) :: fs43
theorem l42 : Listed Tryd.prog fs42 := listed_cons Tryd.func42 cc42 l43 (by decide)
noncomputable def fs41 : List (Nat × FnI) := (41, i41) :: fs42
theorem l41 : Listed Tryd.prog fs41 := listed_cons Tryd.func41 cc41 l42 (by decide)
noncomputable def fs40 : List (Nat × FnI) := (40, i40) :: fs41
theorem l40 : Listed Tryd.prog fs40 := listed_cons Tryd.func40 cc40 l41 (by decide)
noncomputable def fs39 : List (Nat × FnI) := (39, i39) :: fs40
theorem l39 : Listed Tryd.prog fs39 := listed_cons Tryd.func39 cc39 l40 (by decide)
noncomputable def fs38 : List (Nat × FnI) := (38, i38) :: fs39
theorem l38 : Listed Tryd.prog fs38 := listed_cons Tryd.func38 cc38 l39 (by decide)
noncomputable def fs37 : List (Nat × FnI) := (37, i37) :: fs38
theorem l37 : Listed Tryd.prog fs37 := listed_cons Tryd.func37 cc37 l38 (by decide)
noncomputable def fs36 : List (Nat × FnI) := (36, i36) :: fs37
theorem l36 : Listed Tryd.prog fs36 := listed_cons Tryd.func36 cc36 l37 (by decide)
noncomputable def fs35 : List (Nat × FnI) := (35, i35) :: fs36
theorem l35 : Listed Tryd.prog fs35 := listed_cons Tryd.func35 cc35 l36 (by decide)
noncomputable def fs34 : List (Nat × FnI) := (34, i34) :: fs35
theorem l34 : Listed Tryd.prog fs34 := listed_cons Tryd.func34 cc34 l35 (by decide)
noncomputable def fs33 : List (Nat × FnI) := (33, i33) :: fs34
theorem l33 : Listed Tryd.prog fs33 := listed_cons Tryd.func33 cc33 l34 (by decide)
noncomputable def fs32 : List (Nat × FnI) := (32, i32) :: fs33
theorem l32 : Listed Tryd.prog fs32 := listed_cons Tryd.func32 cc32 l33 (by decide)
noncomputable def fs31 : List (Nat × FnI) := (31, i31) :: fs32
theorem l31 : Listed Tryd.prog fs31 := listed_cons Tryd.func31 cc31 l32 (by decide)
noncomputable def fs30 : List (Nat × FnI) := (30, i30) :: fs31
theorem l30 : Listed Tryd.prog fs30 := listed_cons Tryd.func30 cc30 l31 (by decide)
noncomputable def fs29 : List (Nat × FnI) := (29, i29) :: fs30
theorem l29 : Listed Tryd.prog fs29 := listed_cons Tryd.func29 cc29 l30 (by decide)
noncomputable def fs28 : List (Nat × FnI) := (28, i28) :: fs29
theorem l28 : Listed Tryd.prog fs28 := listed_cons Tryd.func28 cc28 l29 (by decide)
noncomputable def fs27 : List (Nat × FnI) := (27, i27) :: fs28
theorem l27 : Listed Tryd.prog fs27 := listed_cons Tryd.func27 cc27 l28 (by decide)
noncomputable def fs26 : List (Nat × FnI) := (26, i26) :: fs27
theorem l26 : Listed Tryd.prog fs26 := listed_cons Tryd.func26 cc26 l27 (by decide)
noncomputable def fs25 : List (Nat × FnI) := (25, i25) :: fs26
theorem l25 : Listed Tryd.prog fs25 := listed_cons Tryd.func25 cc25 l26 (by decide)
noncomputable def fs24 : List (Nat × FnI) := (24, i24) :: fs25
theorem l24 : Listed Tryd.prog fs24 := listed_cons Tryd.func24 cc24 l25 (by decide)
noncomputable def fs23 : List (Nat × FnI) := (23, i23) :: fs24
theorem l23 : Listed Tryd.prog fs23 := listed_cons Tryd.func23 cc23 l24 (by decide)
noncomputable def fs22 : List (Nat × FnI) := (22, i22) :: fs23
theorem l22 : Listed Tryd.prog fs22 := listed_cons Tryd.func22 cc22 l23 (by decide)
noncomputable def fs21 : List (Nat × FnI) := (21, i21) :: fs22
theorem l21 : Listed Tryd.prog fs21 := listed_cons Tryd.func21 cc21 l22 (by decide)
noncomputable def fs20 : List (Nat × FnI) := (20, i20) :: fs21
theorem l20 : Listed Tryd.prog fs20 := listed_cons Tryd.func20 cc20 l21 (by decide)
noncomputable def fs19 : List (Nat × FnI) := (19, i19) :: fs20
theorem l19 : Listed Tryd.prog fs19 := listed_cons Tryd.func19 cc19 l20 (by decide)
noncomputable def fs18 : List (Nat × FnI) := (18, i18) :: fs19
theorem l18 : Listed Tryd.prog fs18 := listed_cons Tryd.func18 cc18 l19 (by decide)
noncomputable def fs17 : List (Nat × FnI) := (17, i17) :: fs18
theorem l17 : Listed Tryd.prog fs17 := listed_cons Tryd.func17 cc17 l18 (by decide)
noncomputable def fs16 : List (Nat × FnI) := (16, i16) :: fs17
theorem l16 : Listed Tryd.prog fs16 := listed_cons Tryd.func16 cc16 l17 (by decide)
noncomputable def fs15 : List (Nat × FnI) := (15, i15) :: fs16
theorem l15 : Listed Tryd.prog fs15 := listed_cons Tryd.func15 cc15 l16 (by decide)
noncomputable def fs14 : List (Nat × FnI) := (14, i14) :: fs15
theorem l14 : Listed Tryd.prog fs14 := listed_cons Tryd.func14 cc14 l15 (by decide)
noncomputable def fs13 : List (Nat × FnI) := (13, i13) :: fs14
theorem l13 : Listed Tryd.prog fs13 := listed_cons Tryd.func13 cc13 l14 (by decide)
noncomputable def fs12 : List (Nat × FnI) := (12, i12) :: fs13
theorem l12 : Listed Tryd.prog fs12 := listed_cons Tryd.func12 cc12 l13 (by decide)
noncomputable def fs11 : List (Nat × FnI) := (11, i11) :: fs12
theorem l11 : Listed Tryd.prog fs11 := listed_cons Tryd.func11 cc11 l12 (by decide)
noncomputable def fs10 : List (Nat × FnI) := (10, i10) :: fs11
theorem l10 : Listed Tryd.prog fs10 := listed_cons Tryd.func10 cc10 l11 (by decide)
noncomputable def fs9 : List (Nat × FnI) := (9, i9) :: fs10
theorem l9 : Listed Tryd.prog fs9 := listed_cons Tryd.func9 cc9 l10 (by decide)
noncomputable def fs8 : List (Nat × FnI) := (8, i8) :: fs9
theorem l8 : Listed Tryd.prog fs8 := listed_cons Tryd.func8 cc8 l9 (by decide)
noncomputable def fs7 : List (Nat × FnI) := (7, i7) :: fs8
theorem l7 : Listed Tryd.prog fs7 := listed_cons Tryd.func7 cc7 l8 (by decide)
noncomputable def fs6 : List (Nat × FnI) := (6, i6) :: fs7
theorem l6 : Listed Tryd.prog fs6 := listed_cons Tryd.func6 cc6 l7 (by decide)
noncomputable def fs5 : List (Nat × FnI) := (5, i5) :: fs6
theorem l5 : Listed Tryd.prog fs5 := listed_cons Tryd.func5 cc5 l6 (by decide)
noncomputable def fs4 : List (Nat × FnI) := (4, i4) :: fs5
theorem l4 : Listed Tryd.prog fs4 := listed_cons Tryd.func4 cc4 l5 (by decide)
noncomputable def fs3 : List (Nat × FnI) := (3, i3) :: fs4
theorem l3 : Listed Tryd.prog fs3 := listed_cons Tryd.func3 cc3 l4 (by decide)
noncomputable def FS : List (Nat × FnI) := fs3
theorem listed : Listed Tryd.prog FS := l3
noncomputable def cmp : Nat → Code → Option IC := fun N c => compC Tryd.prog drops N c
noncomputable def PRT : FT := FT.of FS
noncomputable def EQ (W : FF → FF) (d : Nat) : FF := evQ cmp PRT W d
noncomputable def EF (d : Nat) : FF := EQ (fun G => G) d
theorem follows : Tryd.prog.follows .mixedOrders = true := by kernel_rfl
theorem EQ_ok {W : FF → FF} (hM : ∀ G, FF.mono G → (W G).mono) (hW : ∀ G, FOK Tryd.prog G → FOK Tryd.prog (W G)) (d : Nat) : FOK Tryd.prog (EQ W d) := evQ_sound follows listed hM hW d
theorem EQ_mono {W : FF → FF} (hM : ∀ G, FF.mono G → (W G).mono) (d : Nat) : (EQ W d).mono := evQ_mono _ _ hM d
theorem EF_ok (d : Nat) : FOK Tryd.prog (EF d) := EQ_ok (fun _ h => h) (fun _ h => h) d
theorem EF_mono (d : Nat) : (EF d).mono := EQ_mono (fun _ h => h) d
def zs64 : List Int := [0, 1, 56, 2, 57, 49, 28, 3, 61, 58, 42, 50, 38, 29, 17, 4, 62, 47, 59, 36, 45, 43, 51, 22, 53, 39, 33, 30, 24, 18, 12, 5, 63, 55, 48, 27, 60, 41, 37, 16, 46, 35, 44, 21, 52, 32, 23, 11, 54, 26, 40, 15, 34, 20, 31, 10, 25, 14, 19, 9, 13, 8, 7, 6]
noncomputable def tbH (el : TypeId) : Hp := tabH [(1, el, kL .u8 zs64)]
end Go.Proofs.YtagjnlnnecidnaaDoor.Ev
