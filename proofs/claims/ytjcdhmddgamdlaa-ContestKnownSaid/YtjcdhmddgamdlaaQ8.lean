/- The texts TkcL. -/
import Derived.Test.YtjcdhmddgamdlaaQ6
import Derived.Test.YtjcdhmddgamdlaaQ7
import Derived.Test.YtjcdhmddgamdlaaProg
import Derived.KernelRfl
/- The compiled code of the functions of layer 2, in full. -/
namespace Go.Proofs.Ytjcdhmddgamdlaa.Ev
set_option linter.unusedVariables false
set_option maxRecDepth 100000
open Go Go.Proofs Go.RowKit
def drops : List Nat := [3, 7, 8, 14, 15, 17, 19, 21, 22, 23, 24, 27, 29, 30, 34, 39, 40, 42, 43, 45, 46, 50, 51, 53, 54, 1000036, 1000037, 1000047, 1000052, 1000055, 1000056, 1000057, 1000058, 1000059, 2000000, 5000000]
def x0x : Pos := .h
def x1x : Pos := (.o .h)
def x2x : Pos := (.i .h)
def x3x : Pos := (.o (.o .h))
def x4x : Pos := (.i (.o .h))
def x5x : Pos := (.o (.i .h))
def x6x : Pos := (.i (.i .h))
def x7x : Pos := (.o (.o (.o .h)))
def x8x : Pos := (.i (.o (.o .h)))
def x9x : Pos := (.o (.i (.o .h)))
def x10x : Pos := (.i (.i (.o .h)))
def x11x : Pos := (.o (.o (.i .h)))
def x12x : Pos := (.i (.o (.i .h)))
def x13x : Pos := (.o (.i (.i .h)))
def x14x : Pos := (.i (.i (.i .h)))
def x15x : Pos := (.o (.o (.o (.o .h))))
def x16x : Pos := (.i (.o (.o (.o .h))))
def x17x : Pos := (.o (.i (.o (.o .h))))
def x18x : Pos := (.i (.i (.o (.o .h))))
def x19x : Pos := (.o (.o (.i (.o .h))))
def x20x : Pos := (.i (.o (.i (.o .h))))
def x21x : Pos := (.o (.i (.i (.o .h))))
def x22x : Pos := (.i (.i (.i (.o .h))))
def x23x : Pos := (.o (.o (.o (.i .h))))
def x24x : Pos := (.i (.o (.o (.i .h))))
def x25x : Pos := (.o (.i (.o (.i .h))))
def x26x : Pos := (.i (.i (.o (.i .h))))
def x27x : Pos := (.o (.o (.i (.i .h))))
def x28x : Pos := (.i (.o (.i (.i .h))))
def x29x : Pos := (.o (.i (.i (.i .h))))
def x30x : Pos := (.i (.i (.i (.i .h))))
def x31x : Pos := (.o (.o (.o (.o (.o .h)))))
def x32x : Pos := (.i (.o (.o (.o (.o .h)))))
def x33x : Pos := (.o (.i (.o (.o (.o .h)))))
def x34x : Pos := (.i (.i (.o (.o (.o .h)))))
def x35x : Pos := (.o (.o (.i (.o (.o .h)))))
def x36x : Pos := (.i (.o (.i (.o (.o .h)))))
def x37x : Pos := (.o (.i (.i (.o (.o .h)))))
def x38x : Pos := (.i (.i (.i (.o (.o .h)))))
def x39x : Pos := (.o (.o (.o (.i (.o .h)))))
def x40x : Pos := (.i (.o (.o (.i (.o .h)))))
def x41x : Pos := (.o (.i (.o (.i (.o .h)))))
def x42x : Pos := (.i (.i (.o (.i (.o .h)))))
def x43x : Pos := (.o (.o (.i (.i (.o .h)))))
def x44x : Pos := (.i (.o (.i (.i (.o .h)))))
def x45x : Pos := (.o (.i (.i (.i (.o .h)))))
def x46x : Pos := (.i (.i (.i (.i (.o .h)))))
def x47x : Pos := (.o (.o (.o (.o (.i .h)))))
def x48x : Pos := (.i (.o (.o (.o (.i .h)))))
def x49x : Pos := (.o (.i (.o (.o (.i .h)))))
def x50x : Pos := (.i (.i (.o (.o (.i .h)))))
def x51x : Pos := (.o (.o (.i (.o (.i .h)))))
def x52x : Pos := (.i (.o (.i (.o (.i .h)))))
def x53x : Pos := (.o (.i (.i (.o (.i .h)))))
def x54x : Pos := (.i (.i (.i (.o (.i .h)))))
def x55x : Pos := (.o (.o (.o (.i (.i .h)))))
def x56x : Pos := (.i (.o (.o (.i (.i .h)))))
def x57x : Pos := (.o (.i (.o (.i (.i .h)))))
def x58x : Pos := (.i (.i (.o (.i (.i .h)))))
def x59x : Pos := (.o (.o (.i (.i (.i .h)))))
def x60x : Pos := (.i (.o (.i (.i (.i .h)))))
def x61x : Pos := (.o (.i (.i (.i (.i .h)))))
def x62x : Pos := (.i (.i (.i (.i (.i .h)))))
def x63x : Pos := (.o (.o (.o (.o (.o (.o .h))))))
def x64x : Pos := (.i (.o (.o (.o (.o (.o .h))))))
def x65x : Pos := (.o (.i (.o (.o (.o (.o .h))))))
def x66x : Pos := (.i (.i (.o (.o (.o (.o .h))))))
def x67x : Pos := (.o (.o (.i (.o (.o (.o .h))))))
def x68x : Pos := (.i (.o (.i (.o (.o (.o .h))))))
def x69x : Pos := (.o (.i (.i (.o (.o (.o .h))))))
def x70x : Pos := (.i (.i (.i (.o (.o (.o .h))))))
def x71x : Pos := (.o (.o (.o (.i (.o (.o .h))))))
def x72x : Pos := (.i (.o (.o (.i (.o (.o .h))))))
def x73x : Pos := (.o (.i (.o (.i (.o (.o .h))))))
def x74x : Pos := (.i (.i (.o (.i (.o (.o .h))))))
def x75x : Pos := (.o (.o (.i (.i (.o (.o .h))))))
def x76x : Pos := (.i (.o (.i (.i (.o (.o .h))))))
def x77x : Pos := (.o (.i (.i (.i (.o (.o .h))))))
def x78x : Pos := (.i (.i (.i (.i (.o (.o .h))))))
def x79x : Pos := (.o (.o (.o (.o (.i (.o .h))))))
def x80x : Pos := (.i (.o (.o (.o (.i (.o .h))))))
def x81x : Pos := (.o (.i (.o (.o (.i (.o .h))))))
def x82x : Pos := (.i (.i (.o (.o (.i (.o .h))))))
def x83x : Pos := (.o (.o (.i (.o (.i (.o .h))))))
def x84x : Pos := (.i (.o (.i (.o (.i (.o .h))))))
def x85x : Pos := (.o (.i (.i (.o (.i (.o .h))))))
def x86x : Pos := (.i (.i (.i (.o (.i (.o .h))))))
def x87x : Pos := (.o (.o (.o (.i (.i (.o .h))))))
def x88x : Pos := (.i (.o (.o (.i (.i (.o .h))))))
def x89x : Pos := (.o (.i (.o (.i (.i (.o .h))))))
def x90x : Pos := (.i (.i (.o (.i (.i (.o .h))))))
def x91x : Pos := (.o (.o (.i (.i (.i (.o .h))))))
def x92x : Pos := (.i (.o (.i (.i (.i (.o .h))))))
def x93x : Pos := (.o (.i (.i (.i (.i (.o .h))))))
def x94x : Pos := (.i (.i (.i (.i (.i (.o .h))))))
def x95x : Pos := (.o (.o (.o (.o (.o (.i .h))))))
def x96x : Pos := (.i (.o (.o (.o (.o (.i .h))))))
def x97x : Pos := (.o (.i (.o (.o (.o (.i .h))))))
def x98x : Pos := (.i (.i (.o (.o (.o (.i .h))))))
def x99x : Pos := (.o (.o (.i (.o (.o (.i .h))))))
def x100x : Pos := (.i (.o (.i (.o (.o (.i .h))))))
def x101x : Pos := (.o (.i (.i (.o (.o (.i .h))))))
def x102x : Pos := (.i (.i (.i (.o (.o (.i .h))))))
def x103x : Pos := (.o (.o (.o (.i (.o (.i .h))))))
def x104x : Pos := (.i (.o (.o (.i (.o (.i .h))))))
def x105x : Pos := (.o (.i (.o (.i (.o (.i .h))))))
def x106x : Pos := (.i (.i (.o (.i (.o (.i .h))))))
def x107x : Pos := (.o (.o (.i (.i (.o (.i .h))))))
def x108x : Pos := (.i (.o (.i (.i (.o (.i .h))))))
def x109x : Pos := (.o (.i (.i (.i (.o (.i .h))))))
def x110x : Pos := (.i (.i (.i (.i (.o (.i .h))))))
def x111x : Pos := (.o (.o (.o (.o (.i (.i .h))))))
def x112x : Pos := (.i (.o (.o (.o (.i (.i .h))))))
def x113x : Pos := (.o (.i (.o (.o (.i (.i .h))))))
def x114x : Pos := (.i (.i (.o (.o (.i (.i .h))))))
def x115x : Pos := (.o (.o (.i (.o (.i (.i .h))))))
def x116x : Pos := (.i (.o (.i (.o (.i (.i .h))))))
def x117x : Pos := (.o (.i (.i (.o (.i (.i .h))))))
def x118x : Pos := (.i (.i (.i (.o (.i (.i .h))))))
def x119x : Pos := (.o (.o (.o (.i (.i (.i .h))))))
def x120x : Pos := (.i (.o (.o (.i (.i (.i .h))))))
def x121x : Pos := (.o (.i (.o (.i (.i (.i .h))))))
def x122x : Pos := (.i (.i (.o (.i (.i (.i .h))))))
def x123x : Pos := (.o (.o (.i (.i (.i (.i .h))))))
def x124x : Pos := (.i (.o (.i (.i (.i (.i .h))))))
def x125x : Pos := (.o (.i (.i (.i (.i (.i .h))))))
def x126x : Pos := (.i (.i (.i (.i (.i (.i .h))))))
def x127x : Pos := (.o (.o (.o (.o (.o (.o (.o .h)))))))
def x128x : Pos := (.i (.o (.o (.o (.o (.o (.o .h)))))))
def x129x : Pos := (.o (.i (.o (.o (.o (.o (.o .h)))))))
def x130x : Pos := (.i (.i (.o (.o (.o (.o (.o .h)))))))
def x131x : Pos := (.o (.o (.i (.o (.o (.o (.o .h)))))))
def x132x : Pos := (.i (.o (.i (.o (.o (.o (.o .h)))))))
def x133x : Pos := (.o (.i (.i (.o (.o (.o (.o .h)))))))
def x134x : Pos := (.i (.i (.i (.o (.o (.o (.o .h)))))))
def x135x : Pos := (.o (.o (.o (.i (.o (.o (.o .h)))))))
def x136x : Pos := (.i (.o (.o (.i (.o (.o (.o .h)))))))
def x137x : Pos := (.o (.i (.o (.i (.o (.o (.o .h)))))))
def x138x : Pos := (.i (.i (.o (.i (.o (.o (.o .h)))))))
def x139x : Pos := (.o (.o (.i (.i (.o (.o (.o .h)))))))
def x140x : Pos := (.i (.o (.i (.i (.o (.o (.o .h)))))))
def x141x : Pos := (.o (.i (.i (.i (.o (.o (.o .h)))))))
def x142x : Pos := (.i (.i (.i (.i (.o (.o (.o .h)))))))
def x143x : Pos := (.o (.o (.o (.o (.i (.o (.o .h)))))))
def x144x : Pos := (.i (.o (.o (.o (.i (.o (.o .h)))))))
def x145x : Pos := (.o (.i (.o (.o (.i (.o (.o .h)))))))
def x146x : Pos := (.i (.i (.o (.o (.i (.o (.o .h)))))))
def x147x : Pos := (.o (.o (.i (.o (.i (.o (.o .h)))))))
def x148x : Pos := (.i (.o (.i (.o (.i (.o (.o .h)))))))
def x149x : Pos := (.o (.i (.i (.o (.i (.o (.o .h)))))))
def x150x : Pos := (.i (.i (.i (.o (.i (.o (.o .h)))))))
def x151x : Pos := (.o (.o (.o (.i (.i (.o (.o .h)))))))
def x152x : Pos := (.i (.o (.o (.i (.i (.o (.o .h)))))))
def x153x : Pos := (.o (.i (.o (.i (.i (.o (.o .h)))))))
def x154x : Pos := (.i (.i (.o (.i (.i (.o (.o .h)))))))
def x155x : Pos := (.o (.o (.i (.i (.i (.o (.o .h)))))))
def x156x : Pos := (.i (.o (.i (.i (.i (.o (.o .h)))))))
def x157x : Pos := (.o (.i (.i (.i (.i (.o (.o .h)))))))
def x158x : Pos := (.i (.i (.i (.i (.i (.o (.o .h)))))))
def x159x : Pos := (.o (.o (.o (.o (.o (.i (.o .h)))))))
def x160x : Pos := (.i (.o (.o (.o (.o (.i (.o .h)))))))
def x161x : Pos := (.o (.i (.o (.o (.o (.i (.o .h)))))))
def x162x : Pos := (.i (.i (.o (.o (.o (.i (.o .h)))))))
def x163x : Pos := (.o (.o (.i (.o (.o (.i (.o .h)))))))
def x164x : Pos := (.i (.o (.i (.o (.o (.i (.o .h)))))))
def x165x : Pos := (.o (.i (.i (.o (.o (.i (.o .h)))))))
def x166x : Pos := (.i (.i (.i (.o (.o (.i (.o .h)))))))
def x167x : Pos := (.o (.o (.o (.i (.o (.i (.o .h)))))))
def x168x : Pos := (.i (.o (.o (.i (.o (.i (.o .h)))))))
def x169x : Pos := (.o (.i (.o (.i (.o (.i (.o .h)))))))
def x170x : Pos := (.i (.i (.o (.i (.o (.i (.o .h)))))))
def x171x : Pos := (.o (.o (.i (.i (.o (.i (.o .h)))))))
def x172x : Pos := (.i (.o (.i (.i (.o (.i (.o .h)))))))
def x173x : Pos := (.o (.i (.i (.i (.o (.i (.o .h)))))))
def x174x : Pos := (.i (.i (.i (.i (.o (.i (.o .h)))))))
def x175x : Pos := (.o (.o (.o (.o (.i (.i (.o .h)))))))
def x176x : Pos := (.i (.o (.o (.o (.i (.i (.o .h)))))))
def x177x : Pos := (.o (.i (.o (.o (.i (.i (.o .h)))))))
def x178x : Pos := (.i (.i (.o (.o (.i (.i (.o .h)))))))
def x179x : Pos := (.o (.o (.i (.o (.i (.i (.o .h)))))))
def x180x : Pos := (.i (.o (.i (.o (.i (.i (.o .h)))))))
def x181x : Pos := (.o (.i (.i (.o (.i (.i (.o .h)))))))
def x182x : Pos := (.i (.i (.i (.o (.i (.i (.o .h)))))))
def x183x : Pos := (.o (.o (.o (.i (.i (.i (.o .h)))))))
def x184x : Pos := (.i (.o (.o (.i (.i (.i (.o .h)))))))
def x185x : Pos := (.o (.i (.o (.i (.i (.i (.o .h)))))))
def x186x : Pos := (.i (.i (.o (.i (.i (.i (.o .h)))))))
def x187x : Pos := (.o (.o (.i (.i (.i (.i (.o .h)))))))
def x188x : Pos := (.i (.o (.i (.i (.i (.i (.o .h)))))))
def x189x : Pos := (.o (.i (.i (.i (.i (.i (.o .h)))))))
def x190x : Pos := (.i (.i (.i (.i (.i (.i (.o .h)))))))
def x191x : Pos := (.o (.o (.o (.o (.o (.o (.i .h)))))))
def x192x : Pos := (.i (.o (.o (.o (.o (.o (.i .h)))))))
def x193x : Pos := (.o (.i (.o (.o (.o (.o (.i .h)))))))
def x194x : Pos := (.i (.i (.o (.o (.o (.o (.i .h)))))))
def x195x : Pos := (.o (.o (.i (.o (.o (.o (.i .h)))))))
def x196x : Pos := (.i (.o (.i (.o (.o (.o (.i .h)))))))
def x197x : Pos := (.o (.i (.i (.o (.o (.o (.i .h)))))))
def x198x : Pos := (.i (.i (.i (.o (.o (.o (.i .h)))))))
def x199x : Pos := (.o (.o (.o (.i (.o (.o (.i .h)))))))
def x200x : Pos := (.i (.o (.o (.i (.o (.o (.i .h)))))))
def x201x : Pos := (.o (.i (.o (.i (.o (.o (.i .h)))))))
def x202x : Pos := (.i (.i (.o (.i (.o (.o (.i .h)))))))
def x203x : Pos := (.o (.o (.i (.i (.o (.o (.i .h)))))))
def x204x : Pos := (.i (.o (.i (.i (.o (.o (.i .h)))))))
def x205x : Pos := (.o (.i (.i (.i (.o (.o (.i .h)))))))
def x206x : Pos := (.i (.i (.i (.i (.o (.o (.i .h)))))))
def x207x : Pos := (.o (.o (.o (.o (.i (.o (.i .h)))))))
def x208x : Pos := (.i (.o (.o (.o (.i (.o (.i .h)))))))
def x209x : Pos := (.o (.i (.o (.o (.i (.o (.i .h)))))))
def x210x : Pos := (.i (.i (.o (.o (.i (.o (.i .h)))))))
def x211x : Pos := (.o (.o (.i (.o (.i (.o (.i .h)))))))
def x212x : Pos := (.i (.o (.i (.o (.i (.o (.i .h)))))))
def x213x : Pos := (.o (.i (.i (.o (.i (.o (.i .h)))))))
def x214x : Pos := (.i (.i (.i (.o (.i (.o (.i .h)))))))
def x215x : Pos := (.o (.o (.o (.i (.i (.o (.i .h)))))))
def x216x : Pos := (.i (.o (.o (.i (.i (.o (.i .h)))))))
def x217x : Pos := (.o (.i (.o (.i (.i (.o (.i .h)))))))
def x218x : Pos := (.i (.i (.o (.i (.i (.o (.i .h)))))))
def x219x : Pos := (.o (.o (.i (.i (.i (.o (.i .h)))))))
def x2000000x : Pos := (.i (.o (.o (.o (.o (.o (.o (.i (.o (.o (.i (.o (.o (.o (.o (.i (.o (.i (.i (.i .h))))))))))))))))))))
noncomputable def i3 : FnI := (compF Try.prog drops true true Try.f3).getD (.mk false false .skip [])
theorem cc3 : compF Try.prog drops true true Try.f3 = some i3 := by kernel_rfl
noncomputable def i4 : FnI := (.mk true false (.seq (.reg (.cons (some x1x) none (.box 28 (.t x0x)) (.cons (some x2x) none (.mv (.c .ns)) (.cons (some x3x) none (.mv (.c (.n 0))) .nil)))) (.seq (.seq (.reg 
  (.cons (some x8x) none (.ld 2 true (.t x1x)) (.cons (some x9x) none (.call 17 (.cons (.t x8x) .nil)) (.cons (some x4x) none (.mv (.t x9x)) .nil)))) (.seq (.reg (.cons (some x10x) 
  none (.mv (.t x4x)) (.cons (some x11x) none (.bin .neq (.t x10x) (.c (.n 0))) .nil))) (.cond (.t x11x) (.seq (.reg (.cons (some x12x) none (.mv (.t x4x)) (.cons (some x2x) none 
  (.mv (.c .ns)) (.cons (some x3x) none (.mv (.t x12x)) .nil)))) .ret) .skip))) (.seq (.reg (.cons (some x13x) none (.fad 0 (.t x1x)) (.cons (some x14x) none (.ld 1 false (.t 
  x13x)) (.cons (some x15x) none (.mks 3 1 8 1 (.cons (.n 0) .nil) (.t x14x) (.t x14x)) (.cons (some x5x) none (.mv (.t x15x)) .nil))))) (.seq (.seq (.reg (.cons (some x16x) none 
  (.fad 1 (.t x1x)) (.cons (some x17x) none (.ld 1 false (.t x16x)) (.cons (some x18x) none (.len (.t x17x)) (.cons (some x19x) none (.mv (.c (.n 0))) .nil))))) (.block 0 (.loop 
  (.seq (.reg (.cons (some x20x) none (.bin .lss (.t x19x) (.t x18x)) .nil)) (.seq (.cond (.t x20x) .skip (.exit 0)) (.seq (.block 1 (.seq (.reg (.cons (some x21x) none (.ixs 2 (.t 
  x17x) (.t x19x)) (.cons (some x22x) none (.ld 2 true (.t x21x)) (.cons (some x7x) none (.alloc 45 (.cons (.n 0) (.cons (.n 0) .nil)) 2) (.cons none none (.st 2 (.t x7x) (.t 
  x22x)) .nil))))) (.reg (.cons (some x23x) none (.mv (.t x5x)) (.cons (some x24x) none (.fad 0 (.t x7x)) (.cons (some x25x) none (.ld 1 false (.t x24x)) (.cons (some x26x) none 
  (.ixs 1 (.t x23x) (.t x25x)) (.cons (some x27x) none (.ld 1 false (.t x26x)) (.cons (some x28x) none (.bin .add (.t x27x) (.c (.n 1))) (.cons (some x29x) none (.ixs 1 (.t x23x) 
  (.t x25x)) (.cons none none (.st 1 (.t x29x) (.t x28x)) .nil))))))))))) (.reg (.cons (some x30x) none (.bin .add (.t x19x) (.c (.n 1))) (.cons (some x19x) none (.mv (.t x30x)) 
  .nil))))))))) (.seq (.reg (.cons (some x31x) none (.mv (.t x5x)) (.cons (some x2x) none (.mv (.t x31x)) (.cons (some x3x) none (.mv (.c (.n 0))) .nil)))) .ret))))) [(.tmp x2x), 
  (.tmp x3x)])
theorem cc4 : compF Try.prog drops true false Try.f4 = some i4 := by kernel_rfl
noncomputable def i5 : FnI := (.mk true false (.seq (.reg (.cons (some x0x) none (.alloc 28 (.cons (.n 0) (.cons .ns .nil)) 2) .nil)) (.seq (.reg (.cons (some x1x) none (.bsl 3 1 6 (.cons (.n 0) (.cons (.n 0) 
  (.cons (.n 0) (.cons (.n 0) (.cons (.n 0) (.cons (.n 0) .nil)))))) (.cons 0 1 (.c (.n 0)) (.cons 1 1 (.c (.n 1)) (.cons 2 1 (.c (.n 1)) (.cons 3 1 (.c (.n 2)) (.cons 4 1 (.c (.n 
  2)) (.cons 5 1 (.c (.n 0)) .nil))))))) (.cons (some x2x) none (.call 18 (.cons (.c (.n 3)) (.cons (.t x1x) .nil))) (.cons none none (.st 2 (.t x0x) (.t x2x)) .nil)))) .ret)) 
  [(.cell x0x 2 true)])
theorem cc5 : compF Try.prog drops true false Try.f5 = some i5 := by kernel_rfl
noncomputable def i6 : FnI := (.mk true false (.seq (.reg (.cons (some x1x) none (.box 28 (.t x0x)) (.cons (some x2x) none (.mv (.c .ns)) (.cons (some x3x) none (.mv (.c (.n 0))) .nil)))) (.seq (.seq (.reg 
  (.cons (some x5x) none (.ld 2 true (.t x1x)) (.cons (some x6x) none (.call 17 (.cons (.t x5x) .nil)) (.cons (some x4x) none (.mv (.t x6x)) .nil)))) (.seq (.reg (.cons (some x7x) 
  none (.mv (.t x4x)) (.cons (some x8x) none (.bin .neq (.t x7x) (.c (.n 0))) .nil))) (.cond (.t x8x) (.seq (.reg (.cons (some x9x) none (.mv (.t x4x)) (.cons (some x2x) none (.mv 
  (.c .ns)) (.cons (some x3x) none (.mv (.t x9x)) .nil)))) .ret) .skip))) (.seq (.reg (.cons (some x10x) none (.fad 0 (.t x1x)) (.cons (some x11x) none (.ld 1 false (.t x10x)) 
  (.cons (some x12x) none (.ld 2 true (.t x1x)) (.cons (some x13x) none (.mkf 21 (.cons (.t x12x) .nil) .nil) (.cons (some x14x) none (.call 20 (.cons (.t x11x) (.cons (.t x13x) 
  .nil))) (.cons (some x2x) none (.mv (.t x14x)) (.cons (some x3x) none (.mv (.c (.n 0))) .nil)))))))) .ret))) [(.tmp x2x), (.tmp x3x)])
theorem cc6 : compF Try.prog drops true false Try.f6 = some i6 := by kernel_rfl
noncomputable def i7 : FnI := (.mk true true (.seq (.reg (.cons (some x1x) none (.box 28 (.t x0x)) (.cons (some x2x) none (.mv (.c (.n 0))) (.cons (some x3x) none (.mv (.c (.n 0))) .nil)))) (.seq (.seq (.reg 
  (.cons (some x5x) none (.ld 2 true (.t x1x)) (.cons (some x6x) none (.call 17 (.cons (.t x5x) .nil)) (.cons (some x4x) none (.mv (.t x6x)) .nil)))) (.seq (.reg (.cons (some x7x) 
  none (.mv (.t x4x)) (.cons (some x8x) none (.bin .neq (.t x7x) (.c (.n 0))) .nil))) (.cond (.t x8x) (.seq (.reg (.cons (some x9x) none (.mv (.t x4x)) (.cons (some x2x) none (.mv 
  (.c (.n 0))) (.cons (some x3x) none (.mv (.t x9x)) .nil)))) .ret) .skip))) (.seq (.reg (.cons (some x10x) none (.fad 0 (.t x1x)) (.cons (some x11x) none (.ld 1 false (.t x10x)) 
  (.cons (some x12x) none (.ld 2 true (.t x1x)) (.cons (some x13x) none (.mkf 21 (.cons (.t x12x) .nil) .nil) (.cons (some x14x) none (.call 22 (.cons (.t x11x) (.cons (.t x13x) 
  .nil))) (.cons (some x2x) none (.mv (.t x14x)) (.cons (some x3x) none (.mv (.c (.n 0))) .nil)))))))) .ret))) [(.tmp x2x), (.tmp x3x)])
theorem cc7 : compF Try.prog drops true true Try.f7 = some i7 := by kernel_rfl
noncomputable def i8 : FnI := (.mk true true (.seq (.reg (.cons (some x1x) none (.box 28 (.t x0x)) (.cons (some x2x) none (.mv (.c (.n 0))) (.cons (some x3x) none (.mv (.c (.n 0))) .nil)))) (.seq (.seq (.reg 
  (.cons (some x5x) none (.ld 2 true (.t x1x)) (.cons (some x6x) none (.call 17 (.cons (.t x5x) .nil)) (.cons (some x4x) none (.mv (.t x6x)) .nil)))) (.seq (.reg (.cons (some x7x) 
  none (.mv (.t x4x)) (.cons (some x8x) none (.bin .neq (.t x7x) (.c (.n 0))) .nil))) (.cond (.t x8x) (.seq (.reg (.cons (some x9x) none (.mv (.t x4x)) (.cons (some x2x) none (.mv 
  (.c (.n 0))) (.cons (some x3x) none (.mv (.t x9x)) .nil)))) .ret) .skip))) (.seq (.reg (.cons (some x10x) none (.fad 0 (.t x1x)) (.cons (some x11x) none (.ld 1 false (.t x10x)) 
  (.cons (some x12x) none (.ld 2 true (.t x1x)) (.cons (some x13x) none (.mkf 21 (.cons (.t x12x) .nil) .nil) (.cons (some x14x) none (.call 23 (.cons (.t x11x) (.cons (.t x13x) 
  .nil))) (.cons (some x2x) none (.mv (.t x14x)) (.cons (some x3x) none (.mv (.c (.n 0))) .nil)))))))) .ret))) [(.tmp x2x), (.tmp x3x)])
theorem cc8 : compF Try.prog drops true true Try.f8 = some i8 := by kernel_rfl
noncomputable def i9 : FnI := (.mk true false (.seq (.reg (.cons (some x3x) none (.box 28 (.t x0x)) (.cons (some x6x) none (.mv (.c .ns)) (.cons (some x7x) none (.mv (.c (.n 0))) .nil)))) (.seq (.seq (.reg 
  (.cons (some x10x) none (.ld 2 true (.t x3x)) (.cons (some x11x) none (.call 17 (.cons (.t x10x) .nil)) (.cons (some x8x) none (.mv (.t x11x)) .nil)))) (.seq (.reg (.cons (some 
  x12x) none (.mv (.t x8x)) (.cons (some x13x) none (.bin .neq (.t x12x) (.c (.n 0))) .nil))) (.cond (.t x13x) (.seq (.reg (.cons (some x14x) none (.mv (.t x8x)) (.cons (some x6x) 
  none (.mv (.c .ns)) (.cons (some x7x) none (.mv (.t x14x)) .nil)))) .ret) .skip))) (.seq (.seq (.reg (.cons (some x15x) none (.ld 2 true (.t x3x)) (.cons (some x16x) none (.mv 
  (.t x1x)) (.cons (some x17x) none (.call 24 (.cons (.t x15x) (.cons (.t x16x) .nil))) (.cons (some x18x) none (.not (.t x17x)) (.cons (some x19x) none (.mv (.t x18x)) (.cons 
  (some x20x) (some (.mk x19x false)) (.ld 2 true (.t x3x)) (.cons (some x21x) (some (.mk x19x false)) (.mv (.t x2x)) (.cons (some x22x) (some (.mk x19x false)) (.call 24 (.cons 
  (.t x20x) (.cons (.t x21x) .nil))) (.cons (some x23x) (some (.mk x19x false)) (.not (.t x22x)) (.cons (some x24x) none (.pick (.t x19x) (.c (.b true)) (.t x23x)) .nil))))))))))) 
  (.cond (.t x24x) (.seq (.reg (.cons (some x6x) none (.mv (.c .ns)) (.cons (some x7x) none (.mv (.c (.n 2))) .nil))) .ret) .skip)) (.seq (.reg (.cons (some x25x) none (.fad 0 (.t 
  x3x)) (.cons (some x26x) none (.ld 1 false (.t x25x)) (.cons (some x27x) none (.ld 2 true (.t x3x)) (.cons (some x28x) none (.mkf 21 (.cons (.t x27x) .nil) .nil) (.cons (some 
  x29x) none (.mv (.t x1x)) (.cons (some x30x) none (.mv (.t x2x)) (.cons (some x31x) none (.call 25 (.cons (.t x26x) (.cons (.t x28x) (.cons (.t x29x) (.cons (.t x30x) .nil))))) 
  (.cons (some x9x) none (.mv (.t x31x)) .nil))))))))) (.seq (.seq (.reg (.cons (some x32x) none (.mv (.t x9x)) (.cons (some x33x) none (.len (.t x32x)) (.cons (some x34x) none 
  (.bin .eql (.t x33x) (.c (.n 0))) .nil)))) (.cond (.t x34x) (.seq (.reg (.cons (some x6x) none (.mv (.c .ns)) (.cons (some x7x) none (.mv (.c (.n 12))) .nil))) .ret) .skip)) 
  (.seq (.reg (.cons (some x35x) none (.mv (.t x9x)) (.cons (some x6x) none (.mv (.t x35x)) (.cons (some x7x) none (.mv (.c (.n 0))) .nil)))) .ret)))))) [(.tmp x6x), (.tmp x7x)])
theorem cc9 : compF Try.prog drops true false Try.f9 = some i9 := by kernel_rfl
noncomputable def i10 : FnI := (.mk true false (.seq (.reg (.cons (some x0x) none (.alloc 28 (.cons (.n 0) (.cons .ns .nil)) 2) .nil)) (.seq (.reg (.cons (some x1x) none (.bsl 3 1 12 (.cons (.n 0) (.cons (.n 0) 
  (.cons (.n 0) (.cons (.n 0) (.cons (.n 0) (.cons (.n 0) (.cons (.n 0) (.cons (.n 0) (.cons (.n 0) (.cons (.n 0) (.cons (.n 0) (.cons (.n 0) .nil)))))))))))) (.cons 0 1 (.c (.n 
  0)) (.cons 1 1 (.c (.n 1)) (.cons 2 1 (.c (.n 0)) (.cons 3 1 (.c (.n 2)) (.cons 4 1 (.c (.n 1)) (.cons 5 1 (.c (.n 2)) (.cons 6 1 (.c (.n 1)) (.cons 7 1 (.c (.n 3)) (.cons 8 1 
  (.c (.n 2)) (.cons 9 1 (.c (.n 3)) (.cons 10 1 (.c (.n 3)) (.cons 11 1 (.c (.n 0)) .nil))))))))))))) (.cons (some x2x) none (.call 18 (.cons (.c (.n 4)) (.cons (.t x1x) .nil))) 
  (.cons none none (.st 2 (.t x0x) (.t x2x)) .nil)))) .ret)) [(.cell x0x 2 true)])
theorem cc10 : compF Try.prog drops true false Try.f10 = some i10 := by kernel_rfl
noncomputable def i11 : FnI := (.mk true false (.seq (.reg (.cons (some x1x) none (.box 28 (.t x0x)) (.cons (some x2x) none (.mv (.c .ns)) (.cons (some x3x) none (.mv (.c (.n 0))) .nil)))) (.seq (.seq (.reg 
  (.cons (some x5x) none (.ld 2 true (.t x1x)) (.cons (some x6x) none (.call 17 (.cons (.t x5x) .nil)) (.cons (some x4x) none (.mv (.t x6x)) .nil)))) (.seq (.reg (.cons (some x7x) 
  none (.mv (.t x4x)) (.cons (some x8x) none (.bin .neq (.t x7x) (.c (.n 0))) .nil))) (.cond (.t x8x) (.seq (.reg (.cons (some x9x) none (.mv (.t x4x)) (.cons (some x2x) none (.mv 
  (.c .ns)) (.cons (some x3x) none (.mv (.t x9x)) .nil)))) .ret) .skip))) (.seq (.reg (.cons (some x10x) none (.fad 0 (.t x1x)) (.cons (some x11x) none (.ld 1 false (.t x10x)) 
  (.cons (some x12x) none (.ld 2 true (.t x1x)) (.cons (some x13x) none (.mkf 21 (.cons (.t x12x) .nil) .nil) (.cons (some x14x) none (.call 26 (.cons (.t x11x) (.cons (.t x13x) 
  .nil))) (.cons (some x2x) none (.mv (.t x14x)) (.cons (some x3x) none (.mv (.c (.n 0))) .nil)))))))) .ret))) [(.tmp x2x), (.tmp x3x)])
theorem cc11 : compF Try.prog drops true false Try.f11 = some i11 := by kernel_rfl
noncomputable def i12 : FnI := (.mk true false (.seq (.reg (.cons (some x2x) none (.mv (.c .ns)) (.cons (some x3x) none (.mv (.c (.n 0))) .nil))) (.seq (.seq (.reg (.cons (some x6x) none (.mv (.t x0x)) (.cons 
  (some x7x) none (.call 27 (.cons (.t x6x) .nil)) (.cons (some x4x) none (.mv (.t x7x)) .nil)))) (.seq (.reg (.cons (some x8x) none (.mv (.t x4x)) (.cons (some x9x) none (.bin 
  .neq (.t x8x) (.c (.n 0))) .nil))) (.cond (.t x9x) (.seq (.reg (.cons (some x10x) none (.mv (.t x4x)) (.cons (some x2x) none (.mv (.c .ns)) (.cons (some x3x) none (.mv (.t x10x)) 
  .nil)))) .ret) .skip))) (.seq (.reg (.cons (some x11x) none (.mv (.t x0x)) (.cons (some x12x) none (.call 28 (.cons (.t x11x) .nil)) (.cons (some x5x) none (.mv (.t x12x)) 
  .nil)))) (.seq (.seq (.reg (.cons (some x13x) none (.mv (.t x5x)) (.cons (some x14x) none (.len (.t x13x)) (.cons (some x15x) none (.bin .eql (.t x14x) (.c (.n 0))) .nil)))) 
  (.cond (.t x15x) (.seq (.reg (.cons (some x2x) none (.mv (.c .ns)) (.cons (some x3x) none (.mv (.c (.n 13))) .nil))) .ret) .skip)) (.seq (.reg (.cons (some x16x) none (.mv (.t 
  x5x)) (.cons (some x2x) none (.mv (.t x16x)) (.cons (some x3x) none (.mv (.c (.n 0))) .nil)))) .ret))))) [(.tmp x2x), (.tmp x3x)])
theorem cc12 : compF Try.prog drops true false Try.f12 = some i12 := by kernel_rfl
noncomputable def i13 : FnI := (.mk true false (.seq (.reg (.cons (some x2x) none (.mv (.c .ns)) .nil)) (.seq (.reg (.cons (some x3x) none (.mv (.t x0x)) (.cons (some x2x) none (.mv (.t x3x)) .nil))) .ret)) 
  [(.tmp x2x)])
theorem cc13 : compF Try.prog drops true false Try.f13 = some i13 := by kernel_rfl
noncomputable def i14 : FnI := (.mk true true (.seq (.reg (.cons (some x4x) none (.mv (.c (.b false))) .nil)) (.seq (.seq (.reg (.cons (some x6x) none (.mv (.t x0x)) (.cons (some x7x) none (.len (.t x6x)) (.cons 
  (some x8x) none (.mv (.t x1x)) (.cons (some x9x) none (.len (.t x8x)) (.cons (some x10x) none (.bin .neq (.t x7x) (.t x9x)) .nil)))))) (.cond (.t x10x) (.seq (.reg (.cons (some 
  x4x) none (.mv (.c (.b false))) .nil)) .ret) .skip)) (.seq (.seq (.reg (.cons (some x5x) none (.mv (.c (.n 0))) .nil)) (.block 0 (.loop (.seq (.seq (.reg (.cons (some x11x) none 
  (.mv (.t x5x)) (.cons (some x12x) none (.mv (.t x0x)) (.cons (some x13x) none (.len (.t x12x)) (.cons (some x14x) none (.bin .lss (.t x11x) (.t x13x)) .nil))))) (.cond (.t x14x) 
  .skip (.exit 0))) (.seq (.block 1 (.seq (.draw [(.mk (some x17x) none true [] false [] [] [x0x] (.mv (.t x0x)) false [] [] []), (.mk (some x18x) none true [] false [false] [] 
  [x5x] (.mv (.t x5x)) false [] [] []), (.mk (some x19x) none true [] false [true, true] [] [x17x, x18x] (.ixs 1 (.t x17x) (.t x18x)) false [] [] []), (.mk (some x20x) none false 
  [] false [true, true, true] [] [x19x] (.ld 1 false (.t x19x)) false [] [] []), (.mk (some x21x) none true [] false [false, false, false, false] [] [x1x] (.mv (.t x1x)) false [] 
  [] []), (.mk (some x22x) none true [] false [false, false, false, false, false] [] [x5x] (.mv (.t x5x)) false [] [] []), (.mk (some x23x) none true [] false [true, true, false, 
  false, false, false] [] [x21x, x22x] (.ixs 1 (.t x21x) (.t x22x)) false [] [] []), (.mk (some x24x) none false [] false [true, true, true, false, false, false, false] [] [x23x] 
  (.ld 1 false (.t x23x)) false [] [] []), (.mk (some x25x) none true [] false [true, true, true, true, true, true, true, true] [] [x20x, x24x] (.bin .neq (.t x20x) (.t x24x)) 
  false [] [] [])]) (.cond (.t x25x) (.seq (.reg (.cons (some x4x) none (.mv (.c (.b false))) .nil)) .ret) .skip))) (.reg (.cons (some x15x) none (.mv (.t x5x)) (.cons (some x16x) 
  none (.bin .add (.t x15x) (.c (.n 1))) (.cons (some x5x) none (.mv (.t x16x)) .nil))))))))) (.seq (.reg (.cons (some x4x) none (.mv (.c (.b true))) .nil)) .ret)))) [(.tmp x4x)])
theorem cc14 : compF Try.prog drops true true Try.f14 = some i14 := by kernel_rfl
noncomputable def i15 : FnI := (.mk true true (.seq (.reg (.cons (some x4x) none (.mv (.c (.b false))) .nil)) (.seq (.seq (.reg (.cons (some x6x) none (.mv (.t x0x)) (.cons (some x7x) none (.len (.t x6x)) (.cons 
  (some x8x) none (.mv (.t x1x)) (.cons (some x9x) none (.len (.t x8x)) (.cons (some x10x) none (.bin .neq (.t x7x) (.t x9x)) .nil)))))) (.cond (.t x10x) (.seq (.reg (.cons (some 
  x4x) none (.mv (.c (.b false))) .nil)) .ret) .skip)) (.seq (.seq (.reg (.cons (some x5x) none (.mv (.c (.n 0))) .nil)) (.block 0 (.loop (.seq (.seq (.reg (.cons (some x11x) none 
  (.mv (.t x5x)) (.cons (some x12x) none (.mv (.t x0x)) (.cons (some x13x) none (.len (.t x12x)) (.cons (some x14x) none (.bin .lss (.t x11x) (.t x13x)) .nil))))) (.cond (.t x14x) 
  .skip (.exit 0))) (.seq (.block 1 (.seq (.draw [(.mk (some x17x) none true [] false [] [] [x0x] (.mv (.t x0x)) false [] [] []), (.mk (some x18x) none true [] false [false] [] 
  [x5x] (.mv (.t x5x)) false [] [] []), (.mk (some x19x) none true [] false [true, true] [] [x17x, x18x] (.ixs 1 (.t x17x) (.t x18x)) false [] [] []), (.mk (some x20x) none false 
  [] false [true, true, true] [] [x19x] (.ld 1 false (.t x19x)) false [] [] []), (.mk (some x21x) none true [] false [false, false, false, false] [] [x1x] (.mv (.t x1x)) false [] 
  [] []), (.mk (some x22x) none true [] false [false, false, false, false, false] [] [x5x] (.mv (.t x5x)) false [] [] []), (.mk (some x23x) none true [] false [true, true, false, 
  false, false, false] [] [x21x, x22x] (.ixs 1 (.t x21x) (.t x22x)) false [] [] []), (.mk (some x24x) none false [] false [true, true, true, false, false, false, false] [] [x23x] 
  (.ld 1 false (.t x23x)) false [] [] []), (.mk (some x25x) none false [] false [true, true, true, true, true, true, true, true] [] [x20x, x24x] (.call 14 (.cons (.t x20x) (.cons 
  (.t x24x) .nil))) false [] [] []), (.mk (some x26x) none true [] false [true, true, true, true, true, true, true, true, true] [] [x25x] (.not (.t x25x)) false [] [] [])]) (.cond 
  (.t x26x) (.seq (.reg (.cons (some x4x) none (.mv (.c (.b false))) .nil)) .ret) .skip))) (.reg (.cons (some x15x) none (.mv (.t x5x)) (.cons (some x16x) none (.bin .add (.t x15x) 
  (.c (.n 1))) (.cons (some x5x) none (.mv (.t x16x)) .nil))))))))) (.seq (.reg (.cons (some x4x) none (.mv (.c (.b true))) .nil)) .ret)))) [(.tmp x4x)])
theorem cc15 : compF Try.prog drops true true Try.f15 = some i15 := by kernel_rfl
noncomputable def i16 : FnI := (.mk true false (.seq (.reg (.cons (some x2x) none (.mv (.c .ns)) .nil)) (.seq (.reg (.cons (some x3x) none (.mv (.t x0x)) (.cons (some x2x) none (.mv (.t x3x)) .nil))) .ret)) 
  [(.tmp x2x)])
theorem cc16 : compF Try.prog drops true false Try.f16 = some i16 := by kernel_rfl
noncomputable def i17 : FnI := (.mk true true (.seq (.reg (.cons (some x1x) none (.box 28 (.t x0x)) (.cons (some x2x) none (.mv (.c (.n 0))) .nil))) (.seq (.seq (.reg (.cons (some x6x) none (.fad 0 (.t x1x)) 
  (.cons (some x7x) none (.ld 1 false (.t x6x)) (.cons (some x8x) none (.bin .lss (.t x7x) (.c (.n 1))) (.cons (some x9x) none (.mv (.t x8x)) (.cons (some x10x) (some (.mk x9x 
  false)) (.fad 0 (.t x1x)) (.cons (some x11x) (some (.mk x9x false)) (.ld 1 false (.t x10x)) (.cons (some x12x) (some (.mk x9x false)) (.bin .gtr (.t x11x) (.c (.n 7))) (.cons 
  (some x13x) none (.pick (.t x9x) (.c (.b true)) (.t x12x)) .nil))))))))) (.cond (.t x13x) (.seq (.reg (.cons (some x2x) none (.mv (.c (.n 1))) .nil)) .ret) .skip)) (.seq (.seq 
  (.reg (.cons (some x14x) none (.fad 1 (.t x1x)) (.cons (some x15x) none (.ld 1 false (.t x14x)) (.cons (some x16x) none (.len (.t x15x)) (.cons (some x17x) none (.mv (.c (.n 0))) 
  .nil))))) (.block 0 (.loop (.seq (.reg (.cons (some x18x) none (.bin .lss (.t x17x) (.t x16x)) .nil)) (.seq (.cond (.t x18x) .skip (.exit 0)) (.seq (.block 1 (.seq (.reg (.cons 
  (some x19x) none (.mv (.t x17x)) (.cons (some x20x) none (.ixs 2 (.t x15x) (.t x17x)) (.cons (some x21x) none (.ld 2 true (.t x20x)) (.cons (some x4x) none (.alloc 45 (.cons (.n 
  0) (.cons (.n 0) .nil)) 2) (.cons (some x3x) none (.mv (.t x19x)) (.cons none none (.st 2 (.t x4x) (.t x21x)) .nil))))))) (.seq (.reg (.cons (some x22x) none (.ld 2 true (.t 
  x1x)) (.cons (some x23x) none (.mv (.t x3x)) (.cons (some x24x) none (.ld 2 true (.t x4x)) (.cons (some x25x) none (.call 29 (.cons (.t x22x) (.cons (.t x23x) (.cons (.t x24x) 
  .nil)))) (.cons (some x5x) none (.mv (.t x25x)) .nil)))))) (.seq (.reg (.cons (some x26x) none (.mv (.t x5x)) (.cons (some x27x) none (.bin .neq (.t x26x) (.c (.n 0))) .nil))) 
  (.cond (.t x27x) (.seq (.reg (.cons (some x28x) none (.mv (.t x5x)) (.cons (some x2x) none (.mv (.t x28x)) .nil))) .ret) .skip))))) (.reg (.cons (some x29x) none (.bin .add (.t 
  x17x) (.c (.n 1))) (.cons (some x17x) none (.mv (.t x29x)) .nil))))))))) (.seq (.seq (.draw [(.mk (some x30x) none true [] false [] [] [x1x] (.fad 1 (.t x1x)) false [] [] []), 
  (.mk (some x31x) none false [] false [true] [] [x30x] (.ld 1 false (.t x30x)) false [] [] []), (.mk (some x32x) none true [] false [true, true] [] [x31x] (.len (.t x31x)) false 
  [] [] []), (.mk (some x33x) none true [] false [false, false, false] [] [x1x] (.fad 0 (.t x1x)) false [] [] []), (.mk (some x34x) none false [] false [true, false, false, false] 
  [] [x33x] (.ld 1 false (.t x33x)) false [] [] []), (.mk (some x35x) none false [] false [true, true, false, false, false] [] [x34x] (.call 30 (.cons (.t x34x) .nil)) false [] [] 
  []), (.mk (some x36x) none true [] false [true, true, true, true, true, true] [] [x32x, x35x] (.bin .lss (.t x32x) (.t x35x)) false [] [] [])]) (.cond (.t x36x) (.seq (.reg 
  (.cons (some x2x) none (.mv (.c (.n 21))) .nil)) .ret) .skip)) (.seq (.reg (.cons (some x2x) none (.mv (.c (.n 0))) .nil)) .ret))))) [(.tmp x2x)])
theorem cc17 : compF Try.prog drops true true Try.f17 = some i17 := by kernel_rfl
noncomputable def i18 : FnI := (.mk true false (.seq (.reg (.cons (some x4x) none (.alloc 28 (.cons (.n 0) (.cons .ns .nil)) 2) .nil)) (.seq (.reg (.cons (some x7x) none (.mv (.t x0x)) (.cons (some x8x) none 
  (.build (.cons (.n 0) (.cons .ns .nil)) (.cons 0 1 (.t x7x) .nil)) (.cons (some x5x) none (.alloc 28 (.cons (.n 0) (.cons .ns .nil)) 2) (.cons none none (.st 2 (.t x5x) (.t x8x)) 
  .nil))))) (.seq (.seq (.reg (.cons (some x6x) none (.mv (.c (.n 0))) .nil)) (.block 0 (.loop (.seq (.seq (.reg (.cons (some x9x) none (.mv (.t x6x)) (.cons (some x10x) none (.bin 
  .add (.t x9x) (.c (.n 1))) (.cons (some x11x) none (.mv (.t x1x)) (.cons (some x12x) none (.len (.t x11x)) (.cons (some x13x) none (.bin .lss (.t x10x) (.t x12x)) .nil)))))) 
  (.cond (.t x13x) .skip (.exit 0))) (.seq (.block 1 (.draw [(.mk (some x16x) none true [] false [] [] [x5x] (.fad 1 (.t x5x)) false [] [] []), (.mk (some x17x) none false [] false 
  [true] [] [x16x] (.ld 1 false (.t x16x)) false [] [] []), (.mk (some x18x) none true [] false [false, false] [] [x1x] (.mv (.t x1x)) false [] [] []), (.mk (some x19x) none true 
  [] false [false, false, false] [] [x6x] (.mv (.t x6x)) false [] [] []), (.mk (some x20x) none true [] false [true, true, false, false] [] [x18x, x19x] (.ixs 1 (.t x18x) (.t 
  x19x)) false [] [] []), (.mk (some x21x) none false [] false [true, true, true, false, false] [] [x20x] (.ld 1 false (.t x20x)) false [] [] []), (.mk (some x22x) none true [] 
  false [false, false, false, false, false, false] [] [x1x] (.mv (.t x1x)) false [] [] []), (.mk (some x23x) none true [] false [false, false, false, false, false, false, false] [] 
  [x6x] (.mv (.t x6x)) false [] [] []), (.mk (some x24x) none true [] false [true, false, false, false, false, false, false, false] [] [x23x] (.bin .add (.t x23x) (.c (.n 1))) 
  false [] [] []), (.mk (some x25x) none true [] false [true, true, true, false, false, false, false, false, false] [] [x22x, x24x] (.ixs 1 (.t x22x) (.t x24x)) false [] [] []), 
  (.mk (some x26x) none false [] false [true, true, true, true, false, false, false, false, false, false] [] [x25x] (.ld 1 false (.t x25x)) false [] [] []), (.mk (some x27x) none 
  true [] false [true, true, true, true, true, true, true, true, true, false, false] [] [x21x, x26x] (.build (.cons (.n 0) (.cons (.n 0) .nil)) (.cons 0 1 (.t x21x) (.cons 1 1 (.t 
  x26x) .nil))) false [] [] []), (.mk (some x28x) none true [] true [true, true, true, true, true, true, true, true, true, true, false, false] [] [x27x] (.bsl 45 2 1 (.cons (.n 0) 
  (.cons (.n 0) .nil)) (.cons 0 2 (.t x27x) .nil)) false [] [] []), (.mk (some x29x) none false [x17x, x28x] true [true, true, true, true, true, true, true, true, true, true, true, 
  true, true] [] [x17x, x28x] (.app 45 2 16 (.t x17x) (.t x28x)) false [] [] []), (.mk (some x30x) none true [] false [true, true, true, true, true, true, true, true, true, true, 
  true, true, true, true] [] [x5x] (.fad 1 (.t x5x)) false [] [] []), (.mk none none false [x30x] false [true, true, true, true, true, true, true, true, true, true, true, true, 
  true, true, true] [] [x30x, x29x] (.st 1 (.t x30x) (.t x29x)) false [] [] [])])) (.reg (.cons (some x14x) none (.mv (.t x6x)) (.cons (some x15x) none (.bin .add (.t x14x) (.c (.n 
  2))) (.cons (some x6x) none (.mv (.t x15x)) .nil))))))))) (.seq (.reg (.cons (some x31x) none (.ld 2 true (.t x5x)) (.cons none none (.st 2 (.t x4x) (.t x31x)) .nil))) .ret)))) 
  [(.cell x4x 2 true)])
theorem cc18 : compF Try.prog drops true false Try.f18 = some i18 := by kernel_rfl
noncomputable def i19 : FnI := (compF Try.prog drops true true Try.f19).getD (.mk false false .skip [])
theorem cc19 : compF Try.prog drops true true Try.f19 = some i19 := by kernel_rfl
noncomputable def i20 : FnI := (.mk true false (.seq (.reg (.cons (some x4x) none (.mv (.c .ns)) .nil)) (.seq (.reg (.cons (some x12x) none (.mv (.t x0x)) (.cons (some x13x) none (.mks 3 1 8 1 (.cons (.n 0) 
  .nil) (.t x12x) (.t x12x)) (.cons (some x5x) none (.mv (.t x13x)) .nil)))) (.seq (.seq (.reg (.cons (some x14x) none (.mv (.t x0x)) (.cons (some x15x) none (.mv (.c (.n 0))) 
  .nil))) (.block 0 (.loop (.seq (.reg (.cons (some x16x) none (.bin .lss (.t x15x) (.t x14x)) .nil)) (.seq (.cond (.t x16x) .skip (.exit 0)) (.seq (.block 1 (.seq (.reg (.cons 
  (some x17x) none (.mv (.t x15x)) (.cons (some x6x) none (.mv (.t x17x)) .nil))) (.seq (.reg (.cons (some x18x) none (.mv (.t x0x)) (.cons (some x19x) none (.mv (.t x1x)) (.cons 
  (some x20x) none (.mv (.t x6x)) (.cons (some x21x) none (.call 35 (.cons (.t x18x) (.cons (.t x19x) (.cons (.t x20x) .nil)))) (.cons (some x22x) none (.len (.t x21x)) (.cons 
  (some x23x) none (.mv (.c (.n 0))) .nil))))))) (.block 2 (.loop (.seq (.reg (.cons (some x24x) none (.bin .lss (.t x23x) (.t x22x)) .nil)) (.seq (.cond (.t x24x) .skip (.exit 2)) 
  (.seq (.block 3 (.seq (.reg (.cons (some x25x) none (.mv (.t x23x)) (.cons (some x26x) none (.ixs 1 (.t x21x) (.t x23x)) (.cons (some x27x) none (.ld 1 false (.t x26x)) (.cons 
  (some x7x) none (.mv (.t x25x)) (.cons (some x8x) none (.mv (.t x27x)) .nil)))))) (.reg (.cons (some x28x) none (.mv (.t x5x)) (.cons (some x29x) none (.mv (.t x7x)) (.cons (some 
  x30x) none (.mv (.t x5x)) (.cons (some x31x) none (.mv (.t x7x)) (.cons (some x32x) none (.ixs 1 (.t x30x) (.t x31x)) (.cons (some x33x) none (.ld 1 false (.t x32x)) (.cons (some 
  x34x) none (.mv (.t x8x)) (.cons (some x35x) none (.mm true (.t x33x) (.cons (.t x34x) .nil)) (.cons (some x36x) none (.ixs 1 (.t x28x) (.t x29x)) (.cons none none (.st 1 (.t 
  x36x) (.t x35x)) .nil))))))))))))) (.reg (.cons (some x37x) none (.bin .add (.t x23x) (.c (.n 1))) (.cons (some x23x) none (.mv (.t x37x)) .nil))))))))))) (.reg (.cons (some 
  x38x) none (.bin .add (.t x15x) (.c (.n 1))) (.cons (some x15x) none (.mv (.t x38x)) .nil))))))))) (.seq (.reg (.cons (some x9x) none (.mv (.c .ns)) .nil)) (.seq (.seq (.reg 
  (.cons (some x39x) none (.mv (.t x5x)) (.cons (some x40x) none (.len (.t x39x)) (.cons (some x41x) none (.mv (.c (.n 0))) .nil)))) (.block 4 (.loop (.seq (.reg (.cons (some x42x) 
  none (.bin .lss (.t x41x) (.t x40x)) .nil)) (.seq (.cond (.t x42x) .skip (.exit 4)) (.seq (.block 5 (.seq (.reg (.cons (some x43x) none (.mv (.t x41x)) (.cons (some x44x) none 
  (.ixs 1 (.t x39x) (.t x41x)) (.cons (some x45x) none (.ld 1 false (.t x44x)) (.cons (some x10x) none (.mv (.t x43x)) (.cons (some x11x) none (.mv (.t x45x)) .nil)))))) (.seq 
  (.reg (.cons (some x46x) none (.mv (.t x11x)) (.cons (some x47x) none (.bin .leq (.t x46x) (.c (.n 2))) .nil))) (.cond (.t x47x) (.reg (.cons (some x48x) none (.mv (.t x9x)) 
  (.cons (some x49x) none (.mv (.t x10x)) (.cons (some x50x) none (.bsl 3 1 1 (.cons (.n 0) .nil) (.cons 0 1 (.t x49x) .nil)) (.cons (some x51x) none (.app 3 1 8 (.t x48x) (.t 
  x50x)) (.cons (some x9x) none (.mv (.t x51x)) .nil)))))) .skip)))) (.reg (.cons (some x52x) none (.bin .add (.t x41x) (.c (.n 1))) (.cons (some x41x) none (.mv (.t x52x)) 
  .nil))))))))) (.seq (.reg (.cons (some x53x) none (.mv (.t x9x)) (.cons (some x4x) none (.mv (.t x53x)) .nil))) .ret)))))) [(.tmp x4x)])
theorem cc20 : compF Try.prog drops true false Try.f20 = some i20 := by kernel_rfl
noncomputable def i21 : FnI := (.mk true true (.seq (.reg (.cons (some x3x) none (.box 28 (.t x0x)) (.cons (some x6x) none (.mv (.c (.b false))) .nil))) (.seq (.reg (.cons (some x10x) none (.mv (.t x1x)) (.cons 
  (some x11x) none (.mv (.t x2x)) (.cons (some x12x) none (.build (.cons (.n 0) (.cons (.n 0) .nil)) (.cons 0 1 (.t x10x) (.cons 1 1 (.t x11x) .nil))) (.cons (some x7x) none 
  (.alloc 45 (.cons (.n 0) (.cons (.n 0) .nil)) 2) (.cons none none (.st 2 (.t x7x) (.t x12x)) .nil)))))) (.seq (.seq (.reg (.cons (some x13x) none (.fad 1 (.t x3x)) (.cons (some 
  x14x) none (.ld 1 false (.t x13x)) (.cons (some x15x) none (.len (.t x14x)) (.cons (some x16x) none (.mv (.c (.n 0))) .nil))))) (.block 0 (.loop (.seq (.reg (.cons (some x17x) 
  none (.bin .lss (.t x16x) (.t x15x)) .nil)) (.seq (.cond (.t x17x) .skip (.exit 0)) (.seq (.block 1 (.seq (.reg (.cons (some x18x) none (.ixs 2 (.t x14x) (.t x16x)) (.cons (some 
  x19x) none (.ld 2 true (.t x18x)) (.cons (some x9x) none (.alloc 45 (.cons (.n 0) (.cons (.n 0) .nil)) 2) (.cons none none (.st 2 (.t x9x) (.t x19x)) .nil))))) (.seq (.reg (.cons 
  (some x20x) none (.ld 2 true (.t x9x)) (.cons (some x21x) none (.ld 2 true (.t x7x)) (.cons (some x22x) none (.eqa false (.st (.cons 0 1 false .int (.cons 1 1 false .int .nil))) 
  (.t x20x) (.t x21x)) .nil)))) (.cond (.t x22x) (.seq (.reg (.cons (some x6x) none (.mv (.c (.b true))) .nil)) .ret) .skip)))) (.reg (.cons (some x23x) none (.bin .add (.t x16x) 
  (.c (.n 1))) (.cons (some x16x) none (.mv (.t x23x)) .nil))))))))) (.seq (.reg (.cons (some x6x) none (.mv (.c (.b false))) .nil)) .ret)))) [(.tmp x6x)])
theorem cc21 : compF Try.prog drops true true Try.f21 = some i21 := by kernel_rfl
noncomputable def i22 : FnI := (.mk true true (.seq (.reg (.cons (some x4x) none (.mv (.c (.n 0))) .nil)) (.seq (.reg (.cons (some x5x) none (.alloc 3 (.cons (.n 0) .nil) 1) (.cons none none (.st 1 (.t x5x) (.c 
  (.n 0))) .nil))) (.seq (.reg (.cons (some x6x) none (.mv (.t x0x)) (.cons (some x7x) none (.mv (.t x1x)) (.cons (some x8x) none (.mkf 37 .nil (.cons (.t x5x) .nil)) (.cons (some 
  x9x) none (.call 36 (.cons (.c .ns) (.cons (.t x6x) (.cons (.t x7x) (.cons (.t x8x) .nil))))) .nil))))) (.seq (.reg (.cons (some x10x) none (.ld 1 false (.t x5x)) (.cons (some 
  x4x) none (.mv (.t x10x)) .nil))) .ret)))) [(.tmp x4x)])
theorem cc22 : compF Try.prog drops true true Try.f22 = some i22 := by kernel_rfl
noncomputable def i23 : FnI := (.mk true true (.seq (.reg (.cons (some x4x) none (.mv (.c (.n 0))) .nil)) (.seq (.reg (.cons (some x5x) none (.mv (.c (.n 0))) .nil)) (.seq (.seq (.reg (.cons (some x9x) none (.mv 
  (.t x0x)) (.cons (some x10x) none (.mv (.c (.n 0))) .nil))) (.block 0 (.loop (.seq (.reg (.cons (some x11x) none (.bin .lss (.t x10x) (.t x9x)) .nil)) (.seq (.cond (.t x11x) 
  .skip (.exit 0)) (.seq (.block 1 (.seq (.reg (.cons (some x12x) none (.mv (.t x10x)) (.cons (some x6x) none (.mv (.t x12x)) .nil))) (.seq (.reg (.cons (some x13x) none (.mv (.t 
  x6x)) (.cons (some x14x) none (.mv (.c (.n 0))) .nil))) (.block 2 (.loop (.seq (.reg (.cons (some x15x) none (.bin .lss (.t x14x) (.t x13x)) .nil)) (.seq (.cond (.t x15x) .skip 
  (.exit 2)) (.seq (.block 3 (.seq (.reg (.cons (some x16x) none (.mv (.t x14x)) (.cons (some x7x) none (.mv (.t x16x)) .nil))) (.seq (.reg (.cons (some x17x) none (.mv (.t x7x)) 
  (.cons (some x18x) none (.mv (.c (.n 0))) .nil))) (.block 4 (.loop (.seq (.reg (.cons (some x19x) none (.bin .lss (.t x18x) (.t x17x)) .nil)) (.seq (.cond (.t x19x) .skip (.exit 
  4)) (.seq (.block 5 (.seq (.reg (.cons (some x20x) none (.mv (.t x18x)) (.cons (some x8x) none (.mv (.t x20x)) .nil))) (.seq (.reg (.cons (some x21x) none (.mv (.t x1x)) (.cons 
  (some x22x) none (.mv (.t x8x)) (.cons (some x23x) none (.mv (.t x7x)) (.cons (some x24x) none (.callv (.t x21x) (.cons (.t x22x) (.cons (.t x23x) .nil))) (.cons (some x25x) none 
  (.mv (.t x1x)) (.cons (some x26x) none (.mv (.t x7x)) (.cons (some x27x) none (.mv (.t x6x)) (.cons (some x28x) none (.callv (.t x25x) (.cons (.t x26x) (.cons (.t x27x) .nil))) 
  (.cons (some x29x) none (.eqb false (.t x24x) (.t x28x)) (.cons (some x30x) none (.mv (.t x29x)) (.cons (some x31x) (some (.mk x30x true)) (.mv (.t x1x)) (.cons (some x32x) (some 
  (.mk x30x true)) (.mv (.t x7x)) (.cons (some x33x) (some (.mk x30x true)) (.mv (.t x6x)) (.cons (some x34x) (some (.mk x30x true)) (.callv (.t x31x) (.cons (.t x32x) (.cons (.t 
  x33x) .nil))) (.cons (some x35x) (some (.mk x30x true)) (.mv (.t x1x)) (.cons (some x36x) (some (.mk x30x true)) (.mv (.t x6x)) (.cons (some x37x) (some (.mk x30x true)) (.mv (.t 
  x8x)) (.cons (some x38x) (some (.mk x30x true)) (.callv (.t x35x) (.cons (.t x36x) (.cons (.t x37x) .nil))) (.cons (some x39x) (some (.mk x30x true)) (.eqb false (.t x34x) (.t 
  x38x)) (.cons (some x40x) none (.pick (.t x30x) (.t x39x) (.c (.b false))) .nil))))))))))))))))))))) (.cond (.t x40x) (.reg (.cons (some x41x) none (.mv (.t x5x)) (.cons (some 
  x42x) none (.bin .add (.t x41x) (.c (.n 1))) (.cons (some x5x) none (.mv (.t x42x)) .nil)))) .skip)))) (.reg (.cons (some x43x) none (.bin .add (.t x18x) (.c (.n 1))) (.cons 
  (some x18x) none (.mv (.t x43x)) .nil))))))))))) (.reg (.cons (some x44x) none (.bin .add (.t x14x) (.c (.n 1))) (.cons (some x14x) none (.mv (.t x44x)) .nil))))))))))) (.reg 
  (.cons (some x45x) none (.bin .add (.t x10x) (.c (.n 1))) (.cons (some x10x) none (.mv (.t x45x)) .nil))))))))) (.seq (.reg (.cons (some x46x) none (.mv (.t x5x)) (.cons (some 
  x4x) none (.mv (.t x46x)) .nil))) .ret)))) [(.tmp x4x)])
theorem cc23 : compF Try.prog drops true true Try.f23 = some i23 := by kernel_rfl
noncomputable def i24 : FnI := (.mk true true (.seq (.reg (.cons (some x2x) none (.box 28 (.t x0x)) (.cons (some x4x) none (.mv (.c (.b false))) .nil))) (.seq (.reg (.cons (some x5x) none (.mv (.t x1x)) (.cons 
  (some x6x) none (.bin .geq (.t x5x) (.c (.n 0))) (.cons (some x7x) none (.mv (.t x6x)) (.cons (some x8x) (some (.mk x7x true)) (.mv (.t x1x)) (.cons (some x9x) (some (.mk x7x 
  true)) (.fad 0 (.t x2x)) (.cons (some x10x) (some (.mk x7x true)) (.ld 1 false (.t x9x)) (.cons (some x11x) (some (.mk x7x true)) (.bin .lss (.t x8x) (.t x10x)) (.cons (some 
  x12x) none (.pick (.t x7x) (.t x11x) (.c (.b false))) (.cons (some x4x) none (.mv (.t x12x)) .nil)))))))))) .ret)) [(.tmp x4x)])
theorem cc24 : compF Try.prog drops true true Try.f24 = some i24 := by kernel_rfl
noncomputable def i25 : FnI := (.mk true false (.seq (.reg (.cons (some x8x) none (.mv (.c .ns)) .nil)) (.seq (.reg (.cons (some x13x) none (.mv (.t x0x)) (.cons (some x14x) none (.mv (.t x1x)) (.cons (some 
  x15x) none (.mv (.t x3x)) (.cons (some x16x) none (.call 35 (.cons (.t x13x) (.cons (.t x14x) (.cons (.t x15x) .nil)))) (.cons (some x9x) none (.mv (.t x16x)) .nil)))))) (.seq 
  (.seq (.reg (.cons (some x17x) none (.mv (.t x9x)) (.cons (some x18x) none (.mv (.t x2x)) (.cons (some x19x) none (.ixs 1 (.t x17x) (.t x18x)) (.cons (some x20x) none (.ld 1 
  false (.t x19x)) (.cons (some x21x) none (.bin .eql (.t x20x) (.c (.n 7))) .nil)))))) (.cond (.t x21x) (.seq (.reg (.cons (some x8x) none (.mv (.c .ns)) .nil)) .ret) .skip)) 
  (.seq (.reg (.cons (some x22x) none (.mv (.t x2x)) (.cons (some x23x) none (.bsl 3 1 1 (.cons (.n 0) .nil) (.cons 0 1 (.t x22x) .nil)) (.cons (some x10x) none (.mv (.t x23x)) 
  .nil)))) (.seq (.seq (.reg (.cons (some x24x) none (.mv (.t x2x)) (.cons (some x11x) none (.mv (.t x24x)) .nil))) (.block 0 (.loop (.seq (.seq (.reg (.cons (some x25x) none (.mv 
  (.t x11x)) (.cons (some x26x) none (.mv (.t x3x)) (.cons (some x27x) none (.bin .neq (.t x25x) (.t x26x)) .nil)))) (.cond (.t x27x) .skip (.exit 0))) (.block 1 (.seq (.reg (.cons 
  (some x12x) none (.mv (.c (.n 0))) .nil)) (.seq (.block 2 (.loop (.seq (.seq (.draw [(.mk (some x28x) none true [] false [] [] [x1x] (.mv (.t x1x)) false [] [] []), (.mk (some 
  x29x) none true [] false [false] [] [x11x] (.mv (.t x11x)) false [] [] []), (.mk (some x30x) none true [] false [false, false] [] [x12x] (.mv (.t x12x)) false [] [] []), (.mk 
  (some x31x) none false [] true [true, true, true] [] [x28x, x29x, x30x] (.callv (.t x28x) (.cons (.t x29x) (.cons (.t x30x) .nil))) true [] [] [x2000000x]), (.mk (some x32x) none 
  true [] false [true, true, true, true] [] [x31x] (.not (.t x31x)) false [] [] []), (.mk (some x33x) none true [] false [true, true, true, true, true] [] [x32x] (.mv (.t x32x)) 
  false [] [] []), (.mk (some x34x) (some (.mk x33x false)) true [] false [true, true, true, true, true, true] [] [x33x, x9x] (.mv (.t x9x)) false [] [] []), (.mk (some x35x) (some 
  (.mk x33x false)) true [] false [false, true, true, true, true, true, true] [] [x33x, x12x] (.mv (.t x12x)) false [] [] []), (.mk (some x36x) (some (.mk x33x false)) true [] 
  false [true, true, true, true, true, true, true, true] [] [x33x, x34x, x35x] (.ixs 1 (.t x34x) (.t x35x)) false [] [] []), (.mk (some x37x) (some (.mk x33x false)) false [] false 
  [true, true, true, true, true, true, true, true, true] [] [x33x, x36x] (.ld 1 false (.t x36x)) false [] [] []), (.mk (some x38x) (some (.mk x33x false)) true [] false [false, 
  false, false, false, true, true, true, true, true, true] [] [x33x, x9x] (.mv (.t x9x)) false [] [] []), (.mk (some x39x) (some (.mk x33x false)) true [] false [false, false, 
  false, false, false, true, true, true, true, true, true] [] [x33x, x11x] (.mv (.t x11x)) false [] [] []), (.mk (some x40x) (some (.mk x33x false)) true [] false [true, true, 
  false, false, false, false, true, true, true, true, true, true] [] [x33x, x38x, x39x] (.ixs 1 (.t x38x) (.t x39x)) false [] [] []), (.mk (some x41x) (some (.mk x33x false)) false 
  [] false [true, true, true, false, false, false, false, true, true, true, true, true, true] [] [x33x, x40x] (.ld 1 false (.t x40x)) false [] [] []), (.mk (some x42x) (some (.mk 
  x33x false)) true [] false [true, true, true, true, false, false, false, false, true, true, true, true, true, true] [] [x33x, x41x] (.bin .sub (.t x41x) (.c (.n 1))) false [] [] 
  []), (.mk (some x43x) (some (.mk x33x false)) true [] false [true, true, true, true, true, true, true, true, true, true, true, true, true, true, true] [] [x33x, x37x, x42x] (.bin 
  .neq (.t x37x) (.t x42x)) false [] [] []), (.mk (some x44x) none true [] false [true, true, true, true, true, true, true, true, true, true, true, true, true, true, true, true] [] 
  [x33x, x43x] (.pick (.t x33x) (.c (.b true)) (.t x43x)) false [] [] [])]) (.cond (.t x44x) .skip (.exit 2))) (.block 3 (.reg (.cons (some x45x) none (.mv (.t x12x)) (.cons (some 
  x46x) none (.bin .add (.t x45x) (.c (.n 1))) (.cons (some x12x) none (.mv (.t x46x)) .nil)))))))) (.seq (.reg (.cons (some x47x) none (.mv (.t x10x)) (.cons (some x48x) none (.mv 
  (.t x12x)) (.cons (some x49x) none (.bsl 3 1 1 (.cons (.n 0) .nil) (.cons 0 1 (.t x48x) .nil)) (.cons (some x50x) none (.app 3 1 8 (.t x47x) (.t x49x)) (.cons (some x10x) none 
  (.mv (.t x50x)) .nil)))))) (.reg (.cons (some x51x) none (.mv (.t x12x)) (.cons (some x11x) none (.mv (.t x51x)) .nil))))))))))) (.seq (.reg (.cons (some x52x) none (.mv (.t 
  x10x)) (.cons (some x8x) none (.mv (.t x52x)) .nil))) .ret)))))) [(.tmp x8x)])
theorem cc25 : compF Try.prog drops true false Try.f25 = some i25 := by kernel_rfl
noncomputable def i26 : FnI := (.mk true false (.seq (.reg (.cons (some x4x) none (.mv (.c .ns)) .nil)) (.seq (.reg (.cons (some x13x) none (.mv (.t x0x)) (.cons (some x14x) none (.mks 3 1 8 1 (.cons (.n 0) 
  .nil) (.t x13x) (.t x13x)) (.cons (some x5x) none (.mv (.t x14x)) .nil)))) (.seq (.seq (.reg (.cons (some x15x) none (.mv (.t x0x)) (.cons (some x16x) none (.mv (.c (.n 0))) 
  .nil))) (.block 0 (.loop (.seq (.reg (.cons (some x17x) none (.bin .lss (.t x16x) (.t x15x)) .nil)) (.seq (.cond (.t x17x) .skip (.exit 0)) (.seq (.block 1 (.seq (.reg (.cons 
  (some x18x) none (.mv (.t x16x)) (.cons (some x6x) none (.mv (.t x18x)) .nil))) (.seq (.reg (.cons (some x19x) none (.mv (.t x0x)) (.cons (some x20x) none (.mv (.t x1x)) (.cons 
  (some x21x) none (.mv (.t x6x)) (.cons (some x22x) none (.call 35 (.cons (.t x19x) (.cons (.t x20x) (.cons (.t x21x) .nil)))) (.cons (some x23x) none (.len (.t x22x)) (.cons 
  (some x24x) none (.mv (.c (.n 0))) .nil))))))) (.block 2 (.loop (.seq (.reg (.cons (some x25x) none (.bin .lss (.t x24x) (.t x23x)) .nil)) (.seq (.cond (.t x25x) .skip (.exit 2)) 
  (.seq (.block 3 (.seq (.reg (.cons (some x26x) none (.mv (.t x24x)) (.cons (some x27x) none (.ixs 1 (.t x22x) (.t x24x)) (.cons (some x28x) none (.ld 1 false (.t x27x)) (.cons 
  (some x7x) none (.mv (.t x26x)) (.cons (some x8x) none (.mv (.t x28x)) .nil)))))) (.seq (.reg (.cons (some x29x) none (.mv (.t x8x)) (.cons (some x30x) none (.bin .lss (.t x29x) 
  (.c (.n 7))) .nil))) (.cond (.t x30x) (.reg (.cons (some x31x) none (.mv (.t x5x)) (.cons (some x32x) none (.mv (.t x7x)) (.cons (some x33x) none (.ixs 1 (.t x31x) (.t x32x)) 
  (.cons (some x34x) none (.ld 1 false (.t x33x)) (.cons (some x35x) none (.bin .add (.t x34x) (.c (.n 1))) (.cons (some x36x) none (.ixs 1 (.t x31x) (.t x32x)) (.cons none none 
  (.st 1 (.t x36x) (.t x35x)) .nil)))))))) .skip)))) (.reg (.cons (some x37x) none (.bin .add (.t x24x) (.c (.n 1))) (.cons (some x24x) none (.mv (.t x37x)) .nil))))))))))) (.reg 
  (.cons (some x38x) none (.bin .add (.t x16x) (.c (.n 1))) (.cons (some x16x) none (.mv (.t x38x)) .nil))))))))) (.seq (.reg (.cons (some x9x) none (.mv (.c .ns)) .nil)) (.seq 
  (.seq (.reg (.cons (some x39x) none (.mv (.t x0x)) (.cons (some x10x) none (.mv (.t x39x)) .nil))) (.block 4 (.loop (.seq (.seq (.reg (.cons (some x40x) none (.mv (.t x10x)) 
  (.cons (some x41x) none (.bin .gtr (.t x40x) (.c (.n 0))) .nil))) (.cond (.t x41x) .skip (.exit 4))) (.seq (.block 5 (.seq (.reg (.cons (some x11x) none (.mv (.c .ns)) .nil)) 
  (.seq (.seq (.reg (.cons (some x44x) none (.mv (.t x0x)) (.cons (some x45x) none (.mv (.c (.n 0))) .nil))) (.block 6 (.loop (.seq (.reg (.cons (some x46x) none (.bin .lss (.t 
  x45x) (.t x44x)) .nil)) (.seq (.cond (.t x46x) .skip (.exit 6)) (.seq (.block 7 (.seq (.reg (.cons (some x47x) none (.mv (.t x45x)) (.cons (some x12x) none (.mv (.t x47x)) 
  .nil))) (.seq (.reg (.cons (some x48x) none (.mv (.t x5x)) (.cons (some x49x) none (.mv (.t x12x)) (.cons (some x50x) none (.ixs 1 (.t x48x) (.t x49x)) (.cons (some x51x) none 
  (.ld 1 false (.t x50x)) (.cons (some x52x) none (.mv (.t x10x)) (.cons (some x53x) none (.bin .eql (.t x51x) (.t x52x)) .nil))))))) (.cond (.t x53x) (.reg (.cons (some x54x) none 
  (.mv (.t x11x)) (.cons (some x55x) none (.mv (.t x12x)) (.cons (some x56x) none (.bsl 3 1 1 (.cons (.n 0) .nil) (.cons 0 1 (.t x55x) .nil)) (.cons (some x57x) none (.app 3 1 8 
  (.t x54x) (.t x56x)) (.cons (some x11x) none (.mv (.t x57x)) .nil)))))) .skip)))) (.reg (.cons (some x58x) none (.bin .add (.t x45x) (.c (.n 1))) (.cons (some x45x) none (.mv (.t 
  x58x)) .nil))))))))) (.seq (.reg (.cons (some x59x) none (.mv (.t x11x)) (.cons (some x60x) none (.len (.t x59x)) (.cons (some x61x) none (.bin .gtr (.t x60x) (.c (.n 0))) 
  .nil)))) (.cond (.t x61x) (.reg (.cons (some x62x) none (.mv (.t x9x)) (.cons (some x63x) none (.mv (.t x11x)) (.cons (some x64x) none (.bsl 22 1 1 (.cons .ns .nil) (.cons 0 1 
  (.t x63x) .nil)) (.cons (some x65x) none (.app 22 1 24 (.t x62x) (.t x64x)) (.cons (some x9x) none (.mv (.t x65x)) .nil)))))) .skip))))) (.reg (.cons (some x42x) none (.mv (.t 
  x10x)) (.cons (some x43x) none (.bin .sub (.t x42x) (.c (.n 1))) (.cons (some x10x) none (.mv (.t x43x)) .nil))))))))) (.seq (.reg (.cons (some x66x) none (.mv (.t x9x)) (.cons 
  (some x4x) none (.mv (.t x66x)) .nil))) .ret)))))) [(.tmp x4x)])
theorem cc26 : compF Try.prog drops true false Try.f26 = some i26 := by kernel_rfl
noncomputable def i27 : FnI := (.mk true true (.seq (.reg (.cons (some x2x) none (.mv (.c (.n 0))) .nil)) (.seq (.seq (.reg (.cons (some x6x) none (.mv (.t x0x)) (.cons (some x7x) none (.len (.t x6x)) (.cons 
  (some x8x) none (.bin .eql (.t x7x) (.c (.n 0))) .nil)))) (.cond (.t x8x) (.seq (.reg (.cons (some x2x) none (.mv (.c (.n 4))) .nil)) .ret) .skip)) (.seq (.seq (.reg (.cons (some 
  x9x) none (.mv (.t x0x)) (.cons (some x10x) none (.len (.t x9x)) (.cons (some x11x) none (.bin .gtr (.t x10x) (.c (.n 7))) .nil)))) (.cond (.t x11x) (.seq (.reg (.cons (some x2x) 
  none (.mv (.c (.n 3))) .nil)) .ret) .skip)) (.seq (.reg (.cons (some x3x) none (.mv (.c (.n 0))) .nil)) (.seq (.seq (.reg (.cons (some x12x) none (.mv (.t x0x)) (.cons (some 
  x13x) none (.len (.t x12x)) (.cons (some x14x) none (.mv (.c (.n 0))) .nil)))) (.block 0 (.loop (.seq (.reg (.cons (some x15x) none (.bin .lss (.t x14x) (.t x13x)) .nil)) (.seq 
  (.cond (.t x15x) .skip (.exit 0)) (.seq (.block 1 (.seq (.reg (.cons (some x16x) none (.ixs 1 (.t x12x) (.t x14x)) (.cons (some x17x) none (.ld 1 false (.t x16x)) (.cons (some 
  x5x) none (.mv (.t x17x)) .nil)))) (.seq (.seq (.reg (.cons (some x18x) none (.mv (.t x5x)) (.cons (some x19x) none (.bin .lss (.t x18x) (.c (.n 0))) (.cons (some x20x) none (.mv 
  (.t x19x)) (.cons (some x21x) (some (.mk x20x false)) (.mv (.t x5x)) (.cons (some x22x) (some (.mk x20x false)) (.mv (.t x0x)) (.cons (some x23x) (some (.mk x20x false)) (.len 
  (.t x22x)) (.cons (some x24x) (some (.mk x20x false)) (.bin .geq (.t x21x) (.t x23x)) (.cons (some x25x) none (.pick (.t x20x) (.c (.b true)) (.t x24x)) .nil))))))))) (.cond (.t 
  x25x) (.seq (.reg (.cons (some x2x) none (.mv (.c (.n 1))) .nil)) .ret) .skip)) (.reg (.cons (some x26x) none (.mv (.t x3x)) (.cons (some x27x) none (.mv (.t x5x)) (.cons (some 
  x28x) none (.bin .add (.t x26x) (.t x27x)) (.cons (some x3x) none (.mv (.t x28x)) .nil)))))))) (.reg (.cons (some x29x) none (.bin .add (.t x14x) (.c (.n 1))) (.cons (some x14x) 
  none (.mv (.t x29x)) .nil))))))))) (.seq (.seq (.reg (.cons (some x30x) none (.mv (.t x3x)) (.cons (some x31x) none (.mv (.t x0x)) (.cons (some x32x) none (.len (.t x31x)) (.cons 
  (some x33x) none (.call 30 (.cons (.t x32x) .nil)) (.cons (some x34x) none (.bin .neq (.t x30x) (.t x33x)) .nil)))))) (.cond (.t x34x) (.seq (.reg (.cons (some x2x) none (.mv (.c 
  (.n 17))) .nil)) .ret) .skip)) (.seq (.reg (.cons (some x2x) none (.mv (.c (.n 0))) .nil)) .ret))))))) [(.tmp x2x)])
theorem cc27 : compF Try.prog drops true true Try.f27 = some i27 := by kernel_rfl
noncomputable def i28 : FnI := (.mk true false (.seq (.reg (.cons (some x2x) none (.mv (.c .ns)) .nil)) (.seq (.reg (.cons (some x3x) none (.mv (.c .ns)) .nil)) (.seq (.seq (.reg (.cons (some x6x) none (.mv (.t 
  x0x)) (.cons (some x7x) none (.len (.t x6x)) (.cons (some x8x) none (.bin .shl (.c (.n 1)) (.t x7x)) (.cons (some x9x) none (.mv (.c (.n 0))) .nil))))) (.block 0 (.loop (.seq 
  (.reg (.cons (some x10x) none (.bin .lss (.t x9x) (.t x8x)) .nil)) (.seq (.cond (.t x10x) .skip (.exit 0)) (.seq (.block 1 (.seq (.reg (.cons (some x11x) none (.mv (.t x9x)) 
  (.cons (some x4x) none (.mv (.t x11x)) .nil))) (.seq (.reg (.cons (some x12x) none (.mv (.t x4x)) (.cons (some x13x) none (.mv (.t x0x)) (.cons (some x14x) none (.len (.t x13x)) 
  (.cons (some x15x) none (.call 38 (.cons (.t x12x) (.cons (.t x14x) .nil))) (.cons (some x5x) none (.mv (.t x15x)) .nil)))))) (.seq (.reg (.cons (some x16x) none (.mv (.t x0x)) 
  (.cons (some x17x) none (.mv (.t x5x)) (.cons (some x18x) none (.call 39 (.cons (.t x16x) (.cons (.t x17x) .nil))) (.cons (some x19x) none (.mv (.t x18x)) (.cons (some x20x) 
  (some (.mk x19x true)) (.mv (.t x3x)) (.cons (some x21x) (some (.mk x19x true)) (.eqn false (.t x20x) (.c .ns)) (.cons (some x22x) (some (.mk x19x true)) (.mv (.t x21x)) (.cons 
  (some x23x) (some (.mk x22x false)) (.mv (.t x5x)) (.cons (some x24x) (some (.mk x22x false)) (.mv (.t x3x)) (.cons (some x25x) (some (.mk x22x false)) (.call 40 (.cons (.t x23x) 
  (.cons (.t x24x) .nil))) (.cons (some x26x) (some (.mk x19x true)) (.pick (.t x22x) (.c (.b true)) (.t x25x)) (.cons (some x27x) none (.pick (.t x19x) (.t x26x) (.c (.b false))) 
  .nil))))))))))))) (.cond (.t x27x) (.reg (.cons (some x28x) none (.mv (.t x5x)) (.cons (some x3x) none (.mv (.t x28x)) .nil))) .skip))))) (.reg (.cons (some x29x) none (.bin .add 
  (.t x9x) (.c (.n 1))) (.cons (some x9x) none (.mv (.t x29x)) .nil))))))))) (.seq (.reg (.cons (some x30x) none (.mv (.t x3x)) (.cons (some x2x) none (.mv (.t x30x)) .nil))) 
  .ret)))) [(.tmp x2x)])
theorem cc28 : compF Try.prog drops true false Try.f28 = some i28 := by kernel_rfl
noncomputable def i29 : FnI := (.mk true true (.seq (.reg (.cons (some x3x) none (.box 28 (.t x0x)) (.cons (some x5x) none (.box 45 (.t x2x)) (.cons (some x6x) none (.mv (.c (.n 0))) .nil)))) (.seq (.seq (.reg 
  (.cons (some x10x) none (.ld 2 true (.t x3x)) (.cons (some x11x) none (.fad 0 (.t x5x)) (.cons (some x12x) none (.ld 1 false (.t x11x)) (.cons (some x13x) none (.call 24 (.cons 
  (.t x10x) (.cons (.t x12x) .nil))) (.cons (some x14x) none (.not (.t x13x)) (.cons (some x15x) none (.mv (.t x14x)) (.cons (some x16x) (some (.mk x15x false)) (.ld 2 true (.t 
  x3x)) (.cons (some x17x) (some (.mk x15x false)) (.fad 1 (.t x5x)) (.cons (some x18x) (some (.mk x15x false)) (.ld 1 false (.t x17x)) (.cons (some x19x) (some (.mk x15x false)) 
  (.call 24 (.cons (.t x16x) (.cons (.t x18x) .nil))) (.cons (some x20x) (some (.mk x15x false)) (.not (.t x19x)) (.cons (some x21x) none (.pick (.t x15x) (.c (.b true)) (.t x20x)) 
  .nil))))))))))))) (.cond (.t x21x) (.seq (.reg (.cons (some x6x) none (.mv (.c (.n 2))) .nil)) .ret) .skip)) (.seq (.seq (.reg (.cons (some x22x) none (.fad 0 (.t x5x)) (.cons 
  (some x23x) none (.ld 1 false (.t x22x)) (.cons (some x24x) none (.fad 1 (.t x5x)) (.cons (some x25x) none (.ld 1 false (.t x24x)) (.cons (some x26x) none (.bin .eql (.t x23x) 
  (.t x25x)) .nil)))))) (.cond (.t x26x) (.seq (.reg (.cons (some x6x) none (.mv (.c (.n 13))) .nil)) .ret) .skip)) (.seq (.reg (.cons (some x27x) none (.fad 1 (.t x5x)) (.cons 
  (some x28x) none (.ld 1 false (.t x27x)) (.cons (some x29x) none (.fad 0 (.t x5x)) (.cons (some x30x) none (.ld 1 false (.t x29x)) (.cons (some x31x) none (.build (.cons (.n 0) 
  (.cons (.n 0) .nil)) (.cons 0 1 (.t x28x) (.cons 1 1 (.t x30x) .nil))) (.cons (some x7x) none (.alloc 45 (.cons (.n 0) (.cons (.n 0) .nil)) 2) (.cons none none (.st 2 (.t x7x) 
  (.t x31x)) .nil)))))))) (.seq (.seq (.reg (.cons (some x32x) none (.fad 1 (.t x3x)) (.cons (some x33x) none (.ld 1 false (.t x32x)) (.cons (some x34x) none (.mv (.t x1x)) (.cons 
  (some x35x) none (.slc 2 (.t x33x) none (some (.t x34x)) none) (.cons (some x36x) none (.len (.t x35x)) (.cons (some x37x) none (.mv (.c (.n 0))) .nil))))))) (.block 0 (.loop 
  (.seq (.reg (.cons (some x38x) none (.bin .lss (.t x37x) (.t x36x)) .nil)) (.seq (.cond (.t x38x) .skip (.exit 0)) (.seq (.block 1 (.seq (.reg (.cons (some x39x) none (.ixs 2 (.t 
  x35x) (.t x37x)) (.cons (some x40x) none (.ld 2 true (.t x39x)) (.cons (some x9x) none (.alloc 45 (.cons (.n 0) (.cons (.n 0) .nil)) 2) (.cons none none (.st 2 (.t x9x) (.t 
  x40x)) .nil))))) (.seq (.reg (.cons (some x41x) none (.ld 2 true (.t x9x)) (.cons (some x42x) none (.ld 2 true (.t x5x)) (.cons (some x43x) none (.eqa false (.st (.cons 0 1 false 
  .int (.cons 1 1 false .int .nil))) (.t x41x) (.t x42x)) (.cons (some x44x) none (.mv (.t x43x)) (.cons (some x45x) (some (.mk x44x false)) (.ld 2 true (.t x9x)) (.cons (some 
  x46x) (some (.mk x44x false)) (.ld 2 true (.t x7x)) (.cons (some x47x) (some (.mk x44x false)) (.eqa false (.st (.cons 0 1 false .int (.cons 1 1 false .int .nil))) (.t x45x) (.t 
  x46x)) (.cons (some x48x) none (.pick (.t x44x) (.c (.b true)) (.t x47x)) .nil))))))))) (.cond (.t x48x) (.seq (.reg (.cons (some x6x) none (.mv (.c (.n 6))) .nil)) .ret) 
  .skip)))) (.reg (.cons (some x49x) none (.bin .add (.t x37x) (.c (.n 1))) (.cons (some x37x) none (.mv (.t x49x)) .nil))))))))) (.seq (.reg (.cons (some x6x) none (.mv (.c (.n 
  0))) .nil)) .ret)))))) [(.tmp x6x)])
theorem cc29 : compF Try.prog drops true true Try.f29 = some i29 := by kernel_rfl
noncomputable def i30 : FnI := (.mk true true (.seq (.reg (.cons (some x2x) none (.mv (.c (.n 0))) .nil)) (.seq (.reg (.cons (some x3x) none (.mv (.t x0x)) (.cons (some x4x) none (.mv (.t x0x)) (.cons (some x5x) 
  none (.bin .sub (.t x4x) (.c (.n 1))) (.cons (some x6x) none (.bin .mul (.t x3x) (.t x5x)) (.cons (some x7x) none (.bin .quo (.t x6x) (.c (.n 2))) (.cons (some x2x) none (.mv (.t 
  x7x)) .nil))))))) .ret)) [(.tmp x2x)])
theorem cc30 : compF Try.prog drops true true Try.f30 = some i30 := by kernel_rfl
noncomputable def i31 : FnI := (.mk true false (.seq (.reg (.cons (some x1x) none (.box 28 (.t x0x)) (.cons (some x2x) none (.mv (.c .ns)) (.cons (some x3x) none (.mv (.c (.n 0))) .nil)))) (.seq (.seq (.reg 
  (.cons (some x5x) none (.ld 2 true (.t x1x)) (.cons (some x6x) none (.call 17 (.cons (.t x5x) .nil)) (.cons (some x4x) none (.mv (.t x6x)) .nil)))) (.seq (.reg (.cons (some x7x) 
  none (.mv (.t x4x)) (.cons (some x8x) none (.bin .neq (.t x7x) (.c (.n 0))) .nil))) (.cond (.t x8x) (.seq (.reg (.cons (some x9x) none (.mv (.t x4x)) (.cons (some x2x) none (.mv 
  (.c .ns)) (.cons (some x3x) none (.mv (.t x9x)) .nil)))) .ret) .skip))) (.seq (.reg (.cons (some x10x) none (.fad 0 (.t x1x)) (.cons (some x11x) none (.ld 1 false (.t x10x)) 
  (.cons (some x12x) none (.ld 2 true (.t x1x)) (.cons (some x13x) none (.mkf 21 (.cons (.t x12x) .nil) .nil) (.cons (some x14x) none (.call 41 (.cons (.t x11x) (.cons (.t x13x) 
  (.cons (.c (.fn 42 .nil .nil)) .nil)))) (.cons (some x2x) none (.mv (.t x14x)) (.cons (some x3x) none (.mv (.c (.n 0))) .nil)))))))) .ret))) [(.tmp x2x), (.tmp x3x)])
theorem cc31 : compF Try.prog drops true false Try.f31 = some i31 := by kernel_rfl
noncomputable def i32 : FnI := (.mk true false (.seq (.reg (.cons (some x1x) none (.box 28 (.t x0x)) (.cons (some x2x) none (.mv (.c .ns)) (.cons (some x3x) none (.mv (.c (.n 0))) .nil)))) (.seq (.seq (.reg 
  (.cons (some x7x) none (.ld 2 true (.t x1x)) (.cons (some x8x) none (.call 17 (.cons (.t x7x) .nil)) (.cons (some x4x) none (.mv (.t x8x)) .nil)))) (.seq (.reg (.cons (some x9x) 
  none (.mv (.t x4x)) (.cons (some x10x) none (.bin .neq (.t x9x) (.c (.n 0))) .nil))) (.cond (.t x10x) (.seq (.reg (.cons (some x11x) none (.mv (.t x4x)) (.cons (some x2x) none 
  (.mv (.c .ns)) (.cons (some x3x) none (.mv (.t x11x)) .nil)))) .ret) .skip))) (.seq (.reg (.cons (some x12x) none (.ld 2 true (.t x1x)) (.cons (some x13x) none (.mkf 21 (.cons 
  (.t x12x) .nil) .nil) (.cons (some x5x) none (.alloc 47 (.cons .nf .nil) 1) (.cons none none (.st 1 (.t x5x) (.t x13x)) .nil))))) (.seq (.reg (.cons (some x14x) none (.fad 0 (.t 
  x1x)) (.cons (some x15x) none (.ld 1 false (.t x14x)) (.cons (some x16x) none (.ld 1 false (.t x5x)) (.cons (some x17x) none (.mkf 43 .nil (.cons (.t x5x) .nil)) (.cons (some 
  x18x) none (.call 41 (.cons (.t x15x) (.cons (.t x16x) (.cons (.t x17x) .nil)))) (.cons (some x6x) none (.mv (.t x18x)) .nil))))))) (.seq (.seq (.reg (.cons (some x19x) none (.mv 
  (.t x6x)) (.cons (some x20x) none (.len (.t x19x)) (.cons (some x21x) none (.bin .eql (.t x20x) (.c (.n 0))) .nil)))) (.cond (.t x21x) (.seq (.reg (.cons (some x2x) none (.mv (.c 
  .ns)) (.cons (some x3x) none (.mv (.c (.n 12))) .nil))) .ret) .skip)) (.seq (.reg (.cons (some x22x) none (.mv (.t x6x)) (.cons (some x2x) none (.mv (.t x22x)) (.cons (some x3x) 
  none (.mv (.c (.n 0))) .nil)))) .ret)))))) [(.tmp x2x), (.tmp x3x)])
theorem cc32 : compF Try.prog drops true false Try.f32 = some i32 := by kernel_rfl
noncomputable def i33 : FnI := (.mk true false (.seq (.reg (.cons (some x2x) none (.alloc 28 (.cons (.n 0) (.cons .ns .nil)) 2) (.cons (some x3x) none (.mv (.c (.n 0))) .nil))) (.seq (.seq (.reg (.cons (some 
  x5x) none (.mv (.t x0x)) (.cons (some x6x) none (.call 27 (.cons (.t x5x) .nil)) (.cons (some x4x) none (.mv (.t x6x)) .nil)))) (.seq (.reg (.cons (some x7x) none (.mv (.t x4x)) 
  (.cons (some x8x) none (.bin .neq (.t x7x) (.c (.n 0))) .nil))) (.cond (.t x8x) (.seq (.reg (.cons (some x9x) none (.build (.cons (.n 0) (.cons .ns .nil)) .nil) (.cons (some 
  x10x) none (.mv (.t x4x)) (.cons none none (.st 2 (.t x2x) (.t x9x)) (.cons (some x3x) none (.mv (.t x10x)) .nil))))) .ret) .skip))) (.seq (.seq (.reg (.cons (some x11x) none 
  (.mv (.t x0x)) (.cons (some x12x) none (.call 28 (.cons (.t x11x) .nil)) (.cons (some x13x) none (.len (.t x12x)) (.cons (some x14x) none (.bin .gtr (.t x13x) (.c (.n 0))) 
  .nil))))) (.cond (.t x14x) (.seq (.reg (.cons (some x15x) none (.build (.cons (.n 0) (.cons .ns .nil)) .nil) (.cons none none (.st 2 (.t x2x) (.t x15x)) (.cons (some x3x) none 
  (.mv (.c (.n 12))) .nil)))) .ret) .skip)) (.seq (.reg (.cons (some x16x) none (.mv (.t x0x)) (.cons (some x17x) none (.len (.t x16x)) (.cons (some x18x) none (.mv (.t x0x)) 
  (.cons (some x19x) none (.call 44 (.cons (.t x18x) .nil)) (.cons (some x20x) none (.build (.cons (.n 0) (.cons .ns .nil)) (.cons 0 1 (.t x17x) (.cons 1 1 (.t x19x) .nil))) (.cons 
  none none (.st 2 (.t x2x) (.t x20x)) (.cons (some x3x) none (.mv (.c (.n 0))) .nil)))))))) .ret)))) [(.cell x2x 2 true), (.tmp x3x)])
theorem cc33 : compF Try.prog drops true false Try.f33 = some i33 := by kernel_rfl
noncomputable def i34 : FnI := (.mk true true (.seq (.reg (.cons (some x4x) none (.mv (.c (.n 0))) .nil)) (.seq (.seq (.reg (.cons (some x8x) none (.mv (.t x0x)) (.cons (some x9x) none (.call 27 (.cons (.t x8x) 
  .nil)) (.cons (some x5x) none (.mv (.t x9x)) .nil)))) (.seq (.reg (.cons (some x10x) none (.mv (.t x5x)) (.cons (some x11x) none (.bin .neq (.t x10x) (.c (.n 0))) .nil))) (.cond 
  (.t x11x) (.seq (.reg (.cons (some x12x) none (.mv (.t x5x)) (.cons (some x4x) none (.mv (.t x12x)) .nil))) .ret) .skip))) (.seq (.seq (.reg (.cons (some x13x) none (.mv (.t 
  x1x)) (.cons (some x14x) none (.len (.t x13x)) (.cons (some x15x) none (.mv (.c (.n 0))) .nil)))) (.block 0 (.loop (.seq (.reg (.cons (some x16x) none (.bin .lss (.t x15x) (.t 
  x14x)) .nil)) (.seq (.cond (.t x16x) .skip (.exit 0)) (.seq (.block 1 (.seq (.reg (.cons (some x17x) none (.mv (.t x15x)) (.cons (some x18x) none (.ixs 1 (.t x13x) (.t x15x)) 
  (.cons (some x19x) none (.ld 1 false (.t x18x)) (.cons (some x6x) none (.mv (.t x17x)) (.cons (some x7x) none (.mv (.t x19x)) .nil)))))) (.seq (.seq (.reg (.cons (some x20x) none 
  (.mv (.t x7x)) (.cons (some x21x) none (.bin .lss (.t x20x) (.c (.n 0))) (.cons (some x22x) none (.mv (.t x21x)) (.cons (some x23x) (some (.mk x22x false)) (.mv (.t x7x)) (.cons 
  (some x24x) (some (.mk x22x false)) (.mv (.t x0x)) (.cons (some x25x) (some (.mk x22x false)) (.len (.t x24x)) (.cons (some x26x) (some (.mk x22x false)) (.bin .geq (.t x23x) (.t 
  x25x)) (.cons (some x27x) none (.pick (.t x22x) (.c (.b true)) (.t x26x)) .nil))))))))) (.cond (.t x27x) (.seq (.reg (.cons (some x4x) none (.mv (.c (.n 2))) .nil)) .ret) .skip)) 
  (.seq (.reg (.cons (some x28x) none (.mv (.t x6x)) (.cons (some x29x) none (.bin .gtr (.t x28x) (.c (.n 0))) (.cons (some x30x) none (.mv (.t x29x)) (.cons (some x31x) (some (.mk 
  x30x true)) (.mv (.t x7x)) (.cons (some x32x) (some (.mk x30x true)) (.mv (.t x1x)) (.cons (some x33x) (some (.mk x30x true)) (.mv (.t x6x)) (.cons (some x34x) (some (.mk x30x 
  true)) (.bin .sub (.t x33x) (.c (.n 1))) (.cons (some x35x) (some (.mk x30x true)) (.ixs 1 (.t x32x) (.t x34x)) (.cons (some x36x) (some (.mk x30x true)) (.ld 1 false (.t x35x)) 
  (.cons (some x37x) (some (.mk x30x true)) (.bin .leq (.t x31x) (.t x36x)) (.cons (some x38x) none (.pick (.t x30x) (.t x37x) (.c (.b false))) .nil)))))))))))) (.cond (.t x38x) 
  (.seq (.reg (.cons (some x4x) none (.mv (.c (.n 7))) .nil)) .ret) .skip))))) (.reg (.cons (some x39x) none (.bin .add (.t x15x) (.c (.n 1))) (.cons (some x15x) none (.mv (.t 
  x39x)) .nil))))))))) (.seq (.seq (.reg (.cons (some x40x) none (.mv (.t x0x)) (.cons (some x41x) none (.mv (.t x1x)) (.cons (some x42x) none (.call 39 (.cons (.t x40x) (.cons (.t 
  x41x) .nil))) (.cons (some x43x) none (.not (.t x42x)) .nil))))) (.cond (.t x43x) (.seq (.reg (.cons (some x4x) none (.mv (.c (.n 14))) .nil)) .ret) .skip)) (.seq (.reg (.cons 
  (some x4x) none (.mv (.c (.n 0))) .nil)) .ret))))) [(.tmp x4x)])
theorem cc34 : compF Try.prog drops true true Try.f34 = some i34 := by kernel_rfl
noncomputable def i35 : FnI := (.mk true false (.seq (.reg (.cons (some x6x) none (.mv (.c .ns)) .nil)) (.seq (.reg (.cons (some x13x) none (.mv (.t x0x)) (.cons (some x14x) none (.mks 3 1 8 1 (.cons (.n 0) 
  .nil) (.t x13x) (.t x13x)) (.cons (some x7x) none (.mv (.t x14x)) .nil)))) (.seq (.seq (.reg (.cons (some x15x) none (.mv (.t x7x)) (.cons (some x16x) none (.len (.t x15x)) 
  (.cons (some x17x) none (.mv (.c (.n 0))) .nil)))) (.block 0 (.loop (.seq (.reg (.cons (some x18x) none (.bin .lss (.t x17x) (.t x16x)) .nil)) (.seq (.cond (.t x18x) .skip (.exit 
  0)) (.seq (.block 1 (.seq (.reg (.cons (some x19x) none (.mv (.t x17x)) (.cons (some x8x) none (.mv (.t x19x)) .nil))) (.reg (.cons (some x20x) none (.mv (.t x7x)) (.cons (some 
  x21x) none (.mv (.t x8x)) (.cons (some x22x) none (.ixs 1 (.t x20x) (.t x21x)) (.cons none none (.st 1 (.t x22x) (.c (.n 7))) .nil))))))) (.reg (.cons (some x23x) none (.bin .add 
  (.t x17x) (.c (.n 1))) (.cons (some x17x) none (.mv (.t x23x)) .nil))))))))) (.seq (.reg (.cons (some x24x) none (.mv (.t x7x)) (.cons (some x25x) none (.mv (.t x2x)) (.cons 
  (some x26x) none (.ixs 1 (.t x24x) (.t x25x)) (.cons none none (.st 1 (.t x26x) (.c (.n 0))) .nil))))) (.seq (.reg (.cons (some x27x) none (.mv (.t x2x)) (.cons (some x28x) none 
  (.bsl 3 1 1 (.cons (.n 0) .nil) (.cons 0 1 (.t x27x) .nil)) (.cons (some x9x) none (.mv (.t x28x)) .nil)))) (.seq (.seq (.reg (.cons (some x10x) none (.mv (.c (.n 0))) .nil)) 
  (.block 2 (.loop (.seq (.seq (.reg (.cons (some x29x) none (.mv (.t x10x)) (.cons (some x30x) none (.mv (.t x9x)) (.cons (some x31x) none (.len (.t x30x)) (.cons (some x32x) none 
  (.bin .lss (.t x29x) (.t x31x)) .nil))))) (.cond (.t x32x) .skip (.exit 2))) (.seq (.block 3 (.seq (.reg (.cons (some x35x) none (.mv (.t x9x)) (.cons (some x36x) none (.mv (.t 
  x10x)) (.cons (some x37x) none (.ixs 1 (.t x35x) (.t x36x)) (.cons (some x38x) none (.ld 1 false (.t x37x)) (.cons (some x11x) none (.mv (.t x38x)) .nil)))))) (.seq (.reg (.cons 
  (some x39x) none (.mv (.t x0x)) (.cons (some x40x) none (.mv (.c (.n 0))) .nil))) (.block 4 (.loop (.seq (.reg (.cons (some x41x) none (.bin .lss (.t x40x) (.t x39x)) .nil)) 
  (.seq (.cond (.t x41x) .skip (.exit 4)) (.seq (.block 5 (.seq (.reg (.cons (some x42x) none (.mv (.t x40x)) (.cons (some x12x) none (.mv (.t x42x)) .nil))) (.seq (.reg (.cons 
  (some x43x) none (.mv (.t x7x)) (.cons (some x44x) none (.mv (.t x12x)) (.cons (some x45x) none (.ixs 1 (.t x43x) (.t x44x)) (.cons (some x46x) none (.ld 1 false (.t x45x)) 
  (.cons (some x47x) none (.bin .eql (.t x46x) (.c (.n 7))) (.cons (some x48x) none (.mv (.t x47x)) (.cons (some x49x) (some (.mk x48x true)) (.mv (.t x1x)) (.cons (some x50x) 
  (some (.mk x48x true)) (.mv (.t x12x)) (.cons (some x51x) (some (.mk x48x true)) (.mv (.t x11x)) (.cons (some x52x) (some (.mk x48x true)) (.callv (.t x49x) (.cons (.t x50x) 
  (.cons (.t x51x) .nil))) (.cons (some x53x) none (.pick (.t x48x) (.t x52x) (.c (.b false))) .nil)))))))))))) (.cond (.t x53x) (.seq (.reg (.cons (some x54x) none (.mv (.t x7x)) 
  (.cons (some x55x) none (.mv (.t x12x)) (.cons (some x56x) none (.mv (.t x7x)) (.cons (some x57x) none (.mv (.t x11x)) (.cons (some x58x) none (.ixs 1 (.t x56x) (.t x57x)) (.cons 
  (some x59x) none (.ld 1 false (.t x58x)) (.cons (some x60x) none (.bin .add (.t x59x) (.c (.n 1))) (.cons (some x61x) none (.ixs 1 (.t x54x) (.t x55x)) (.cons none none (.st 1 
  (.t x61x) (.t x60x)) .nil)))))))))) (.reg (.cons (some x62x) none (.mv (.t x9x)) (.cons (some x63x) none (.mv (.t x12x)) (.cons (some x64x) none (.bsl 3 1 1 (.cons (.n 0) .nil) 
  (.cons 0 1 (.t x63x) .nil)) (.cons (some x65x) none (.app 3 1 8 (.t x62x) (.t x64x)) (.cons (some x9x) none (.mv (.t x65x)) .nil))))))) .skip)))) (.reg (.cons (some x66x) none 
  (.bin .add (.t x40x) (.c (.n 1))) (.cons (some x40x) none (.mv (.t x66x)) .nil))))))))))) (.reg (.cons (some x33x) none (.mv (.t x10x)) (.cons (some x34x) none (.bin .add (.t 
  x33x) (.c (.n 1))) (.cons (some x10x) none (.mv (.t x34x)) .nil))))))))) (.seq (.reg (.cons (some x67x) none (.mv (.t x7x)) (.cons (some x6x) none (.mv (.t x67x)) .nil))) 
  .ret))))))) [(.tmp x6x)])
theorem cc35 : compF Try.prog drops true false Try.f35 = some i35 := by kernel_rfl
noncomputable def i36 : FnI := (.mk false false (.seq (.reg (.cons (some x8x) none (.mv (.c (.b false))) .nil)) (.seq (.seq (.reg (.cons (some x10x) none (.mv (.t x0x)) (.cons (some x11x) none (.len (.t x10x)) 
  (.cons (some x12x) none (.mv (.t x1x)) (.cons (some x13x) none (.bin .eql (.t x11x) (.t x12x)) .nil))))) (.cond (.t x13x) (.seq (.reg (.cons (some x14x) none (.mv (.t x3x)) 
  (.cons (some x15x) none (.mv (.t x0x)) (.cons (some x16x) none (.callv (.t x14x) (.cons (.t x15x) .nil)) (.cons (some x8x) none (.mv (.t x16x)) .nil))))) .ret) .skip)) (.seq 
  (.seq (.reg (.cons (some x17x) none (.mv (.t x1x)) (.cons (some x18x) none (.mv (.c (.n 0))) .nil))) (.block 0 (.loop (.seq (.reg (.cons (some x19x) none (.bin .lss (.t x18x) (.t 
  x17x)) .nil)) (.seq (.cond (.t x19x) .skip (.exit 0)) (.seq (.block 1 (.seq (.reg (.cons (some x20x) none (.mv (.t x18x)) (.cons (some x9x) none (.mv (.t x20x)) .nil))) (.seq 
  (.seq (.reg (.cons (some x21x) none (.mv (.t x0x)) (.cons (some x22x) none (.mv (.t x9x)) (.cons (some x23x) none (.call 45 (.cons (.t x21x) (.cons (.t x22x) .nil))) (.cons (some 
  x24x) none (.mv (.t x23x)) (.cons (some x25x) (some (.mk x24x false)) (.mv (.t x0x)) (.cons (some x26x) (some (.mk x24x false)) (.len (.t x25x)) (.cons (some x27x) (some (.mk 
  x24x false)) (.bin .gtr (.t x26x) (.c (.n 0))) (.cons (some x28x) (some (.mk x24x false)) (.mv (.t x27x)) (.cons (some x29x) (some (.mk x28x true)) (.mv (.t x2x)) (.cons (some 
  x30x) (some (.mk x28x true)) (.mv (.t x0x)) (.cons (some x31x) (some (.mk x28x true)) (.mv (.t x0x)) (.cons (some x32x) (some (.mk x28x true)) (.len (.t x31x)) (.cons (some x33x) 
  (some (.mk x28x true)) (.bin .sub (.t x32x) (.c (.n 1))) (.cons (some x34x) (some (.mk x28x true)) (.ixs 1 (.t x30x) (.t x33x)) (.cons (some x35x) (some (.mk x28x true)) (.ld 1 
  false (.t x34x)) (.cons (some x36x) (some (.mk x28x true)) (.mv (.t x9x)) (.cons (some x37x) (some (.mk x28x true)) (.callv (.t x29x) (.cons (.t x35x) (.cons (.t x36x) .nil))) 
  (.cons (some x38x) (some (.mk x28x true)) (.not (.t x37x)) (.cons (some x39x) (some (.mk x24x false)) (.pick (.t x28x) (.t x38x) (.c (.b false))) (.cons (some x40x) none (.pick 
  (.t x24x) (.c (.b true)) (.t x39x)) .nil))))))))))))))))))))) (.cond (.t x40x) (.exit 1) .skip)) (.seq (.rek (.cons (some x41x) none (.mv (.t x0x)) (.cons (some x42x) none (.mv 
  (.t x9x)) (.cons (some x43x) none (.bsl 3 1 1 (.cons (.n 0) .nil) (.cons 0 1 (.t x42x) .nil)) (.cons (some x44x) none (.app 3 1 8 (.t x41x) (.t x43x)) (.cons (some x45x) none 
  (.mv (.t x1x)) (.cons (some x46x) none (.mv (.t x2x)) (.cons (some x47x) none (.mv (.t x3x)) (.cons (some x48x) none (.call 36 (.cons (.t x44x) (.cons (.t x45x) (.cons (.t x46x) 
  (.cons (.t x47x) .nil))))) (.cons (some x49x) none (.not (.t x48x)) .nil))))))))) (.cons (some x41x) none (.mv (.t x0x)) (.cons (some x42x) none (.mv (.t x9x)) (.cons (some x43x) 
  none (.bsl 3 1 1 (.cons (.n 0) .nil) (.cons 0 1 (.t x42x) .nil)) .nil))) 3 1 8 (.t x41x) (.t x43x) (some x44x) (.cons (some x45x) none (.mv (.t x1x)) (.cons (some x46x) none (.mv 
  (.t x2x)) (.cons (some x47x) none (.mv (.t x3x)) (.cons (some x48x) none (.call 36 (.cons (.t x44x) (.cons (.t x45x) (.cons (.t x46x) (.cons (.t x47x) .nil))))) (.cons (some 
  x49x) none (.not (.t x48x)) .nil)))))) (.cond (.t x49x) (.seq (.reg (.cons (some x8x) none (.mv (.c (.b false))) .nil)) .ret) .skip))))) (.reg (.cons (some x50x) none (.bin .add 
  (.t x18x) (.c (.n 1))) (.cons (some x18x) none (.mv (.t x50x)) .nil))))))))) (.seq (.reg (.cons (some x8x) none (.mv (.c (.b true))) .nil)) .ret)))) [(.tmp x8x)])
theorem cc36 : compF Try.prog drops false false Try.f36 = some i36 := by kernel_rfl
noncomputable def i37 : FnI := (.mk false false (.seq (.reg (.cons (some x3x) none (.mv (.c (.b false))) .nil)) (.seq (.reg (.cons (some x4x) none (.ld 1 false (.t x1x)) (.cons (some x5x) none (.bin .add (.t 
  x4x) (.c (.n 1))) (.cons none none (.st 1 (.t x1x) (.t x5x)) .nil)))) (.seq (.reg (.cons (some x3x) none (.mv (.c (.b true))) .nil)) .ret))) [(.tmp x3x)])
theorem cc37 : compF Try.prog drops false false Try.f37 = some i37 := by kernel_rfl
noncomputable def i38 : FnI := (.mk true false (.seq (.reg (.cons (some x4x) none (.mv (.c .ns)) .nil)) (.seq (.reg (.cons (some x5x) none (.mv (.c .ns)) .nil)) (.seq (.seq (.reg (.cons (some x7x) none (.mv (.t 
  x1x)) (.cons (some x8x) none (.mv (.c (.n 0))) .nil))) (.block 0 (.loop (.seq (.reg (.cons (some x9x) none (.bin .lss (.t x8x) (.t x7x)) .nil)) (.seq (.cond (.t x9x) .skip (.exit 
  0)) (.seq (.block 1 (.seq (.reg (.cons (some x10x) none (.mv (.t x8x)) (.cons (some x6x) none (.mv (.t x10x)) .nil))) (.seq (.reg (.cons (some x11x) none (.mv (.t x0x)) (.cons 
  (some x12x) none (.mv (.t x6x)) (.cons (some x13x) none (.bin .shr (.t x11x) (.t x12x)) (.cons (some x14x) none (.bin .and (.t x13x) (.c (.n 1))) (.cons (some x15x) none (.bin 
  .eql (.t x14x) (.c (.n 1))) .nil)))))) (.cond (.t x15x) (.reg (.cons (some x16x) none (.mv (.t x5x)) (.cons (some x17x) none (.mv (.t x6x)) (.cons (some x18x) none (.bsl 3 1 1 
  (.cons (.n 0) .nil) (.cons 0 1 (.t x17x) .nil)) (.cons (some x19x) none (.app 3 1 8 (.t x16x) (.t x18x)) (.cons (some x5x) none (.mv (.t x19x)) .nil)))))) .skip)))) (.reg (.cons 
  (some x20x) none (.bin .add (.t x8x) (.c (.n 1))) (.cons (some x8x) none (.mv (.t x20x)) .nil))))))))) (.seq (.reg (.cons (some x21x) none (.mv (.t x5x)) (.cons (some x4x) none 
  (.mv (.t x21x)) .nil))) .ret)))) [(.tmp x4x)])
theorem cc38 : compF Try.prog drops true false Try.f38 = some i38 := by kernel_rfl
noncomputable def i39 : FnI := (.mk true true (.seq (.reg (.cons (some x4x) none (.mv (.c (.b false))) .nil)) (.seq (.reg (.cons (some x5x) none (.mv (.c (.n 0))) .nil)) (.seq (.seq (.reg (.cons (some x8x) none 
  (.mv (.t x1x)) (.cons (some x9x) none (.len (.t x8x)) (.cons (some x10x) none (.mv (.c (.n 0))) .nil)))) (.block 0 (.loop (.seq (.reg (.cons (some x11x) none (.bin .lss (.t x10x) 
  (.t x9x)) .nil)) (.seq (.cond (.t x11x) .skip (.exit 0)) (.seq (.block 1 (.seq (.reg (.cons (some x12x) none (.ixs 1 (.t x8x) (.t x10x)) (.cons (some x13x) none (.ld 1 false (.t 
  x12x)) (.cons (some x7x) none (.mv (.t x13x)) .nil)))) (.reg (.cons (some x14x) none (.mv (.t x5x)) (.cons (some x15x) none (.mv (.t x0x)) (.cons (some x16x) none (.mv (.t x7x)) 
  (.cons (some x17x) none (.ixs 1 (.t x15x) (.t x16x)) (.cons (some x18x) none (.ld 1 false (.t x17x)) (.cons (some x19x) none (.bin .add (.t x14x) (.t x18x)) (.cons (some x5x) 
  none (.mv (.t x19x)) .nil)))))))))) (.reg (.cons (some x20x) none (.bin .add (.t x10x) (.c (.n 1))) (.cons (some x10x) none (.mv (.t x20x)) .nil))))))))) (.seq (.reg (.cons (some 
  x21x) none (.mv (.t x5x)) (.cons (some x22x) none (.mv (.t x1x)) (.cons (some x23x) none (.len (.t x22x)) (.cons (some x24x) none (.call 30 (.cons (.t x23x) .nil)) (.cons (some 
  x25x) none (.bin .lss (.t x21x) (.t x24x)) (.cons (some x4x) none (.mv (.t x25x)) .nil))))))) .ret)))) [(.tmp x4x)])
theorem cc39 : compF Try.prog drops true true Try.f39 = some i39 := by kernel_rfl
noncomputable def i40 : FnI := (.mk true true (.seq (.reg (.cons (some x4x) none (.mv (.c (.b false))) .nil)) (.seq (.seq (.reg (.cons (some x5x) none (.mv (.t x0x)) (.cons (some x6x) none (.len (.t x5x)) (.cons 
  (some x7x) none (.mv (.t x1x)) (.cons (some x8x) none (.len (.t x7x)) (.cons (some x9x) none (.bin .neq (.t x6x) (.t x8x)) .nil)))))) (.cond (.t x9x) (.seq (.reg (.cons (some 
  x10x) none (.mv (.t x0x)) (.cons (some x11x) none (.len (.t x10x)) (.cons (some x12x) none (.mv (.t x1x)) (.cons (some x13x) none (.len (.t x12x)) (.cons (some x14x) none (.bin 
  .lss (.t x11x) (.t x13x)) (.cons (some x4x) none (.mv (.t x14x)) .nil))))))) .ret) .skip)) (.seq (.reg (.cons (some x15x) none (.mv (.t x0x)) (.cons (some x16x) none (.mv (.t 
  x1x)) (.cons (some x17x) none (.call 46 (.cons (.t x15x) (.cons (.t x16x) .nil))) (.cons (some x18x) none (.bin .lss (.t x17x) (.c (.n 0))) (.cons (some x4x) none (.mv (.t x18x)) 
  .nil)))))) .ret))) [(.tmp x4x)])
theorem cc40 : compF Try.prog drops true true Try.f40 = some i40 := by kernel_rfl
noncomputable def i41 : FnI := (.mk true false (.seq (.reg (.cons (some x5x) none (.box 62 (.t x2x)) (.cons (some x6x) none (.mv (.c .ns)) .nil))) (.seq (.reg (.cons (some x7x) none (.alloc 22 (.cons .ns .nil) 
  1) .nil)) (.seq (.reg (.cons (some x8x) none (.mv (.t x0x)) (.cons (some x9x) none (.mv (.t x1x)) (.cons (some x10x) none (.mkf 47 .nil (.cons (.t x5x) (.cons (.t x7x) .nil))) 
  (.cons (some x11x) none (.call 36 (.cons (.c .ns) (.cons (.t x8x) (.cons (.t x9x) (.cons (.t x10x) .nil))))) .nil))))) (.seq (.reg (.cons (some x12x) none (.ld 1 false (.t x7x)) 
  (.cons (some x6x) none (.mv (.t x12x)) .nil))) .ret)))) [(.tmp x6x)])
theorem cc41 : compF Try.prog drops true false Try.f41 = some i41 := by kernel_rfl
noncomputable def i42 : FnI := (.mk true true (.seq (.reg (.cons (some x2x) none (.mv (.c (.b false))) .nil)) (.seq (.reg (.cons (some x2x) none (.mv (.c (.b true))) .nil)) .ret)) [(.tmp x2x)])
theorem cc42 : compF Try.prog drops true true Try.f42 = some i42 := by kernel_rfl
noncomputable def i43 : FnI := (.mk true true (.seq (.reg (.cons (some x3x) none (.mv (.c (.b false))) .nil)) (.seq (.draw [(.mk (some x4x) none true [] false [] [] [x0x] (.mv (.t x0x)) false [] [] []), (.mk 
  (some x5x) none true [] false [true] [] [x4x] (.len (.t x4x)) false [] [] []), (.mk (some x6x) none true [] false [true, true] [] [x5x] (.bin .geq (.t x5x) (.c (.n 3))) false [] 
  [] []), (.mk (some x7x) none true [] false [true, true, true] [] [x6x] (.mv (.t x6x)) false [] [] []), (.mk (some x8x) (some (.mk x7x true)) false [] false [true, true, true, 
  true] [] [x7x, x1x] (.ld 1 false (.t x1x)) false [] [] []), (.mk (some x9x) (some (.mk x7x true)) true [] false [false, true, true, true, true] [] [x7x, x0x] (.mv (.t x0x)) false 
  [] [] []), (.mk (some x10x) (some (.mk x7x true)) true [] false [false, false, true, true, true, true] [] [x7x, x0x] (.mv (.t x0x)) false [] [] []), (.mk (some x11x) (some (.mk 
  x7x true)) true [] false [true, false, false, true, true, true, true] [] [x7x, x10x] (.len (.t x10x)) false [] [] []), (.mk (some x12x) (some (.mk x7x true)) true [] false [true, 
  true, false, false, true, true, true, true] [] [x7x, x11x] (.bin .sub (.t x11x) (.c (.n 1))) false [] [] []), (.mk (some x13x) (some (.mk x7x true)) true [] false [true, true, 
  true, true, false, true, true, true, true] [] [x7x, x9x, x12x] (.ixs 1 (.t x9x) (.t x12x)) false [] [] []), (.mk (some x14x) (some (.mk x7x true)) false [] false [true, true, 
  true, true, true, false, true, true, true, true] [] [x7x, x13x] (.ld 1 false (.t x13x)) false [] [] []), (.mk (some x15x) (some (.mk x7x true)) true [] false [false, false, 
  false, false, false, false, false, true, true, true, true] [] [x7x, x0x] (.mv (.t x0x)) false [] [] []), (.mk (some x16x) (some (.mk x7x true)) true [] false [true, false, false, 
  false, false, false, false, false, true, true, true, true] [] [x7x, x15x] (.ixs 1 (.t x15x) (.c (.n 0))) false [] [] []), (.mk (some x17x) (some (.mk x7x true)) false [] false 
  [true, true, false, false, false, false, false, false, false, true, true, true, true] [] [x7x, x16x] (.ld 1 false (.t x16x)) false [] [] []), (.mk (some x18x) (some (.mk x7x 
  true)) false [] true [true, true, true, true, true, true, true, true, true, true, true, true, true, true] [] [x7x, x8x, x14x, x17x] (.callv (.t x8x) (.cons (.t x14x) (.cons (.t 
  x17x) .nil))) true [] [] [x2000000x]), (.mk (some x19x) none true [] false [true, true, true, true, true, true, true, true, true, true, true, true, true, true, true] [] [x7x, 
  x18x] (.pick (.t x7x) (.t x18x) (.c (.b false))) false [] [] []), (.mk (some x3x) none true [] false [true, true, true, true, true, true, true, true, true, true, true, true, 
  true, true, true, true] [] [x19x] (.mv (.t x19x)) false [] [] [])]) .ret)) [(.tmp x3x)])
theorem cc43 : compF Try.prog drops true true Try.f43 = some i43 := by kernel_rfl
noncomputable def i44 : FnI := (.mk true false (.seq (.reg (.cons (some x2x) none (.mv (.c .ns)) .nil)) (.seq (.reg (.cons (some x8x) none (.mv (.t x0x)) (.cons (some x9x) none (.call 48 (.cons (.t x8x) .nil)) 
  (.cons (some x3x) none (.mv (.t x9x)) .nil)))) (.seq (.reg (.cons (some x4x) none (.mv (.c .ns)) .nil)) (.seq (.seq (.reg (.cons (some x10x) none (.mv (.t x0x)) (.cons (some 
  x11x) none (.len (.t x10x)) (.cons (some x12x) none (.bin .sub (.t x11x) (.c (.n 1))) (.cons (some x5x) none (.mv (.t x12x)) .nil))))) (.block 0 (.loop (.seq (.seq (.reg (.cons 
  (some x13x) none (.mv (.t x5x)) (.cons (some x14x) none (.bin .gtr (.t x13x) (.c (.n 0))) .nil))) (.cond (.t x14x) .skip (.exit 0))) (.seq (.block 1 (.seq (.reg (.cons (some 
  x17x) none (.mv (.t x3x)) (.cons (some x18x) none (.mv (.t x5x)) (.cons (some x19x) none (.slc 1 (.t x17x) none (some (.t x18x)) none) (.cons (some x20x) none (.call 49 (.cons 
  (.t x19x) .nil)) (.cons (some x21x) none (.len (.t x20x)) (.cons (some x22x) none (.mv (.c (.n 0))) .nil))))))) (.block 2 (.loop (.seq (.reg (.cons (some x23x) none (.bin .lss 
  (.t x22x) (.t x21x)) .nil)) (.seq (.cond (.t x23x) .skip (.exit 2)) (.seq (.block 3 (.seq (.reg (.cons (some x24x) none (.mv (.t x22x)) (.cons (some x25x) none (.ixs 1 (.t x20x) 
  (.t x22x)) (.cons (some x26x) none (.ld 1 false (.t x25x)) (.cons (some x6x) none (.mv (.t x24x)) (.cons (some x7x) none (.mv (.t x26x)) .nil)))))) (.seq (.reg (.cons (some x27x) 
  none (.mv (.t x6x)) (.cons (some x28x) none (.mv (.t x3x)) (.cons (some x29x) none (.mv (.t x5x)) (.cons (some x30x) none (.ixs 1 (.t x28x) (.t x29x)) (.cons (some x31x) none 
  (.ld 1 false (.t x30x)) (.cons (some x32x) none (.bin .lss (.t x27x) (.t x31x)) .nil))))))) (.cond (.t x32x) (.reg (.cons (some x33x) none (.mv (.t x4x)) (.cons (some x34x) none 
  (.mv (.t x5x)) (.cons (some x35x) none (.mv (.t x7x)) (.cons (some x36x) none (.build (.cons (.n 0) (.cons (.n 0) .nil)) (.cons 0 1 (.t x34x) (.cons 1 1 (.t x35x) .nil))) (.cons 
  (some x37x) none (.bsl 45 2 1 (.cons (.n 0) (.cons (.n 0) .nil)) (.cons 0 2 (.t x36x) .nil)) (.cons (some x38x) none (.app 45 2 16 (.t x33x) (.t x37x)) (.cons (some x4x) none 
  (.mv (.t x38x)) .nil)))))))) (.seq (.reg (.cons (some x39x) none (.mv (.t x4x)) (.cons (some x40x) none (.mv (.t x7x)) (.cons (some x41x) none (.mv (.t x5x)) (.cons (some x42x) 
  none (.build (.cons (.n 0) (.cons (.n 0) .nil)) (.cons 0 1 (.t x40x) (.cons 1 1 (.t x41x) .nil))) (.cons (some x43x) none (.bsl 45 2 1 (.cons (.n 0) (.cons (.n 0) .nil)) (.cons 0 
  2 (.t x42x) .nil)) (.cons (some x44x) none (.app 45 2 16 (.t x39x) (.t x43x)) (.cons (some x4x) none (.mv (.t x44x)) .nil)))))))) (.reg (.cons (some x45x) none (.mv (.t x3x)) 
  (.cons (some x46x) none (.mv (.t x7x)) (.cons (some x47x) none (.ixs 1 (.t x45x) (.t x46x)) (.cons (some x48x) none (.ld 1 false (.t x47x)) (.cons (some x49x) none (.bin .sub (.t 
  x48x) (.c (.n 1))) (.cons (some x50x) none (.ixs 1 (.t x45x) (.t x46x)) (.cons none none (.st 1 (.t x50x) (.t x49x)) .nil))))))))))))) (.reg (.cons (some x51x) none (.bin .add 
  (.t x22x) (.c (.n 1))) (.cons (some x22x) none (.mv (.t x51x)) .nil)))))))))) (.reg (.cons (some x15x) none (.mv (.t x5x)) (.cons (some x16x) none (.bin .sub (.t x15x) (.c (.n 
  1))) (.cons (some x5x) none (.mv (.t x16x)) .nil))))))))) (.seq (.reg (.cons (some x52x) none (.mv (.t x4x)) (.cons (some x2x) none (.mv (.t x52x)) .nil))) .ret))))) [(.tmp 
  x2x)])
theorem cc44 : compF Try.prog drops true false Try.f44 = some i44 := by kernel_rfl
noncomputable def i45 : FnI := (.mk true true (.seq (.reg (.cons (some x4x) none (.mv (.c (.b false))) .nil)) (.seq (.reg (.cons (some x5x) none (.mv (.t x0x)) (.cons (some x6x) none (.mv (.t x1x)) (.cons (some 
  x7x) none (.call 50 (.cons (.t x5x) (.cons (.t x6x) .nil))) (.cons (some x8x) none (.bin .geq (.t x7x) (.c (.n 0))) (.cons (some x4x) none (.mv (.t x8x)) .nil)))))) .ret)) [(.tmp 
  x4x)])
theorem cc45 : compF Try.prog drops true true Try.f45 = some i45 := by kernel_rfl
noncomputable def i46 : FnI := (.mk true true (.seq (.reg (.cons (some x4x) none (.mv (.c (.n 0))) .nil)) (.seq (.seq (.reg (.cons (some x9x) none (.mv (.t x0x)) (.cons (some x10x) none (.len (.t x9x)) (.cons 
  (some x11x) none (.mv (.c (.n 0))) .nil)))) (.block 0 (.loop (.seq (.reg (.cons (some x12x) none (.bin .lss (.t x11x) (.t x10x)) .nil)) (.seq (.cond (.t x12x) .skip (.exit 0)) 
  (.seq (.block 1 (.seq (.reg (.cons (some x13x) none (.mv (.t x11x)) (.cons (some x14x) none (.ixs 1 (.t x9x) (.t x11x)) (.cons (some x15x) none (.ld 1 false (.t x14x)) (.cons 
  (some x5x) none (.mv (.t x13x)) (.cons (some x6x) none (.mv (.t x15x)) .nil)))))) (.seq (.seq (.reg (.cons (some x16x) none (.mv (.t x5x)) (.cons (some x17x) none (.mv (.t x1x)) 
  (.cons (some x18x) none (.len (.t x17x)) (.cons (some x19x) none (.bin .geq (.t x16x) (.t x18x)) .nil))))) (.cond (.t x19x) (.seq (.reg (.cons (some x4x) none (.mv (.c (.n 1))) 
  .nil)) .ret) .skip)) (.seq (.reg (.cons (some x20x) none (.mv (.t x1x)) (.cons (some x21x) none (.mv (.t x5x)) (.cons (some x22x) none (.ixs 1 (.t x20x) (.t x21x)) (.cons (some 
  x23x) none (.ld 1 false (.t x22x)) (.cons (some x7x) none (.mv (.t x23x)) .nil)))))) (.seq (.reg (.cons (some x24x) none (.mv (.t x6x)) (.cons (some x25x) none (.mv (.t x7x)) 
  (.cons (some x26x) none (.call 51 (.cons (.t x24x) (.cons (.t x25x) .nil))) (.cons (some x8x) none (.mv (.t x26x)) .nil))))) (.seq (.reg (.cons (some x27x) none (.mv (.t x8x)) 
  (.cons (some x28x) none (.bin .neq (.t x27x) (.c (.n 0))) .nil))) (.cond (.t x28x) (.seq (.reg (.cons (some x29x) none (.mv (.t x8x)) (.cons (some x4x) none (.mv (.t x29x)) 
  .nil))) .ret) .skip))))))) (.reg (.cons (some x30x) none (.bin .add (.t x11x) (.c (.n 1))) (.cons (some x11x) none (.mv (.t x30x)) .nil))))))))) (.seq (.seq (.reg (.cons (some 
  x31x) none (.mv (.t x0x)) (.cons (some x32x) none (.len (.t x31x)) (.cons (some x33x) none (.mv (.t x1x)) (.cons (some x34x) none (.len (.t x33x)) (.cons (some x35x) none (.bin 
  .lss (.t x32x) (.t x34x)) .nil)))))) (.cond (.t x35x) (.seq (.reg (.cons (some x4x) none (.mv (.c (.i .i64 (.negSucc 0)))) .nil)) .ret) .skip)) (.seq (.reg (.cons (some x4x) none 
  (.mv (.c (.n 0))) .nil)) .ret)))) [(.tmp x4x)])
theorem cc46 : compF Try.prog drops true true Try.f46 = some i46 := by kernel_rfl
noncomputable def i47 : FnI := (.mk false false (.seq (.reg (.cons (some x4x) none (.mv (.c (.b false))) .nil)) (.seq (.seq (.reg (.cons (some x5x) none (.ld 1 false (.t x1x)) (.cons (some x6x) none (.mv (.t 
  x0x)) (.cons (some x7x) none (.callv (.t x5x) (.cons (.t x6x) .nil)) (.cons (some x8x) none (.not (.t x7x)) .nil))))) (.cond (.t x8x) (.seq (.reg (.cons (some x4x) none (.mv (.c 
  (.b true))) .nil)) .ret) .skip)) (.seq (.reg (.cons (some x9x) none (.mv (.t x0x)) (.cons (some x10x) none (.call 48 (.cons (.t x9x) .nil)) (.cons none none (.st 1 (.t x2x) (.t 
  x10x)) .nil)))) (.seq (.reg (.cons (some x4x) none (.mv (.c (.b false))) .nil)) .ret)))) [(.tmp x4x)])
theorem cc47 : compF Try.prog drops false false Try.f47 = some i47 := by kernel_rfl
noncomputable def i48 : FnI := (.mk true false (.seq (.reg (.cons (some x2x) none (.mv (.c .ns)) .nil)) (.seq (.seq (.reg (.cons (some x3x) none (.mv (.t x0x)) (.cons (some x4x) none (.eqn false (.t x3x) (.c 
  .ns)) .nil))) (.cond (.t x4x) (.seq (.reg (.cons (some x2x) none (.mv (.c .ns)) .nil)) .ret) .skip)) (.seq (.reg (.cons (some x5x) none (.bsl 3 1 0 .nil .nil) (.cons (some x6x) 
  none (.mv (.t x0x)) (.cons (some x7x) none (.app 3 1 8 (.t x5x) (.t x6x)) (.cons (some x2x) none (.mv (.t x7x)) .nil))))) .ret))) [(.tmp x2x)])
theorem cc48 : compF Try.prog drops true false Try.f48 = some i48 := by kernel_rfl
noncomputable def i49 : FnI := (.mk true false (.seq (.reg (.cons (some x1x) none (.box 22 (.t x0x)) (.cons (some x2x) none (.mv (.c .ns)) .nil))) (.seq (.reg (.cons (some x5x) none (.ld 1 false (.t x1x)) (.cons 
  (some x6x) none (.len (.t x5x)) (.cons (some x7x) none (.mks 3 1 8 1 (.cons (.n 0) .nil) (.t x6x) (.t x6x)) (.cons (some x3x) none (.mv (.t x7x)) .nil))))) (.seq (.seq (.reg 
  (.cons (some x8x) none (.mv (.t x3x)) (.cons (some x9x) none (.len (.t x8x)) (.cons (some x10x) none (.mv (.c (.n 0))) .nil)))) (.block 0 (.loop (.seq (.reg (.cons (some x11x) 
  none (.bin .lss (.t x10x) (.t x9x)) .nil)) (.seq (.cond (.t x11x) .skip (.exit 0)) (.seq (.block 1 (.seq (.reg (.cons (some x12x) none (.mv (.t x10x)) (.cons (some x4x) none (.mv 
  (.t x12x)) .nil))) (.reg (.cons (some x13x) none (.mv (.t x3x)) (.cons (some x14x) none (.mv (.t x4x)) (.cons (some x15x) none (.mv (.t x4x)) (.cons (some x16x) none (.ixs 1 (.t 
  x13x) (.t x14x)) (.cons none none (.st 1 (.t x16x) (.t x15x)) .nil)))))))) (.reg (.cons (some x17x) none (.bin .add (.t x10x) (.c (.n 1))) (.cons (some x10x) none (.mv (.t x17x)) 
  .nil))))))))) (.seq (.reg (.cons (some x18x) none (.mv (.t x3x)) (.cons (some x19x) none (.mkf 53 .nil (.cons (.t x1x) .nil)) (.cons (some x20x) none (.call 52 (.cons (.t x18x) 
  (.cons (.t x19x) .nil))) .nil)))) (.seq (.reg (.cons (some x21x) none (.mv (.t x3x)) (.cons (some x2x) none (.mv (.t x21x)) .nil))) .ret))))) [(.tmp x2x)])
theorem cc49 : compF Try.prog drops true false Try.f49 = some i49 := by kernel_rfl
noncomputable def i50 : FnI := (.mk true true (.seq (.reg (.cons (some x4x) none (.mv (.c (.n 0))) .nil)) (.seq (.seq (.reg (.cons (some x6x) none (.mv (.t x0x)) (.cons (some x7x) none (.len (.t x6x)) (.cons 
  (some x8x) none (.mv (.c (.n 0))) .nil)))) (.block 0 (.loop (.seq (.reg (.cons (some x9x) none (.bin .lss (.t x8x) (.t x7x)) .nil)) (.seq (.cond (.t x9x) .skip (.exit 0)) (.seq 
  (.block 1 (.seq (.reg (.cons (some x10x) none (.mv (.t x8x)) (.cons (some x5x) none (.mv (.t x10x)) .nil))) (.seq (.reg (.cons (some x11x) none (.mv (.t x1x)) (.cons (some x12x) 
  none (.mv (.t x0x)) (.cons (some x13x) none (.mv (.t x5x)) (.cons (some x14x) none (.ixs 1 (.t x12x) (.t x13x)) (.cons (some x15x) none (.ld 1 false (.t x14x)) (.cons (some x16x) 
  none (.bin .eql (.t x11x) (.t x15x)) .nil))))))) (.cond (.t x16x) (.seq (.reg (.cons (some x17x) none (.mv (.t x5x)) (.cons (some x4x) none (.mv (.t x17x)) .nil))) .ret) 
  .skip)))) (.reg (.cons (some x18x) none (.bin .add (.t x8x) (.c (.n 1))) (.cons (some x8x) none (.mv (.t x18x)) .nil))))))))) (.seq (.reg (.cons (some x4x) none (.mv (.c (.i .i64 
  (.negSucc 0)))) .nil)) .ret))) [(.tmp x4x)])
theorem cc50 : compF Try.prog drops true true Try.f50 = some i50 := by kernel_rfl
noncomputable def i51 : FnI := (.mk true true (.seq (.reg (.cons (some x4x) none (.mv (.c (.n 0))) .nil)) (.seq (.reg (.cons (some x7x) none (.mv (.t x0x)) (.cons (some x8x) none (.call 54 (.cons (.t x7x) .nil)) 
  (.cons (some x5x) none (.mv (.t x8x)) .nil)))) (.seq (.reg (.cons (some x9x) none (.mv (.t x1x)) (.cons (some x10x) none (.call 54 (.cons (.t x9x) .nil)) (.cons (some x6x) none 
  (.mv (.t x10x)) .nil)))) (.seq (.seq (.reg (.cons (some x11x) none (.mv (.t x5x)) .nil)) (.cond (.t x11x) (.seq (.seq (.reg (.cons (some x12x) none (.mv (.t x6x)) .nil)) (.cond 
  (.t x12x) (.seq (.reg (.cons (some x4x) none (.mv (.c (.n 0))) .nil)) .ret) .skip)) (.seq (.reg (.cons (some x4x) none (.mv (.c (.i .i64 (.negSucc 0)))) .nil)) .ret)) .skip)) 
  (.seq (.seq (.reg (.cons (some x13x) none (.mv (.t x6x)) .nil)) (.cond (.t x13x) (.seq (.reg (.cons (some x4x) none (.mv (.c (.n 1))) .nil)) .ret) .skip)) (.seq (.seq (.reg 
  (.cons (some x14x) none (.mv (.t x0x)) (.cons (some x15x) none (.mv (.t x1x)) (.cons (some x16x) none (.bin .lss (.t x14x) (.t x15x)) .nil)))) (.cond (.t x16x) (.seq (.reg (.cons 
  (some x4x) none (.mv (.c (.i .i64 (.negSucc 0)))) .nil)) .ret) .skip)) (.seq (.seq (.reg (.cons (some x17x) none (.mv (.t x0x)) (.cons (some x18x) none (.mv (.t x1x)) (.cons 
  (some x19x) none (.bin .gtr (.t x17x) (.t x18x)) .nil)))) (.cond (.t x19x) (.seq (.reg (.cons (some x4x) none (.mv (.c (.n 1))) .nil)) .ret) .skip)) (.seq (.reg (.cons (some x4x) 
  none (.mv (.c (.n 0))) .nil)) .ret)))))))) [(.tmp x4x)])
theorem cc51 : compF Try.prog drops true true Try.f51 = some i51 := by kernel_rfl
noncomputable def i52 : FnI := (.mk false false (.reg (.cons (some x4x) none (.mv (.t x0x)) (.cons (some x5x) none (.mv (.t x0x)) (.cons (some x6x) none (.len (.t x5x)) (.cons (some x7x) none (.mv (.t x1x)) 
  (.cons (some x8x) none (.call 55 (.cons (.t x4x) (.cons (.t x6x) (.cons (.t x7x) .nil)))) .nil)))))) [])
theorem cc52 : compF Try.prog drops false false Try.f52 = some i52 := by kernel_rfl
noncomputable def i53 : FnI := (.mk true true (.seq (.reg (.cons (some x5x) none (.mv (.c (.n 0))) .nil)) (.seq (.draw [(.mk (some x6x) none false [] false [] [] [x2x] (.ld 1 false (.t x2x)) false [] [] []), 
  (.mk (some x7x) none true [] false [false] [] [x0x] (.mv (.t x0x)) false [] [] []), (.mk (some x8x) none true [] false [true, true] [] [x6x, x7x] (.ixs 1 (.t x6x) (.t x7x)) false 
  [] [] []), (.mk (some x9x) none false [] false [true, true, true] [] [x8x] (.ld 1 false (.t x8x)) false [] [] []), (.mk (some x10x) none false [] false [false, false, false, 
  false] [] [x2x] (.ld 1 false (.t x2x)) false [] [] []), (.mk (some x11x) none true [] false [false, false, false, false, false] [] [x1x] (.mv (.t x1x)) false [] [] []), (.mk 
  (some x12x) none true [] false [true, true, false, false, false, false] [] [x10x, x11x] (.ixs 1 (.t x10x) (.t x11x)) false [] [] []), (.mk (some x13x) none false [] false [true, 
  true, true, false, false, false, false] [] [x12x] (.ld 1 false (.t x12x)) false [] [] []), (.mk (some x14x) none false [] false [true, true, true, true, true, true, true, true] 
  [] [x9x, x13x] (.call 51 (.cons (.t x9x) (.cons (.t x13x) .nil))) false [] [] []), (.mk (some x5x) none true [] false [true, true, true, true, true, true, true, true, true] [] 
  [x14x] (.mv (.t x14x)) false [] [] [])]) .ret)) [(.tmp x5x)])
theorem cc53 : compF Try.prog drops true true Try.f53 = some i53 := by kernel_rfl
noncomputable def i54 : FnI := (.mk true true (.seq (.reg (.cons (some x2x) none (.mv (.c (.b false))) .nil)) (.seq (.reg (.cons (some x3x) none (.mv (.t x0x)) (.cons (some x4x) none (.mv (.t x0x)) (.cons (some 
  x5x) none (.bin .neq (.t x3x) (.t x4x)) (.cons (some x2x) none (.mv (.t x5x)) .nil))))) .ret)) [(.tmp x2x)])
theorem cc54 : compF Try.prog drops true true Try.f54 = some i54 := by kernel_rfl
noncomputable def i55 : FnI := (.mk false false (.seq (.reg (.cons (some x6x) none (.mv (.c (.n 20))) .nil)) (.seq (.reg (.cons (some x10x) none (.mv (.t x6x)) (.cons (some x7x) none (.mv (.c (.n 0))) (.cons 
  (some x8x) none (.mv (.t x10x)) .nil)))) (.seq (.block 0 (.loop (.seq (.seq (.reg (.cons (some x11x) none (.mv (.t x8x)) (.cons (some x12x) none (.mv (.t x1x)) (.cons (some x13x) 
  none (.bin .leq (.t x11x) (.t x12x)) .nil)))) (.cond (.t x13x) .skip (.exit 0))) (.block 1 (.seq (.reg (.cons (some x14x) none (.mv (.t x0x)) (.cons (some x15x) none (.mv (.t 
  x7x)) (.cons (some x16x) none (.mv (.t x8x)) (.cons (some x17x) none (.mv (.t x2x)) (.cons (some x18x) none (.call 56 (.cons (.t x14x) (.cons (.t x15x) (.cons (.t x16x) (.cons 
  (.t x17x) .nil))))) .nil)))))) (.seq (.reg (.cons (some x19x) none (.mv (.t x8x)) (.cons (some x7x) none (.mv (.t x19x)) .nil))) (.reg (.cons (some x20x) none (.mv (.t x8x)) 
  (.cons (some x21x) none (.mv (.t x6x)) (.cons (some x22x) none (.bin .add (.t x20x) (.t x21x)) (.cons (some x8x) none (.mv (.t x22x)) .nil))))))))))) (.seq (.reg (.cons (some 
  x23x) none (.mv (.t x0x)) (.cons (some x24x) none (.mv (.t x7x)) (.cons (some x25x) none (.mv (.t x1x)) (.cons (some x26x) none (.mv (.t x2x)) (.cons (some x27x) none (.call 56 
  (.cons (.t x23x) (.cons (.t x24x) (.cons (.t x25x) (.cons (.t x26x) .nil))))) .nil)))))) (.block 2 (.loop (.seq (.seq (.reg (.cons (some x28x) none (.mv (.t x6x)) (.cons (some 
  x29x) none (.mv (.t x1x)) (.cons (some x30x) none (.bin .lss (.t x28x) (.t x29x)) .nil)))) (.cond (.t x30x) .skip (.exit 2))) (.block 3 (.seq (.reg (.cons (some x31x) none (.mv 
  (.t x6x)) (.cons (some x32x) none (.bin .mul (.c (.n 2)) (.t x31x)) (.cons (some x7x) none (.mv (.c (.n 0))) (.cons (some x8x) none (.mv (.t x32x)) .nil))))) (.seq (.block 4 
  (.loop (.seq (.seq (.reg (.cons (some x33x) none (.mv (.t x8x)) (.cons (some x34x) none (.mv (.t x1x)) (.cons (some x35x) none (.bin .leq (.t x33x) (.t x34x)) .nil)))) (.cond (.t 
  x35x) .skip (.exit 4))) (.block 5 (.seq (.reg (.cons (some x36x) none (.mv (.t x0x)) (.cons (some x37x) none (.mv (.t x7x)) (.cons (some x38x) none (.mv (.t x7x)) (.cons (some 
  x39x) none (.mv (.t x6x)) (.cons (some x40x) none (.bin .add (.t x38x) (.t x39x)) (.cons (some x41x) none (.mv (.t x8x)) (.cons (some x42x) none (.mv (.t x2x)) (.cons (some x43x) 
  none (.call 57 (.cons (.t x36x) (.cons (.t x37x) (.cons (.t x40x) (.cons (.t x41x) (.cons (.t x42x) .nil)))))) .nil))))))))) (.seq (.reg (.cons (some x44x) none (.mv (.t x8x)) 
  (.cons (some x7x) none (.mv (.t x44x)) .nil))) (.reg (.cons (some x45x) none (.mv (.t x8x)) (.cons (some x46x) none (.mv (.t x6x)) (.cons (some x47x) none (.bin .mul (.c (.n 2)) 
  (.t x46x)) (.cons (some x48x) none (.bin .add (.t x45x) (.t x47x)) (.cons (some x8x) none (.mv (.t x48x)) .nil)))))))))))) (.seq (.seq (.reg (.cons (some x49x) none (.mv (.t 
  x7x)) (.cons (some x50x) none (.mv (.t x6x)) (.cons (some x51x) none (.bin .add (.t x49x) (.t x50x)) (.cons (some x9x) none (.mv (.t x51x)) .nil))))) (.seq (.reg (.cons (some 
  x52x) none (.mv (.t x9x)) (.cons (some x53x) none (.mv (.t x1x)) (.cons (some x54x) none (.bin .lss (.t x52x) (.t x53x)) .nil)))) (.cond (.t x54x) (.reg (.cons (some x55x) none 
  (.mv (.t x0x)) (.cons (some x56x) none (.mv (.t x7x)) (.cons (some x57x) none (.mv (.t x9x)) (.cons (some x58x) none (.mv (.t x1x)) (.cons (some x59x) none (.mv (.t x2x)) (.cons 
  (some x60x) none (.call 57 (.cons (.t x55x) (.cons (.t x56x) (.cons (.t x57x) (.cons (.t x58x) (.cons (.t x59x) .nil)))))) .nil))))))) .skip))) (.reg (.cons (some x61x) none (.mv 
  (.t x6x)) (.cons (some x62x) none (.bin .mul (.t x61x) (.c (.n 2))) (.cons (some x6x) none (.mv (.t x62x)) .nil))))))))))))))) [])
theorem cc55 : compF Try.prog drops false false Try.f55 = some i55 := by kernel_rfl
noncomputable def i56 : FnI := (.mk false false (.seq (.reg (.cons (some x10x) none (.mv (.t x1x)) (.cons (some x11x) none (.bin .add (.t x10x) (.c (.n 1))) (.cons (some x8x) none (.mv (.t x11x)) .nil)))) 
  (.block 0 (.loop (.seq (.seq (.reg (.cons (some x12x) none (.mv (.t x8x)) (.cons (some x13x) none (.mv (.t x2x)) (.cons (some x14x) none (.bin .lss (.t x12x) (.t x13x)) .nil)))) 
  (.cond (.t x14x) .skip (.exit 0))) (.seq (.block 1 (.seq (.reg (.cons (some x17x) none (.mv (.t x8x)) (.cons (some x9x) none (.mv (.t x17x)) .nil))) (.block 2 (.loop (.seq (.seq 
  (.draw [(.mk (some x18x) none true [] false [] [] [x9x] (.mv (.t x9x)) false [] [] []), (.mk (some x19x) none true [] false [false] [] [x1x] (.mv (.t x1x)) false [] [] []), (.mk 
  (some x20x) none true [] false [true, true] [] [x18x, x19x] (.bin .gtr (.t x18x) (.t x19x)) false [] [] []), (.mk (some x21x) none true [] false [true, true, true] [] [x20x] (.mv 
  (.t x20x)) false [] [] []), (.mk (some x22x) (some (.mk x21x true)) true [] false [true, true, true, true] [] [x21x, x3x] (.mv (.t x3x)) false [] [] []), (.mk (some x23x) (some 
  (.mk x21x true)) true [] false [false, true, true, true, true] [] [x21x, x0x] (.mv (.t x0x)) false [] [] []), (.mk (some x24x) (some (.mk x21x true)) true [] false [false, false, 
  true, true, true, true] [] [x21x, x9x] (.mv (.t x9x)) false [] [] []), (.mk (some x25x) (some (.mk x21x true)) true [] false [true, true, false, true, true, true, true] [] [x21x, 
  x23x, x24x] (.ixs 1 (.t x23x) (.t x24x)) false [] [] []), (.mk (some x26x) (some (.mk x21x true)) false [] false [true, true, true, false, true, true, true, true] [] [x21x, x25x] 
  (.ld 1 false (.t x25x)) false [] [] []), (.mk (some x27x) (some (.mk x21x true)) true [] false [false, false, false, false, false, true, true, true, true] [] [x21x, x0x] (.mv (.t 
  x0x)) false [] [] []), (.mk (some x28x) (some (.mk x21x true)) true [] false [false, false, false, false, false, false, true, true, true, true] [] [x21x, x9x] (.mv (.t x9x)) 
  false [] [] []), (.mk (some x29x) (some (.mk x21x true)) true [] false [true, false, false, false, false, false, false, true, true, true, true] [] [x21x, x28x] (.bin .sub (.t 
  x28x) (.c (.n 1))) false [] [] []), (.mk (some x30x) (some (.mk x21x true)) true [] false [true, true, true, false, false, false, false, false, true, true, true, true] [] [x21x, 
  x27x, x29x] (.ixs 1 (.t x27x) (.t x29x)) false [] [] []), (.mk (some x31x) (some (.mk x21x true)) false [] false [true, true, true, true, false, false, false, false, false, true, 
  true, true, true] [] [x21x, x30x] (.ld 1 false (.t x30x)) false [] [] []), (.mk (some x32x) (some (.mk x21x true)) false [] true [true, true, true, true, true, true, true, true, 
  true, true, true, true, true, true] [] [x21x, x22x, x26x, x31x] (.callv (.t x22x) (.cons (.t x26x) (.cons (.t x31x) .nil))) true [] [] [x2000000x]), (.mk (some x33x) (some (.mk 
  x21x true)) true [] false [true, true, true, true, true, true, true, true, true, true, true, true, true, true, true] [] [x21x, x32x] (.bin .lss (.t x32x) (.c (.n 0))) false [] [] 
  []), (.mk (some x34x) none true [] false [true, true, true, true, true, true, true, true, true, true, true, true, true, true, true, true] [] [x21x, x33x] (.pick (.t x21x) (.t 
  x33x) (.c (.b false))) false [] [] [])]) (.cond (.t x34x) .skip (.exit 2))) (.seq (.block 3 (.draw [(.mk (some x37x) none true [] false [] [] [x0x] (.mv (.t x0x)) false [] [] 
  []), (.mk (some x38x) none true [] false [false] [] [x9x] (.mv (.t x9x)) false [] [] []), (.mk (some x39x) none true [] false [false, false] [x51x] [x0x] (.mv (.t x0x)) false [] 
  [] []), (.mk (some x40x) none true [] false [false, false, false] [x51x] [x9x] (.mv (.t x9x)) false [] [] []), (.mk (some x41x) none true [] false [true, false, false, false] 
  [x51x] [x40x] (.bin .sub (.t x40x) (.c (.n 1))) false [] [] []), (.mk (some x42x) none true [] false [false, false, false, false, false] [] [x0x] (.mv (.t x0x)) false [] [] []), 
  (.mk (some x43x) none true [] false [false, false, false, false, false, false] [] [x9x] (.mv (.t x9x)) false [] [] []), (.mk (some x44x) none true [] false [true, false, false, 
  false, false, false, false] [] [x43x] (.bin .sub (.t x43x) (.c (.n 1))) false [] [] []), (.mk (some x45x) none true [] false [true, true, true, false, false, false, false, false] 
  [] [x42x, x44x] (.ixs 1 (.t x42x) (.t x44x)) false [] [] []), (.mk (some x46x) none false [] false [true, true, true, true, false, false, false, false, false] [] [x45x] (.ld 1 
  false (.t x45x)) false [] [] []), (.mk (some x47x) none true [] false [false, false, false, false, false, false, false, false, false, false] [] [x0x] (.mv (.t x0x)) false [] [] 
  []), (.mk (some x48x) none true [] false [false, false, false, false, false, false, false, false, false, false, false] [] [x9x] (.mv (.t x9x)) false [] [] []), (.mk (some x49x) 
  none true [] false [true, true, false, false, false, false, false, false, false, false, false, false] [] [x47x, x48x] (.ixs 1 (.t x47x) (.t x48x)) false [] [] []), (.mk (some 
  x50x) none false [] false [true, true, true, false, false, false, false, false, false, false, false, false, false] [] [x49x] (.ld 1 false (.t x49x)) false [] [] []), (.mk (some 
  x51x) none true [] false [true, true, true, true, true, true, true, true, true, false, false, false, true, true] [] [x37x, x38x] (.ixs 1 (.t x37x) (.t x38x)) false [] [] []), 
  (.mk none none false [x51x] false [true, true, true, true, true, true, true, true, true, true, false, false, false, true, true] [] [x51x, x46x] (.st 1 (.t x51x) (.t x46x)) false 
  [] [] []), (.mk (some x52x) none true [] false [true, true, true, true, true, true, true, true, true, true, true, true, true, true, true, true] [] [x39x, x41x] (.ixs 1 (.t x39x) 
  (.t x41x)) false [] [] []), (.mk none none false [x52x] false [true, true, true, true, true, true, true, true, true, true, true, true, true, true, true, true, true] [] [x52x, 
  x50x] (.st 1 (.t x52x) (.t x50x)) false [] [] [])])) (.reg (.cons (some x35x) none (.mv (.t x9x)) (.cons (some x36x) none (.bin .sub (.t x35x) (.c (.n 1))) (.cons (some x9x) none 
  (.mv (.t x36x)) .nil)))))))))) (.reg (.cons (some x15x) none (.mv (.t x8x)) (.cons (some x16x) none (.bin .add (.t x15x) (.c (.n 1))) (.cons (some x8x) none (.mv (.t x16x)) 
  .nil))))))))) [])
theorem cc56 : compF Try.prog drops false false Try.f56 = some i56 := by kernel_rfl
noncomputable def i57 : FnI := (.mk false false (.seq (.seq (.reg (.cons (some x25x) none (.mv (.t x2x)) (.cons (some x26x) none (.mv (.t x1x)) (.cons (some x27x) none (.bin .sub (.t x25x) (.t x26x)) (.cons 
  (some x28x) none (.bin .eql (.t x27x) (.c (.n 1))) .nil))))) (.cond (.t x28x) (.seq (.reg (.cons (some x29x) none (.mv (.t x2x)) (.cons (some x10x) none (.mv (.t x29x)) .nil))) 
  (.seq (.reg (.cons (some x30x) none (.mv (.t x3x)) (.cons (some x11x) none (.mv (.t x30x)) .nil))) (.seq (.block 0 (.loop (.seq (.seq (.reg (.cons (some x31x) none (.mv (.t 
  x10x)) (.cons (some x32x) none (.mv (.t x11x)) (.cons (some x33x) none (.bin .lss (.t x31x) (.t x32x)) .nil)))) (.cond (.t x33x) .skip (.exit 0))) (.block 1 (.seq (.reg (.cons 
  (some x34x) none (.mv (.t x10x)) (.cons (some x35x) none (.mv (.t x11x)) (.cons (some x36x) none (.bin .add (.t x34x) (.t x35x)) (.cons (some x37x) none (.conv .u64 (.t x36x)) 
  (.cons (some x38x) none (.bin .shr (.t x37x) (.c (.i .u64 (.ofNat 1)))) (.cons (some x39x) none (.conv .i64 (.t x38x)) (.cons (some x12x) none (.mv (.t x39x)) .nil)))))))) (.seq 
  (.draw [(.mk (some x40x) none true [] false [] [] [x4x] (.mv (.t x4x)) false [] [] []), (.mk (some x41x) none true [] false [false] [] [x0x] (.mv (.t x0x)) false [] [] []), (.mk 
  (some x42x) none true [] false [false, false] [] [x12x] (.mv (.t x12x)) false [] [] []), (.mk (some x43x) none true [] false [true, true, false] [] [x41x, x42x] (.ixs 1 (.t x41x) 
  (.t x42x)) false [] [] []), (.mk (some x44x) none false [] false [true, true, true, false] [] [x43x] (.ld 1 false (.t x43x)) false [] [] []), (.mk (some x45x) none true [] false 
  [false, false, false, false, false] [] [x0x] (.mv (.t x0x)) false [] [] []), (.mk (some x46x) none true [] false [false, false, false, false, false, false] [] [x1x] (.mv (.t 
  x1x)) false [] [] []), (.mk (some x47x) none true [] false [true, true, false, false, false, false, false] [] [x45x, x46x] (.ixs 1 (.t x45x) (.t x46x)) false [] [] []), (.mk 
  (some x48x) none false [] false [true, true, true, false, false, false, false, false] [] [x47x] (.ld 1 false (.t x47x)) false [] [] []), (.mk (some x49x) none false [] true 
  [true, true, true, true, true, true, true, true, true] [] [x40x, x44x, x48x] (.callv (.t x40x) (.cons (.t x44x) (.cons (.t x48x) .nil))) true [] [] [x2000000x]), (.mk (some x50x) 
  none true [] false [true, true, true, true, true, true, true, true, true, true] [] [x49x] (.bin .lss (.t x49x) (.c (.n 0))) false [] [] [])]) (.cond (.t x50x) (.reg (.cons (some 
  x51x) none (.mv (.t x12x)) (.cons (some x52x) none (.bin .add (.t x51x) (.c (.n 1))) (.cons (some x10x) none (.mv (.t x52x)) .nil)))) (.reg (.cons (some x53x) none (.mv (.t 
  x12x)) (.cons (some x11x) none (.mv (.t x53x)) .nil)))))))))) (.seq (.seq (.reg (.cons (some x54x) none (.mv (.t x1x)) (.cons (some x13x) none (.mv (.t x54x)) .nil))) (.block 2 
  (.loop (.seq (.seq (.reg (.cons (some x55x) none (.mv (.t x13x)) (.cons (some x56x) none (.mv (.t x10x)) (.cons (some x57x) none (.bin .sub (.t x56x) (.c (.n 1))) (.cons (some 
  x58x) none (.bin .lss (.t x55x) (.t x57x)) .nil))))) (.cond (.t x58x) .skip (.exit 2))) (.seq (.block 3 (.draw [(.mk (some x61x) none true [] false [] [] [x0x] (.mv (.t x0x)) 
  false [] [] []), (.mk (some x62x) none true [] false [false] [] [x13x] (.mv (.t x13x)) false [] [] []), (.mk (some x63x) none true [] false [false, false] [x75x] [x0x] (.mv (.t 
  x0x)) false [] [] []), (.mk (some x64x) none true [] false [false, false, false] [x75x] [x13x] (.mv (.t x13x)) false [] [] []), (.mk (some x65x) none true [] false [true, false, 
  false, false] [x75x] [x64x] (.bin .add (.t x64x) (.c (.n 1))) false [] [] []), (.mk (some x66x) none true [] false [false, false, false, false, false] [] [x0x] (.mv (.t x0x)) 
  false [] [] []), (.mk (some x67x) none true [] false [false, false, false, false, false, false] [] [x13x] (.mv (.t x13x)) false [] [] []), (.mk (some x68x) none true [] false 
  [true, false, false, false, false, false, false] [] [x67x] (.bin .add (.t x67x) (.c (.n 1))) false [] [] []), (.mk (some x69x) none true [] false [true, true, true, false, false, 
  false, false, false] [] [x66x, x68x] (.ixs 1 (.t x66x) (.t x68x)) false [] [] []), (.mk (some x70x) none false [] false [true, true, true, true, false, false, false, false, 
  false] [] [x69x] (.ld 1 false (.t x69x)) false [] [] []), (.mk (some x71x) none true [] false [false, false, false, false, false, false, false, false, false, false] [] [x0x] (.mv 
  (.t x0x)) false [] [] []), (.mk (some x72x) none true [] false [false, false, false, false, false, false, false, false, false, false, false] [] [x13x] (.mv (.t x13x)) false [] [] 
  []), (.mk (some x73x) none true [] false [true, true, false, false, false, false, false, false, false, false, false, false] [] [x71x, x72x] (.ixs 1 (.t x71x) (.t x72x)) false [] 
  [] []), (.mk (some x74x) none false [] false [true, true, true, false, false, false, false, false, false, false, false, false, false] [] [x73x] (.ld 1 false (.t x73x)) false [] 
  [] []), (.mk (some x75x) none true [] false [true, true, true, true, true, true, true, true, true, false, false, false, true, true] [] [x61x, x62x] (.ixs 1 (.t x61x) (.t x62x)) 
  false [] [] []), (.mk none none false [x75x] false [true, true, true, true, true, true, true, true, true, true, false, false, false, true, true] [] [x75x, x70x] (.st 1 (.t x75x) 
  (.t x70x)) false [] [] []), (.mk (some x76x) none true [] false [true, true, true, true, true, true, true, true, true, true, true, true, true, true, true, true] [] [x63x, x65x] 
  (.ixs 1 (.t x63x) (.t x65x)) false [] [] []), (.mk none none false [x76x] false [true, true, true, true, true, true, true, true, true, true, true, true, true, true, true, true, 
  true] [] [x76x, x74x] (.st 1 (.t x76x) (.t x74x)) false [] [] [])])) (.reg (.cons (some x59x) none (.mv (.t x13x)) (.cons (some x60x) none (.bin .add (.t x59x) (.c (.n 1))) 
  (.cons (some x13x) none (.mv (.t x60x)) .nil))))))))) .ret)))) .skip)) (.seq (.seq (.reg (.cons (some x77x) none (.mv (.t x3x)) (.cons (some x78x) none (.mv (.t x2x)) (.cons 
  (some x79x) none (.bin .sub (.t x77x) (.t x78x)) (.cons (some x80x) none (.bin .eql (.t x79x) (.c (.n 1))) .nil))))) (.cond (.t x80x) (.seq (.reg (.cons (some x81x) none (.mv (.t 
  x1x)) (.cons (some x14x) none (.mv (.t x81x)) .nil))) (.seq (.reg (.cons (some x82x) none (.mv (.t x2x)) (.cons (some x15x) none (.mv (.t x82x)) .nil))) (.seq (.block 4 (.loop 
  (.seq (.seq (.reg (.cons (some x83x) none (.mv (.t x14x)) (.cons (some x84x) none (.mv (.t x15x)) (.cons (some x85x) none (.bin .lss (.t x83x) (.t x84x)) .nil)))) (.cond (.t 
  x85x) .skip (.exit 4))) (.block 5 (.seq (.reg (.cons (some x86x) none (.mv (.t x14x)) (.cons (some x87x) none (.mv (.t x15x)) (.cons (some x88x) none (.bin .add (.t x86x) (.t 
  x87x)) (.cons (some x89x) none (.conv .u64 (.t x88x)) (.cons (some x90x) none (.bin .shr (.t x89x) (.c (.i .u64 (.ofNat 1)))) (.cons (some x91x) none (.conv .i64 (.t x90x)) 
  (.cons (some x16x) none (.mv (.t x91x)) .nil)))))))) (.seq (.draw [(.mk (some x92x) none true [] false [] [] [x4x] (.mv (.t x4x)) false [] [] []), (.mk (some x93x) none true [] 
  false [false] [] [x0x] (.mv (.t x0x)) false [] [] []), (.mk (some x94x) none true [] false [false, false] [] [x2x] (.mv (.t x2x)) false [] [] []), (.mk (some x95x) none true [] 
  false [true, true, false] [] [x93x, x94x] (.ixs 1 (.t x93x) (.t x94x)) false [] [] []), (.mk (some x96x) none false [] false [true, true, true, false] [] [x95x] (.ld 1 false (.t 
  x95x)) false [] [] []), (.mk (some x97x) none true [] false [false, false, false, false, false] [] [x0x] (.mv (.t x0x)) false [] [] []), (.mk (some x98x) none true [] false 
  [false, false, false, false, false, false] [] [x16x] (.mv (.t x16x)) false [] [] []), (.mk (some x99x) none true [] false [true, true, false, false, false, false, false] [] 
  [x97x, x98x] (.ixs 1 (.t x97x) (.t x98x)) false [] [] []), (.mk (some x100x) none false [] false [true, true, true, false, false, false, false, false] [] [x99x] (.ld 1 false (.t 
  x99x)) false [] [] []), (.mk (some x101x) none false [] true [true, true, true, true, true, true, true, true, true] [] [x92x, x96x, x100x] (.callv (.t x92x) (.cons (.t x96x) 
  (.cons (.t x100x) .nil))) true [] [] [x2000000x]), (.mk (some x102x) none true [] false [true, true, true, true, true, true, true, true, true, true] [] [x101x] (.bin .lss (.t 
  x101x) (.c (.n 0))) false [] [] []), (.mk (some x103x) none true [] false [true, true, true, true, true, true, true, true, true, true, true] [] [x102x] (.not (.t x102x)) false [] 
  [] [])]) (.cond (.t x103x) (.reg (.cons (some x104x) none (.mv (.t x16x)) (.cons (some x105x) none (.bin .add (.t x104x) (.c (.n 1))) (.cons (some x14x) none (.mv (.t x105x)) 
  .nil)))) (.reg (.cons (some x106x) none (.mv (.t x16x)) (.cons (some x15x) none (.mv (.t x106x)) .nil)))))))))) (.seq (.seq (.reg (.cons (some x107x) none (.mv (.t x2x)) (.cons 
  (some x17x) none (.mv (.t x107x)) .nil))) (.block 6 (.loop (.seq (.seq (.reg (.cons (some x108x) none (.mv (.t x17x)) (.cons (some x109x) none (.mv (.t x14x)) (.cons (some x110x) 
  none (.bin .gtr (.t x108x) (.t x109x)) .nil)))) (.cond (.t x110x) .skip (.exit 6))) (.seq (.block 7 (.draw [(.mk (some x113x) none true [] false [] [] [x0x] (.mv (.t x0x)) false 
  [] [] []), (.mk (some x114x) none true [] false [false] [] [x17x] (.mv (.t x17x)) false [] [] []), (.mk (some x115x) none true [] false [false, false] [x127x] [x0x] (.mv (.t 
  x0x)) false [] [] []), (.mk (some x116x) none true [] false [false, false, false] [x127x] [x17x] (.mv (.t x17x)) false [] [] []), (.mk (some x117x) none true [] false [true, 
  false, false, false] [x127x] [x116x] (.bin .sub (.t x116x) (.c (.n 1))) false [] [] []), (.mk (some x118x) none true [] false [false, false, false, false, false] [] [x0x] (.mv 
  (.t x0x)) false [] [] []), (.mk (some x119x) none true [] false [false, false, false, false, false, false] [] [x17x] (.mv (.t x17x)) false [] [] []), (.mk (some x120x) none true 
  [] false [true, false, false, false, false, false, false] [] [x119x] (.bin .sub (.t x119x) (.c (.n 1))) false [] [] []), (.mk (some x121x) none true [] false [true, true, true, 
  false, false, false, false, false] [] [x118x, x120x] (.ixs 1 (.t x118x) (.t x120x)) false [] [] []), (.mk (some x122x) none false [] false [true, true, true, true, false, false, 
  false, false, false] [] [x121x] (.ld 1 false (.t x121x)) false [] [] []), (.mk (some x123x) none true [] false [false, false, false, false, false, false, false, false, false, 
  false] [] [x0x] (.mv (.t x0x)) false [] [] []), (.mk (some x124x) none true [] false [false, false, false, false, false, false, false, false, false, false, false] [] [x17x] (.mv 
  (.t x17x)) false [] [] []), (.mk (some x125x) none true [] false [true, true, false, false, false, false, false, false, false, false, false, false] [] [x123x, x124x] (.ixs 1 (.t 
  x123x) (.t x124x)) false [] [] []), (.mk (some x126x) none false [] false [true, true, true, false, false, false, false, false, false, false, false, false, false] [] [x125x] (.ld 
  1 false (.t x125x)) false [] [] []), (.mk (some x127x) none true [] false [true, true, true, true, true, true, true, true, true, false, false, false, true, true] [] [x113x, 
  x114x] (.ixs 1 (.t x113x) (.t x114x)) false [] [] []), (.mk none none false [x127x] false [true, true, true, true, true, true, true, true, true, true, false, false, false, true, 
  true] [] [x127x, x122x] (.st 1 (.t x127x) (.t x122x)) false [] [] []), (.mk (some x128x) none true [] false [true, true, true, true, true, true, true, true, true, true, true, 
  true, true, true, true, true] [] [x115x, x117x] (.ixs 1 (.t x115x) (.t x117x)) false [] [] []), (.mk none none false [x128x] false [true, true, true, true, true, true, true, 
  true, true, true, true, true, true, true, true, true, true] [] [x128x, x126x] (.st 1 (.t x128x) (.t x126x)) false [] [] [])])) (.reg (.cons (some x111x) none (.mv (.t x17x)) 
  (.cons (some x112x) none (.bin .sub (.t x111x) (.c (.n 1))) (.cons (some x17x) none (.mv (.t x112x)) .nil))))))))) .ret)))) .skip)) (.seq (.reg (.cons (some x129x) none (.mv (.t 
  x1x)) (.cons (some x130x) none (.mv (.t x3x)) (.cons (some x131x) none (.bin .add (.t x129x) (.t x130x)) (.cons (some x132x) none (.conv .u64 (.t x131x)) (.cons (some x133x) none 
  (.bin .shr (.t x132x) (.c (.i .u64 (.ofNat 1)))) (.cons (some x134x) none (.conv .i64 (.t x133x)) (.cons (some x18x) none (.mv (.t x134x)) .nil)))))))) (.seq (.reg (.cons (some 
  x135x) none (.mv (.t x18x)) (.cons (some x136x) none (.mv (.t x2x)) (.cons (some x137x) none (.bin .add (.t x135x) (.t x136x)) (.cons (some x19x) none (.mv (.t x137x)) .nil))))) 
  (.seq (.reg (.cons (some x20x) none (.mv (.c (.n 0))) (.cons (some x21x) none (.mv (.c (.n 0))) .nil))) (.seq (.seq (.reg (.cons (some x138x) none (.mv (.t x2x)) (.cons (some 
  x139x) none (.mv (.t x18x)) (.cons (some x140x) none (.bin .gtr (.t x138x) (.t x139x)) .nil)))) (.cond (.t x140x) (.seq (.reg (.cons (some x141x) none (.mv (.t x19x)) (.cons 
  (some x142x) none (.mv (.t x3x)) (.cons (some x143x) none (.bin .sub (.t x141x) (.t x142x)) (.cons (some x20x) none (.mv (.t x143x)) .nil))))) (.reg (.cons (some x144x) none (.mv 
  (.t x18x)) (.cons (some x21x) none (.mv (.t x144x)) .nil)))) (.seq (.reg (.cons (some x145x) none (.mv (.t x1x)) (.cons (some x20x) none (.mv (.t x145x)) .nil))) (.reg (.cons 
  (some x146x) none (.mv (.t x2x)) (.cons (some x21x) none (.mv (.t x146x)) .nil)))))) (.seq (.reg (.cons (some x147x) none (.mv (.t x19x)) (.cons (some x148x) none (.bin .sub (.t 
  x147x) (.c (.n 1))) (.cons (some x22x) none (.mv (.t x148x)) .nil)))) (.seq (.block 8 (.loop (.seq (.seq (.reg (.cons (some x149x) none (.mv (.t x20x)) (.cons (some x150x) none 
  (.mv (.t x21x)) (.cons (some x151x) none (.bin .lss (.t x149x) (.t x150x)) .nil)))) (.cond (.t x151x) .skip (.exit 8))) (.block 9 (.seq (.reg (.cons (some x152x) none (.mv (.t 
  x20x)) (.cons (some x153x) none (.mv (.t x21x)) (.cons (some x154x) none (.bin .add (.t x152x) (.t x153x)) (.cons (some x155x) none (.conv .u64 (.t x154x)) (.cons (some x156x) 
  none (.bin .shr (.t x155x) (.c (.i .u64 (.ofNat 1)))) (.cons (some x157x) none (.conv .i64 (.t x156x)) (.cons (some x23x) none (.mv (.t x157x)) .nil)))))))) (.seq (.draw [(.mk 
  (some x158x) none true [] false [] [] [x4x] (.mv (.t x4x)) false [] [] []), (.mk (some x159x) none true [] false [false] [] [x0x] (.mv (.t x0x)) false [] [] []), (.mk (some 
  x160x) none true [] false [false, false] [] [x22x] (.mv (.t x22x)) false [] [] []), (.mk (some x161x) none true [] false [false, false, false] [] [x23x] (.mv (.t x23x)) false [] 
  [] []), (.mk (some x162x) none true [] false [true, true, false, false] [] [x160x, x161x] (.bin .sub (.t x160x) (.t x161x)) false [] [] []), (.mk (some x163x) none true [] false 
  [true, true, true, true, false] [] [x159x, x162x] (.ixs 1 (.t x159x) (.t x162x)) false [] [] []), (.mk (some x164x) none false [] false [true, true, true, true, true, false] [] 
  [x163x] (.ld 1 false (.t x163x)) false [] [] []), (.mk (some x165x) none true [] false [false, false, false, false, false, false, false] [] [x0x] (.mv (.t x0x)) false [] [] []), 
  (.mk (some x166x) none true [] false [false, false, false, false, false, false, false, false] [] [x23x] (.mv (.t x23x)) false [] [] []), (.mk (some x167x) none true [] false 
  [true, true, false, false, false, false, false, false, false] [] [x165x, x166x] (.ixs 1 (.t x165x) (.t x166x)) false [] [] []), (.mk (some x168x) none false [] false [true, true, 
  true, false, false, false, false, false, false, false] [] [x167x] (.ld 1 false (.t x167x)) false [] [] []), (.mk (some x169x) none false [] true [true, true, true, true, true, 
  true, true, true, true, true, true] [] [x158x, x164x, x168x] (.callv (.t x158x) (.cons (.t x164x) (.cons (.t x168x) .nil))) true [] [] [x2000000x]), (.mk (some x170x) none true 
  [] false [true, true, true, true, true, true, true, true, true, true, true, true] [] [x169x] (.bin .lss (.t x169x) (.c (.n 0))) false [] [] []), (.mk (some x171x) none true [] 
  false [true, true, true, true, true, true, true, true, true, true, true, true, true] [] [x170x] (.not (.t x170x)) false [] [] [])]) (.cond (.t x171x) (.reg (.cons (some x172x) 
  none (.mv (.t x23x)) (.cons (some x173x) none (.bin .add (.t x172x) (.c (.n 1))) (.cons (some x20x) none (.mv (.t x173x)) .nil)))) (.reg (.cons (some x174x) none (.mv (.t x23x)) 
  (.cons (some x21x) none (.mv (.t x174x)) .nil)))))))))) (.seq (.reg (.cons (some x175x) none (.mv (.t x19x)) (.cons (some x176x) none (.mv (.t x20x)) (.cons (some x177x) none 
  (.bin .sub (.t x175x) (.t x176x)) (.cons (some x24x) none (.mv (.t x177x)) .nil))))) (.seq (.seq (.reg (.cons (some x178x) none (.mv (.t x20x)) (.cons (some x179x) none (.mv (.t 
  x2x)) (.cons (some x180x) none (.bin .lss (.t x178x) (.t x179x)) (.cons (some x181x) none (.mv (.t x180x)) (.cons (some x182x) (some (.mk x181x true)) (.mv (.t x2x)) (.cons (some 
  x183x) (some (.mk x181x true)) (.mv (.t x24x)) (.cons (some x184x) (some (.mk x181x true)) (.bin .lss (.t x182x) (.t x183x)) (.cons (some x185x) none (.pick (.t x181x) (.t x184x) 
  (.c (.b false))) .nil))))))))) (.cond (.t x185x) (.reg (.cons (some x186x) none (.mv (.t x0x)) (.cons (some x187x) none (.mv (.t x20x)) (.cons (some x188x) none (.mv (.t x2x)) 
  (.cons (some x189x) none (.mv (.t x24x)) (.cons (some x190x) none (.mv (.t x4x)) (.cons (some x191x) none (.call 58 (.cons (.t x186x) (.cons (.t x187x) (.cons (.t x188x) (.cons 
  (.t x189x) (.cons (.t x190x) .nil)))))) .nil))))))) .skip)) (.seq (.seq (.reg (.cons (some x192x) none (.mv (.t x1x)) (.cons (some x193x) none (.mv (.t x20x)) (.cons (some x194x) 
  none (.bin .lss (.t x192x) (.t x193x)) (.cons (some x195x) none (.mv (.t x194x)) (.cons (some x196x) (some (.mk x195x true)) (.mv (.t x20x)) (.cons (some x197x) (some (.mk x195x 
  true)) (.mv (.t x18x)) (.cons (some x198x) (some (.mk x195x true)) (.bin .lss (.t x196x) (.t x197x)) (.cons (some x199x) none (.pick (.t x195x) (.t x198x) (.c (.b false))) 
  .nil))))))))) (.cond (.t x199x) (.reg (.cons (some x200x) none (.mv (.t x0x)) (.cons (some x201x) none (.mv (.t x1x)) (.cons (some x202x) none (.mv (.t x20x)) (.cons (some x203x) 
  none (.mv (.t x18x)) (.cons (some x204x) none (.mv (.t x4x)) (.cons (some x205x) none (.call 57 (.cons (.t x200x) (.cons (.t x201x) (.cons (.t x202x) (.cons (.t x203x) (.cons (.t 
  x204x) .nil)))))) .nil))))))) .skip)) (.seq (.reg (.cons (some x206x) none (.mv (.t x18x)) (.cons (some x207x) none (.mv (.t x24x)) (.cons (some x208x) none (.bin .lss (.t x206x) 
  (.t x207x)) (.cons (some x209x) none (.mv (.t x208x)) (.cons (some x210x) (some (.mk x209x true)) (.mv (.t x24x)) (.cons (some x211x) (some (.mk x209x true)) (.mv (.t x3x)) 
  (.cons (some x212x) (some (.mk x209x true)) (.bin .lss (.t x210x) (.t x211x)) (.cons (some x213x) none (.pick (.t x209x) (.t x212x) (.c (.b false))) .nil))))))))) (.cond (.t 
  x213x) (.reg (.cons (some x214x) none (.mv (.t x0x)) (.cons (some x215x) none (.mv (.t x18x)) (.cons (some x216x) none (.mv (.t x24x)) (.cons (some x217x) none (.mv (.t x3x)) 
  (.cons (some x218x) none (.mv (.t x4x)) (.cons (some x219x) none (.call 57 (.cons (.t x214x) (.cons (.t x215x) (.cons (.t x216x) (.cons (.t x217x) (.cons (.t x218x) .nil)))))) 
  .nil))))))) .skip))))))))))))) [])
theorem cc57 : compF Try.prog drops false false Try.f57 = some i57 := by kernel_rfl
noncomputable def i58 : FnI := (.mk false false (.seq (.reg (.cons (some x12x) none (.mv (.t x2x)) (.cons (some x13x) none (.mv (.t x1x)) (.cons (some x14x) none (.bin .sub (.t x12x) (.t x13x)) (.cons (some 
  x10x) none (.mv (.t x14x)) .nil))))) (.seq (.reg (.cons (some x15x) none (.mv (.t x3x)) (.cons (some x16x) none (.mv (.t x2x)) (.cons (some x17x) none (.bin .sub (.t x15x) (.t 
  x16x)) (.cons (some x11x) none (.mv (.t x17x)) .nil))))) (.seq (.block 0 (.loop (.seq (.seq (.reg (.cons (some x18x) none (.mv (.t x10x)) (.cons (some x19x) none (.mv (.t x11x)) 
  (.cons (some x20x) none (.bin .neq (.t x18x) (.t x19x)) .nil)))) (.cond (.t x20x) .skip (.exit 0))) (.block 1 (.seq (.reg (.cons (some x21x) none (.mv (.t x10x)) (.cons (some 
  x22x) none (.mv (.t x11x)) (.cons (some x23x) none (.bin .gtr (.t x21x) (.t x22x)) .nil)))) (.cond (.t x23x) (.seq (.reg (.cons (some x24x) none (.mv (.t x0x)) (.cons (some x25x) 
  none (.mv (.t x2x)) (.cons (some x26x) none (.mv (.t x10x)) (.cons (some x27x) none (.bin .sub (.t x25x) (.t x26x)) (.cons (some x28x) none (.mv (.t x2x)) (.cons (some x29x) none 
  (.mv (.t x11x)) (.cons (some x30x) none (.mv (.t x4x)) (.cons (some x31x) none (.call 59 (.cons (.t x24x) (.cons (.t x27x) (.cons (.t x28x) (.cons (.t x29x) (.cons (.t x30x) 
  .nil)))))) .nil))))))))) (.reg (.cons (some x32x) none (.mv (.t x10x)) (.cons (some x33x) none (.mv (.t x11x)) (.cons (some x34x) none (.bin .sub (.t x32x) (.t x33x)) (.cons 
  (some x10x) none (.mv (.t x34x)) .nil)))))) (.seq (.reg (.cons (some x35x) none (.mv (.t x0x)) (.cons (some x36x) none (.mv (.t x2x)) (.cons (some x37x) none (.mv (.t x10x)) 
  (.cons (some x38x) none (.bin .sub (.t x36x) (.t x37x)) (.cons (some x39x) none (.mv (.t x2x)) (.cons (some x40x) none (.mv (.t x11x)) (.cons (some x41x) none (.bin .add (.t 
  x39x) (.t x40x)) (.cons (some x42x) none (.mv (.t x10x)) (.cons (some x43x) none (.bin .sub (.t x41x) (.t x42x)) (.cons (some x44x) none (.mv (.t x10x)) (.cons (some x45x) none 
  (.mv (.t x4x)) (.cons (some x46x) none (.call 59 (.cons (.t x35x) (.cons (.t x38x) (.cons (.t x43x) (.cons (.t x44x) (.cons (.t x45x) .nil)))))) .nil))))))))))))) (.reg (.cons 
  (some x47x) none (.mv (.t x11x)) (.cons (some x48x) none (.mv (.t x10x)) (.cons (some x49x) none (.bin .sub (.t x47x) (.t x48x)) (.cons (some x11x) none (.mv (.t x49x)) 
  .nil)))))))))))) (.reg (.cons (some x50x) none (.mv (.t x0x)) (.cons (some x51x) none (.mv (.t x2x)) (.cons (some x52x) none (.mv (.t x10x)) (.cons (some x53x) none (.bin .sub 
  (.t x51x) (.t x52x)) (.cons (some x54x) none (.mv (.t x2x)) (.cons (some x55x) none (.mv (.t x10x)) (.cons (some x56x) none (.mv (.t x4x)) (.cons (some x57x) none (.call 59 
  (.cons (.t x50x) (.cons (.t x53x) (.cons (.t x54x) (.cons (.t x55x) (.cons (.t x56x) .nil)))))) .nil)))))))))))) [])
theorem cc58 : compF Try.prog drops false false Try.f58 = some i58 := by kernel_rfl
noncomputable def i59 : FnI := (.mk false false (.seq (.reg (.cons (some x10x) none (.mv (.c (.n 0))) .nil)) (.block 0 (.loop (.seq (.seq (.reg (.cons (some x11x) none (.mv (.t x10x)) (.cons (some x12x) none 
  (.mv (.t x3x)) (.cons (some x13x) none (.bin .lss (.t x11x) (.t x12x)) .nil)))) (.cond (.t x13x) .skip (.exit 0))) (.seq (.block 1 (.draw [(.mk (some x16x) none true [] false [] 
  [] [x0x] (.mv (.t x0x)) false [] [] []), (.mk (some x17x) none true [] false [false] [] [x1x] (.mv (.t x1x)) false [] [] []), (.mk (some x18x) none true [] false [false, false] 
  [] [x10x] (.mv (.t x10x)) false [] [] []), (.mk (some x19x) none true [] false [true, true, false] [] [x17x, x18x] (.bin .add (.t x17x) (.t x18x)) false [] [] []), (.mk (some 
  x20x) none true [] false [false, false, false, false] [x36x] [x0x] (.mv (.t x0x)) false [] [] []), (.mk (some x21x) none true [] false [false, false, false, false, false] [x36x] 
  [x2x] (.mv (.t x2x)) false [] [] []), (.mk (some x22x) none true [] false [false, false, false, false, false, false] [x36x] [x10x] (.mv (.t x10x)) false [] [] []), (.mk (some 
  x23x) none true [] false [true, true, false, false, false, false, false] [x36x] [x21x, x22x] (.bin .add (.t x21x) (.t x22x)) false [] [] []), (.mk (some x24x) none true [] false 
  [false, false, false, false, false, false, false, false] [] [x0x] (.mv (.t x0x)) false [] [] []), (.mk (some x25x) none true [] false [false, false, false, false, false, false, 
  false, false, false] [] [x2x] (.mv (.t x2x)) false [] [] []), (.mk (some x26x) none true [] false [false, false, false, false, false, false, false, false, false, false] [] [x10x] 
  (.mv (.t x10x)) false [] [] []), (.mk (some x27x) none true [] false [true, true, false, false, false, false, false, false, false, false, false] [] [x25x, x26x] (.bin .add (.t 
  x25x) (.t x26x)) false [] [] []), (.mk (some x28x) none true [] false [true, true, true, true, false, false, false, false, false, false, false, false] [] [x24x, x27x] (.ixs 1 (.t 
  x24x) (.t x27x)) false [] [] []), (.mk (some x29x) none false [] false [true, true, true, true, true, false, false, false, false, false, false, false, false] [] [x28x] (.ld 1 
  false (.t x28x)) false [] [] []), (.mk (some x30x) none true [] false [false, false, false, false, false, false, false, false, false, false, false, false, false, false] [] [x0x] 
  (.mv (.t x0x)) false [] [] []), (.mk (some x31x) none true [] false [false, false, false, false, false, false, false, false, false, false, false, false, false, false, false] [] 
  [x1x] (.mv (.t x1x)) false [] [] []), (.mk (some x32x) none true [] false [false, false, false, false, false, false, false, false, false, false, false, false, false, false, 
  false, false] [] [x10x] (.mv (.t x10x)) false [] [] []), (.mk (some x33x) none true [] false [true, true, false, false, false, false, false, false, false, false, false, false, 
  false, false, false, false, false] [] [x31x, x32x] (.bin .add (.t x31x) (.t x32x)) false [] [] []), (.mk (some x34x) none true [] false [true, true, true, true, false, false, 
  false, false, false, false, false, false, false, false, false, false, false, false] [] [x30x, x33x] (.ixs 1 (.t x30x) (.t x33x)) false [] [] []), (.mk (some x35x) none false [] 
  false [true, true, true, true, true, false, false, false, false, false, false, false, false, false, false, false, false, false, false] [] [x34x] (.ld 1 false (.t x34x)) false [] 
  [] []), (.mk (some x36x) none true [] false [true, true, true, true, true, true, true, true, true, true, true, true, false, false, false, false, true, true, true, true] [] [x16x, 
  x19x] (.ixs 1 (.t x16x) (.t x19x)) false [] [] []), (.mk none none false [x36x] false [true, true, true, true, true, true, true, true, true, true, true, true, true, false, false, 
  false, false, true, true, true, true] [] [x36x, x29x] (.st 1 (.t x36x) (.t x29x)) false [] [] []), (.mk (some x37x) none true [] false [true, true, true, true, true, true, true, 
  true, true, true, true, true, true, true, true, true, true, true, true, true, true, true] [] [x20x, x23x] (.ixs 1 (.t x20x) (.t x23x)) false [] [] []), (.mk none none false 
  [x37x] false [true, true, true, true, true, true, true, true, true, true, true, true, true, true, true, true, true, true, true, true, true, true, true] [] [x37x, x35x] (.st 1 (.t 
  x37x) (.t x35x)) false [] [] [])])) (.reg (.cons (some x14x) none (.mv (.t x10x)) (.cons (some x15x) none (.bin .add (.t x14x) (.c (.n 1))) (.cons (some x10x) none (.mv (.t 
  x15x)) .nil))))))))) [])
theorem cc59 : compF Try.prog drops false false Try.f59 = some i59 := by kernel_rfl
noncomputable def fs59 : List (Nat × FnI) := (59, i59) :: []
theorem l59 : Listed Try.prog fs59 := listed_cons Try.func59 cc59 listed_nil (by decide)
noncomputable def fs58 : List (Nat × FnI) := (58, i58) :: fs59
theorem l58 : Listed Try.prog fs58 := listed_cons Try.func58 cc58 l59 (by decide)
noncomputable def fs57 : List (Nat × FnI) := (57, i57) :: fs58
theorem l57 : Listed Try.prog fs57 := listed_cons Try.func57 cc57 l58 (by decide)
noncomputable def fs56 : List (Nat × FnI) := (56, i56) :: fs57
theorem l56 : Listed Try.prog fs56 := listed_cons Try.func56 cc56 l57 (by decide)
noncomputable def fs55 : List (Nat × FnI) := (55, i55) :: fs56
theorem l55 : Listed Try.prog fs55 := listed_cons Try.func55 cc55 l56 (by decide)
noncomputable def fs54 : List (Nat × FnI) := (54, i54) :: fs55
theorem l54 : Listed Try.prog fs54 := listed_cons Try.func54 cc54 l55 (by decide)
noncomputable def fs53 : List (Nat × FnI) := (53, i53) :: fs54
theorem l53 : Listed Try.prog fs53 := listed_cons Try.func53 cc53 l54 (by decide)
noncomputable def fs52 : List (Nat × FnI) := (52, i52) :: fs53
theorem l52 : Listed Try.prog fs52 := listed_cons Try.func52 cc52 l53 (by decide)
noncomputable def fs51 : List (Nat × FnI) := (51, i51) :: fs52
theorem l51 : Listed Try.prog fs51 := listed_cons Try.func51 cc51 l52 (by decide)
noncomputable def fs50 : List (Nat × FnI) := (50, i50) :: fs51
theorem l50 : Listed Try.prog fs50 := listed_cons Try.func50 cc50 l51 (by decide)
noncomputable def fs49 : List (Nat × FnI) := (49, i49) :: fs50
theorem l49 : Listed Try.prog fs49 := listed_cons Try.func49 cc49 l50 (by decide)
noncomputable def fs48 : List (Nat × FnI) := (48, i48) :: fs49
theorem l48 : Listed Try.prog fs48 := listed_cons Try.func48 cc48 l49 (by decide)
noncomputable def fs47 : List (Nat × FnI) := (47, i47) :: fs48
theorem l47 : Listed Try.prog fs47 := listed_cons Try.func47 cc47 l48 (by decide)
noncomputable def fs46 : List (Nat × FnI) := (46, i46) :: fs47
theorem l46 : Listed Try.prog fs46 := listed_cons Try.func46 cc46 l47 (by decide)
noncomputable def fs45 : List (Nat × FnI) := (45, i45) :: fs46
theorem l45 : Listed Try.prog fs45 := listed_cons Try.func45 cc45 l46 (by decide)
noncomputable def fs44 : List (Nat × FnI) := (44, i44) :: fs45
theorem l44 : Listed Try.prog fs44 := listed_cons Try.func44 cc44 l45 (by decide)
noncomputable def fs43 : List (Nat × FnI) := (43, i43) :: fs44
theorem l43 : Listed Try.prog fs43 := listed_cons Try.func43 cc43 l44 (by decide)
noncomputable def fs42 : List (Nat × FnI) := (42, i42) :: fs43
theorem l42 : Listed Try.prog fs42 := listed_cons Try.func42 cc42 l43 (by decide)
noncomputable def fs41 : List (Nat × FnI) := (41, i41) :: fs42
theorem l41 : Listed Try.prog fs41 := listed_cons Try.func41 cc41 l42 (by decide)
noncomputable def fs40 : List (Nat × FnI) := (40, i40) :: fs41
theorem l40 : Listed Try.prog fs40 := listed_cons Try.func40 cc40 l41 (by decide)
noncomputable def fs39 : List (Nat × FnI) := (39, i39) :: fs40
theorem l39 : Listed Try.prog fs39 := listed_cons Try.func39 cc39 l40 (by decide)
noncomputable def fs38 : List (Nat × FnI) := (38, i38) :: fs39
theorem l38 : Listed Try.prog fs38 := listed_cons Try.func38 cc38 l39 (by decide)
noncomputable def fs37 : List (Nat × FnI) := (37, i37) :: fs38
theorem l37 : Listed Try.prog fs37 := listed_cons Try.func37 cc37 l38 (by decide)
noncomputable def fs36 : List (Nat × FnI) := (36, i36) :: fs37
theorem l36 : Listed Try.prog fs36 := listed_cons Try.func36 cc36 l37 (by decide)
noncomputable def fs35 : List (Nat × FnI) := (35, i35) :: fs36
theorem l35 : Listed Try.prog fs35 := listed_cons Try.func35 cc35 l36 (by decide)
noncomputable def fs34 : List (Nat × FnI) := (34, i34) :: fs35
theorem l34 : Listed Try.prog fs34 := listed_cons Try.func34 cc34 l35 (by decide)
noncomputable def fs33 : List (Nat × FnI) := (33, i33) :: fs34
theorem l33 : Listed Try.prog fs33 := listed_cons Try.func33 cc33 l34 (by decide)
noncomputable def fs32 : List (Nat × FnI) := (32, i32) :: fs33
theorem l32 : Listed Try.prog fs32 := listed_cons Try.func32 cc32 l33 (by decide)
noncomputable def fs31 : List (Nat × FnI) := (31, i31) :: fs32
theorem l31 : Listed Try.prog fs31 := listed_cons Try.func31 cc31 l32 (by decide)
noncomputable def fs30 : List (Nat × FnI) := (30, i30) :: fs31
theorem l30 : Listed Try.prog fs30 := listed_cons Try.func30 cc30 l31 (by decide)
noncomputable def fs29 : List (Nat × FnI) := (29, i29) :: fs30
theorem l29 : Listed Try.prog fs29 := listed_cons Try.func29 cc29 l30 (by decide)
noncomputable def fs28 : List (Nat × FnI) := (28, i28) :: fs29
theorem l28 : Listed Try.prog fs28 := listed_cons Try.func28 cc28 l29 (by decide)
noncomputable def fs27 : List (Nat × FnI) := (27, i27) :: fs28
theorem l27 : Listed Try.prog fs27 := listed_cons Try.func27 cc27 l28 (by decide)
noncomputable def fs26 : List (Nat × FnI) := (26, i26) :: fs27
theorem l26 : Listed Try.prog fs26 := listed_cons Try.func26 cc26 l27 (by decide)
noncomputable def fs25 : List (Nat × FnI) := (25, i25) :: fs26
theorem l25 : Listed Try.prog fs25 := listed_cons Try.func25 cc25 l26 (by decide)
noncomputable def fs24 : List (Nat × FnI) := (24, i24) :: fs25
theorem l24 : Listed Try.prog fs24 := listed_cons Try.func24 cc24 l25 (by decide)
noncomputable def fs23 : List (Nat × FnI) := (23, i23) :: fs24
theorem l23 : Listed Try.prog fs23 := listed_cons Try.func23 cc23 l24 (by decide)
noncomputable def fs22 : List (Nat × FnI) := (22, i22) :: fs23
theorem l22 : Listed Try.prog fs22 := listed_cons Try.func22 cc22 l23 (by decide)
noncomputable def fs21 : List (Nat × FnI) := (21, i21) :: fs22
theorem l21 : Listed Try.prog fs21 := listed_cons Try.func21 cc21 l22 (by decide)
noncomputable def fs20 : List (Nat × FnI) := (20, i20) :: fs21
theorem l20 : Listed Try.prog fs20 := listed_cons Try.func20 cc20 l21 (by decide)
noncomputable def fs19 : List (Nat × FnI) := (19, i19) :: fs20
theorem l19 : Listed Try.prog fs19 := listed_cons Try.func19 cc19 l20 (by decide)
noncomputable def fs18 : List (Nat × FnI) := (18, i18) :: fs19
theorem l18 : Listed Try.prog fs18 := listed_cons Try.func18 cc18 l19 (by decide)
noncomputable def fs17 : List (Nat × FnI) := (17, i17) :: fs18
theorem l17 : Listed Try.prog fs17 := listed_cons Try.func17 cc17 l18 (by decide)
noncomputable def fs16 : List (Nat × FnI) := (16, i16) :: fs17
theorem l16 : Listed Try.prog fs16 := listed_cons Try.func16 cc16 l17 (by decide)
noncomputable def fs15 : List (Nat × FnI) := (15, i15) :: fs16
theorem l15 : Listed Try.prog fs15 := listed_cons Try.func15 cc15 l16 (by decide)
noncomputable def fs14 : List (Nat × FnI) := (14, i14) :: fs15
theorem l14 : Listed Try.prog fs14 := listed_cons Try.func14 cc14 l15 (by decide)
noncomputable def fs13 : List (Nat × FnI) := (13, i13) :: fs14
theorem l13 : Listed Try.prog fs13 := listed_cons Try.func13 cc13 l14 (by decide)
noncomputable def fs12 : List (Nat × FnI) := (12, i12) :: fs13
theorem l12 : Listed Try.prog fs12 := listed_cons Try.func12 cc12 l13 (by decide)
noncomputable def fs11 : List (Nat × FnI) := (11, i11) :: fs12
theorem l11 : Listed Try.prog fs11 := listed_cons Try.func11 cc11 l12 (by decide)
noncomputable def fs10 : List (Nat × FnI) := (10, i10) :: fs11
theorem l10 : Listed Try.prog fs10 := listed_cons Try.func10 cc10 l11 (by decide)
noncomputable def fs9 : List (Nat × FnI) := (9, i9) :: fs10
theorem l9 : Listed Try.prog fs9 := listed_cons Try.func9 cc9 l10 (by decide)
noncomputable def fs8 : List (Nat × FnI) := (8, i8) :: fs9
theorem l8 : Listed Try.prog fs8 := listed_cons Try.func8 cc8 l9 (by decide)
noncomputable def fs7 : List (Nat × FnI) := (7, i7) :: fs8
theorem l7 : Listed Try.prog fs7 := listed_cons Try.func7 cc7 l8 (by decide)
noncomputable def fs6 : List (Nat × FnI) := (6, i6) :: fs7
theorem l6 : Listed Try.prog fs6 := listed_cons Try.func6 cc6 l7 (by decide)
noncomputable def fs5 : List (Nat × FnI) := (5, i5) :: fs6
theorem l5 : Listed Try.prog fs5 := listed_cons Try.func5 cc5 l6 (by decide)
noncomputable def fs4 : List (Nat × FnI) := (4, i4) :: fs5
theorem l4 : Listed Try.prog fs4 := listed_cons Try.func4 cc4 l5 (by decide)
noncomputable def fs3 : List (Nat × FnI) := (3, i3) :: fs4
theorem l3 : Listed Try.prog fs3 := listed_cons Try.func3 cc3 l4 (by decide)
noncomputable def FS : List (Nat × FnI) := fs3
theorem listed : Listed Try.prog FS := l3
noncomputable def cmp : Nat → Code → Option IC := fun N c => compC Try.prog drops N c
noncomputable def PRT : FT := FT.of FS
noncomputable def EQ (W : FF → FF) (d : Nat) : FF := evQ cmp PRT W d
noncomputable def EF (d : Nat) : FF := EQ (fun G => G) d
theorem follows : Try.prog.follows .mixedOrders = true := by kernel_rfl
theorem EQ_ok {W : FF → FF} (hM : ∀ G, FF.mono G → (W G).mono) (hW : ∀ G, FOK Try.prog G → FOK Try.prog (W G)) (d : Nat) : FOK Try.prog (EQ W d) := evQ_sound follows listed hM hW d
theorem EQ_mono {W : FF → FF} (hM : ∀ G, FF.mono G → (W G).mono) (d : Nat) : (EQ W d).mono := evQ_mono _ _ hM d
theorem EF_ok (d : Nat) : FOK Try.prog (EF d) := EQ_ok (fun _ h => h) (fun _ h => h) d
theorem EF_mono (d : Nat) : (EF d).mono := EQ_mono (fun _ h => h) d
def zs64 : List Int := [0, 1, 56, 2, 57, 49, 28, 3, 61, 58, 42, 50, 38, 29, 17, 4, 62, 47, 59, 36, 45, 43, 51, 22, 53, 39, 33, 30, 24, 18, 12, 5, 63, 55, 48, 27, 60, 41, 37, 16, 46, 35, 44, 21, 52, 32, 23, 11, 54, 26, 40, 15, 34, 20, 31, 10, 25, 14, 19, 9, 13, 8, 7, 6]
noncomputable def tbH (el : TypeId) : Hp := tabH [(1, el, kL .u8 zs64)]
end Go.Proofs.Ytjcdhmddgamdlaa.Ev
