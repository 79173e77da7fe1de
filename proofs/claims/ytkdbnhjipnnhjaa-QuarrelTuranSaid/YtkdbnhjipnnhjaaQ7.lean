/- The texts TqL. -/
import Derived.Test.YtkdbnhjipnnhjaaQ6
import Derived.Test.YtkdbnhjipnnhjaaProg
import Derived.KernelRfl
/- The compiled code of the functions of layer 12, in full. -/
namespace Go.Proofs.Ytkdbnhjipnnhjaa.Ev
set_option linter.unusedVariables false
set_option maxRecDepth 100000
open Go Go.Proofs Go.RowKit
def drops : List Nat := [3, 4, 5, 6, 7, 10, 11, 14, 16, 21, 23, 25, 26, 27, 28, 33, 35, 38, 40, 41, 42, 43, 44, 45, 49, 51, 53, 54, 57, 62, 1000052, 1000055]
def x0x : Pos := .h
def x1x : Pos := (.o .h)
def x2x : Pos := (.i .h)
def x3x : Pos := (.o (.o .h))
def x4x : Pos := (.i (.o .h))
def x5x : Pos := (.o (.i .h))
def x6x : Pos := (.i (.i .h))
def x7x : Pos := (.o (.o (.o .h)))
def x8x : Pos := (.i (.o (.o .h)))
def x9x : Pos := (.o (.i (.o .h)))
def x10x : Pos := (.i (.i (.o .h)))
def x11x : Pos := (.o (.o (.i .h)))
def x12x : Pos := (.i (.o (.i .h)))
def x13x : Pos := (.o (.i (.i .h)))
def x14x : Pos := (.i (.i (.i .h)))
def x15x : Pos := (.o (.o (.o (.o .h))))
def x16x : Pos := (.i (.o (.o (.o .h))))
def x17x : Pos := (.o (.i (.o (.o .h))))
def x18x : Pos := (.i (.i (.o (.o .h))))
def x19x : Pos := (.o (.o (.i (.o .h))))
def x20x : Pos := (.i (.o (.i (.o .h))))
def x21x : Pos := (.o (.i (.i (.o .h))))
def x22x : Pos := (.i (.i (.i (.o .h))))
def x23x : Pos := (.o (.o (.o (.i .h))))
def x24x : Pos := (.i (.o (.o (.i .h))))
def x25x : Pos := (.o (.i (.o (.i .h))))
def x26x : Pos := (.i (.i (.o (.i .h))))
def x27x : Pos := (.o (.o (.i (.i .h))))
def x28x : Pos := (.i (.o (.i (.i .h))))
def x29x : Pos := (.o (.i (.i (.i .h))))
def x30x : Pos := (.i (.i (.i (.i .h))))
def x31x : Pos := (.o (.o (.o (.o (.o .h)))))
def x32x : Pos := (.i (.o (.o (.o (.o .h)))))
def x33x : Pos := (.o (.i (.o (.o (.o .h)))))
def x34x : Pos := (.i (.i (.o (.o (.o .h)))))
def x35x : Pos := (.o (.o (.i (.o (.o .h)))))
def x36x : Pos := (.i (.o (.i (.o (.o .h)))))
def x37x : Pos := (.o (.i (.i (.o (.o .h)))))
def x38x : Pos := (.i (.i (.i (.o (.o .h)))))
def x39x : Pos := (.o (.o (.o (.i (.o .h)))))
def x40x : Pos := (.i (.o (.o (.i (.o .h)))))
def x41x : Pos := (.o (.i (.o (.i (.o .h)))))
def x42x : Pos := (.i (.i (.o (.i (.o .h)))))
def x43x : Pos := (.o (.o (.i (.i (.o .h)))))
def x44x : Pos := (.i (.o (.i (.i (.o .h)))))
def x45x : Pos := (.o (.i (.i (.i (.o .h)))))
def x46x : Pos := (.i (.i (.i (.i (.o .h)))))
def x47x : Pos := (.o (.o (.o (.o (.i .h)))))
def x48x : Pos := (.i (.o (.o (.o (.i .h)))))
def x49x : Pos := (.o (.i (.o (.o (.i .h)))))
def x50x : Pos := (.i (.i (.o (.o (.i .h)))))
def x51x : Pos := (.o (.o (.i (.o (.i .h)))))
def x52x : Pos := (.i (.o (.i (.o (.i .h)))))
def x53x : Pos := (.o (.i (.i (.o (.i .h)))))
def x54x : Pos := (.i (.i (.i (.o (.i .h)))))
def x55x : Pos := (.o (.o (.o (.i (.i .h)))))
def x56x : Pos := (.i (.o (.o (.i (.i .h)))))
def x57x : Pos := (.o (.i (.o (.i (.i .h)))))
def x58x : Pos := (.i (.i (.o (.i (.i .h)))))
def x59x : Pos := (.o (.o (.i (.i (.i .h)))))
def x60x : Pos := (.i (.o (.i (.i (.i .h)))))
def x61x : Pos := (.o (.i (.i (.i (.i .h)))))
def x62x : Pos := (.i (.i (.i (.i (.i .h)))))
def x63x : Pos := (.o (.o (.o (.o (.o (.o .h))))))
def x64x : Pos := (.i (.o (.o (.o (.o (.o .h))))))
def x65x : Pos := (.o (.i (.o (.o (.o (.o .h))))))
def x66x : Pos := (.i (.i (.o (.o (.o (.o .h))))))
def x67x : Pos := (.o (.o (.i (.o (.o (.o .h))))))
def x68x : Pos := (.i (.o (.i (.o (.o (.o .h))))))
def x69x : Pos := (.o (.i (.i (.o (.o (.o .h))))))
def x70x : Pos := (.i (.i (.i (.o (.o (.o .h))))))
def x71x : Pos := (.o (.o (.o (.i (.o (.o .h))))))
def x72x : Pos := (.i (.o (.o (.i (.o (.o .h))))))
def x73x : Pos := (.o (.i (.o (.i (.o (.o .h))))))
def x74x : Pos := (.i (.i (.o (.i (.o (.o .h))))))
def x75x : Pos := (.o (.o (.i (.i (.o (.o .h))))))
def x76x : Pos := (.i (.o (.i (.i (.o (.o .h))))))
def x77x : Pos := (.o (.i (.i (.i (.o (.o .h))))))
def x78x : Pos := (.i (.i (.i (.i (.o (.o .h))))))
def x79x : Pos := (.o (.o (.o (.o (.i (.o .h))))))
def x80x : Pos := (.i (.o (.o (.o (.i (.o .h))))))
def x81x : Pos := (.o (.i (.o (.o (.i (.o .h))))))
def x82x : Pos := (.i (.i (.o (.o (.i (.o .h))))))
def x83x : Pos := (.o (.o (.i (.o (.i (.o .h))))))
def x84x : Pos := (.i (.o (.i (.o (.i (.o .h))))))
def x85x : Pos := (.o (.i (.i (.o (.i (.o .h))))))
def x86x : Pos := (.i (.i (.i (.o (.i (.o .h))))))
def x87x : Pos := (.o (.o (.o (.i (.i (.o .h))))))
def x88x : Pos := (.i (.o (.o (.i (.i (.o .h))))))
def x89x : Pos := (.o (.i (.o (.i (.i (.o .h))))))
def x90x : Pos := (.i (.i (.o (.i (.i (.o .h))))))
def x91x : Pos := (.o (.o (.i (.i (.i (.o .h))))))
def x92x : Pos := (.i (.o (.i (.i (.i (.o .h))))))
def x93x : Pos := (.o (.i (.i (.i (.i (.o .h))))))
def x94x : Pos := (.i (.i (.i (.i (.i (.o .h))))))
def x95x : Pos := (.o (.o (.o (.o (.o (.i .h))))))
def x96x : Pos := (.i (.o (.o (.o (.o (.i .h))))))
def x97x : Pos := (.o (.i (.o (.o (.o (.i .h))))))
def x98x : Pos := (.i (.i (.o (.o (.o (.i .h))))))
def x99x : Pos := (.o (.o (.i (.o (.o (.i .h))))))
def x100x : Pos := (.i (.o (.i (.o (.o (.i .h))))))
def x101x : Pos := (.o (.i (.i (.o (.o (.i .h))))))
def x102x : Pos := (.i (.i (.i (.o (.o (.i .h))))))
def x103x : Pos := (.o (.o (.o (.i (.o (.i .h))))))
def x104x : Pos := (.i (.o (.o (.i (.o (.i .h))))))
def x105x : Pos := (.o (.i (.o (.i (.o (.i .h))))))
def x106x : Pos := (.i (.i (.o (.i (.o (.i .h))))))
def x107x : Pos := (.o (.o (.i (.i (.o (.i .h))))))
def x108x : Pos := (.i (.o (.i (.i (.o (.i .h))))))
def x109x : Pos := (.o (.i (.i (.i (.o (.i .h))))))
def x110x : Pos := (.i (.i (.i (.i (.o (.i .h))))))
def x111x : Pos := (.o (.o (.o (.o (.i (.i .h))))))
def x112x : Pos := (.i (.o (.o (.o (.i (.i .h))))))
def x113x : Pos := (.o (.i (.o (.o (.i (.i .h))))))
def x114x : Pos := (.i (.i (.o (.o (.i (.i .h))))))
def x115x : Pos := (.o (.o (.i (.o (.i (.i .h))))))
def x116x : Pos := (.i (.o (.i (.o (.i (.i .h))))))
def x117x : Pos := (.o (.i (.i (.o (.i (.i .h))))))
def x118x : Pos := (.i (.i (.i (.o (.i (.i .h))))))
def x119x : Pos := (.o (.o (.o (.i (.i (.i .h))))))
def x120x : Pos := (.i (.o (.o (.i (.i (.i .h))))))
def x121x : Pos := (.o (.i (.o (.i (.i (.i .h))))))
def x122x : Pos := (.i (.i (.o (.i (.i (.i .h))))))
def x123x : Pos := (.o (.o (.i (.i (.i (.i .h))))))
def x124x : Pos := (.i (.o (.i (.i (.i (.i .h))))))
def x125x : Pos := (.o (.i (.i (.i (.i (.i .h))))))
def x126x : Pos := (.i (.i (.i (.i (.i (.i .h))))))
def x127x : Pos := (.o (.o (.o (.o (.o (.o (.o .h)))))))
def x128x : Pos := (.i (.o (.o (.o (.o (.o (.o .h)))))))
def x129x : Pos := (.o (.i (.o (.o (.o (.o (.o .h)))))))
def x130x : Pos := (.i (.i (.o (.o (.o (.o (.o .h)))))))
def x131x : Pos := (.o (.o (.i (.o (.o (.o (.o .h)))))))
def x132x : Pos := (.i (.o (.i (.o (.o (.o (.o .h)))))))
def x133x : Pos := (.o (.i (.i (.o (.o (.o (.o .h)))))))
def x134x : Pos := (.i (.i (.i (.o (.o (.o (.o .h)))))))
def x135x : Pos := (.o (.o (.o (.i (.o (.o (.o .h)))))))
def x136x : Pos := (.i (.o (.o (.i (.o (.o (.o .h)))))))
def x137x : Pos := (.o (.i (.o (.i (.o (.o (.o .h)))))))
def x138x : Pos := (.i (.i (.o (.i (.o (.o (.o .h)))))))
def x139x : Pos := (.o (.o (.i (.i (.o (.o (.o .h)))))))
def x140x : Pos := (.i (.o (.i (.i (.o (.o (.o .h)))))))
def x141x : Pos := (.o (.i (.i (.i (.o (.o (.o .h)))))))
def x142x : Pos := (.i (.i (.i (.i (.o (.o (.o .h)))))))
def x143x : Pos := (.o (.o (.o (.o (.i (.o (.o .h)))))))
def x144x : Pos := (.i (.o (.o (.o (.i (.o (.o .h)))))))
def x145x : Pos := (.o (.i (.o (.o (.i (.o (.o .h)))))))
def x146x : Pos := (.i (.i (.o (.o (.i (.o (.o .h)))))))
def x147x : Pos := (.o (.o (.i (.o (.i (.o (.o .h)))))))
def x148x : Pos := (.i (.o (.i (.o (.i (.o (.o .h)))))))
def x149x : Pos := (.o (.i (.i (.o (.i (.o (.o .h)))))))
def x150x : Pos := (.i (.i (.i (.o (.i (.o (.o .h)))))))
def x151x : Pos := (.o (.o (.o (.i (.i (.o (.o .h)))))))
def x152x : Pos := (.i (.o (.o (.i (.i (.o (.o .h)))))))
def x153x : Pos := (.o (.i (.o (.i (.i (.o (.o .h)))))))
def x154x : Pos := (.i (.i (.o (.i (.i (.o (.o .h)))))))
def x155x : Pos := (.o (.o (.i (.i (.i (.o (.o .h)))))))
def x156x : Pos := (.i (.o (.i (.i (.i (.o (.o .h)))))))
def x157x : Pos := (.o (.i (.i (.i (.i (.o (.o .h)))))))
def x158x : Pos := (.i (.i (.i (.i (.i (.o (.o .h)))))))
def x159x : Pos := (.o (.o (.o (.o (.o (.i (.o .h)))))))
def x160x : Pos := (.i (.o (.o (.o (.o (.i (.o .h)))))))
def x161x : Pos := (.o (.i (.o (.o (.o (.i (.o .h)))))))
def x162x : Pos := (.i (.i (.o (.o (.o (.i (.o .h)))))))
def x163x : Pos := (.o (.o (.i (.o (.o (.i (.o .h)))))))
def x164x : Pos := (.i (.o (.i (.o (.o (.i (.o .h)))))))
def x165x : Pos := (.o (.i (.i (.o (.o (.i (.o .h)))))))
def x166x : Pos := (.i (.i (.i (.o (.o (.i (.o .h)))))))
def x167x : Pos := (.o (.o (.o (.i (.o (.i (.o .h)))))))
def x168x : Pos := (.i (.o (.o (.i (.o (.i (.o .h)))))))
def x169x : Pos := (.o (.i (.o (.i (.o (.i (.o .h)))))))
def x170x : Pos := (.i (.i (.o (.i (.o (.i (.o .h)))))))
def x171x : Pos := (.o (.o (.i (.i (.o (.i (.o .h)))))))
def x172x : Pos := (.i (.o (.i (.i (.o (.i (.o .h)))))))
def x173x : Pos := (.o (.i (.i (.i (.o (.i (.o .h)))))))
def x174x : Pos := (.i (.i (.i (.i (.o (.i (.o .h)))))))
def x175x : Pos := (.o (.o (.o (.o (.i (.i (.o .h)))))))
def x176x : Pos := (.i (.o (.o (.o (.i (.i (.o .h)))))))
def x177x : Pos := (.o (.i (.o (.o (.i (.i (.o .h)))))))
def x178x : Pos := (.i (.i (.o (.o (.i (.i (.o .h)))))))
def x179x : Pos := (.o (.o (.i (.o (.i (.i (.o .h)))))))
def x180x : Pos := (.i (.o (.i (.o (.i (.i (.o .h)))))))
def x181x : Pos := (.o (.i (.i (.o (.i (.i (.o .h)))))))
def x182x : Pos := (.i (.i (.i (.o (.i (.i (.o .h)))))))
def x183x : Pos := (.o (.o (.o (.i (.i (.i (.o .h)))))))
def x184x : Pos := (.i (.o (.o (.i (.i (.i (.o .h)))))))
def x185x : Pos := (.o (.i (.o (.i (.i (.i (.o .h)))))))
def x186x : Pos := (.i (.i (.o (.i (.i (.i (.o .h)))))))
def x187x : Pos := (.o (.o (.i (.i (.i (.i (.o .h)))))))
def x188x : Pos := (.i (.o (.i (.i (.i (.i (.o .h)))))))
def x189x : Pos := (.o (.i (.i (.i (.i (.i (.o .h)))))))
def x190x : Pos := (.i (.i (.i (.i (.i (.i (.o .h)))))))
def x191x : Pos := (.o (.o (.o (.o (.o (.o (.i .h)))))))
def x192x : Pos := (.i (.o (.o (.o (.o (.o (.i .h)))))))
def x193x : Pos := (.o (.i (.o (.o (.o (.o (.i .h)))))))
def x194x : Pos := (.i (.i (.o (.o (.o (.o (.i .h)))))))
def x195x : Pos := (.o (.o (.i (.o (.o (.o (.i .h)))))))
def x196x : Pos := (.i (.o (.i (.o (.o (.o (.i .h)))))))
def x197x : Pos := (.o (.i (.i (.o (.o (.o (.i .h)))))))
def x198x : Pos := (.i (.i (.i (.o (.o (.o (.i .h)))))))
def x199x : Pos := (.o (.o (.o (.i (.o (.o (.i .h)))))))
def x200x : Pos := (.i (.o (.o (.i (.o (.o (.i .h)))))))
def x201x : Pos := (.o (.i (.o (.i (.o (.o (.i .h)))))))
def x202x : Pos := (.i (.i (.o (.i (.o (.o (.i .h)))))))
def x203x : Pos := (.o (.o (.i (.i (.o (.o (.i .h)))))))
def x204x : Pos := (.i (.o (.i (.i (.o (.o (.i .h)))))))
def x205x : Pos := (.o (.i (.i (.i (.o (.o (.i .h)))))))
def x206x : Pos := (.i (.i (.i (.i (.o (.o (.i .h)))))))
def x207x : Pos := (.o (.o (.o (.o (.i (.o (.i .h)))))))
def x208x : Pos := (.i (.o (.o (.o (.i (.o (.i .h)))))))
def x209x : Pos := (.o (.i (.o (.o (.i (.o (.i .h)))))))
def x210x : Pos := (.i (.i (.o (.o (.i (.o (.i .h)))))))
def x211x : Pos := (.o (.o (.i (.o (.i (.o (.i .h)))))))
def x212x : Pos := (.i (.o (.i (.o (.i (.o (.i .h)))))))
def x213x : Pos := (.o (.i (.i (.o (.i (.o (.i .h)))))))
def x214x : Pos := (.i (.i (.i (.o (.i (.o (.i .h)))))))
def x215x : Pos := (.o (.o (.o (.i (.i (.o (.i .h)))))))
def x216x : Pos := (.i (.o (.o (.i (.i (.o (.i .h)))))))
def x217x : Pos := (.o (.i (.o (.i (.i (.o (.i .h)))))))
def x218x : Pos := (.i (.i (.o (.i (.i (.o (.i .h)))))))
def x219x : Pos := (.o (.o (.i (.i (.i (.o (.i .h)))))))
def x220x : Pos := (.i (.o (.i (.i (.i (.o (.i .h)))))))
def x221x : Pos := (.o (.i (.i (.i (.i (.o (.i .h)))))))
def x222x : Pos := (.i (.i (.i (.i (.i (.o (.i .h)))))))
def x223x : Pos := (.o (.o (.o (.o (.o (.i (.i .h)))))))
def x224x : Pos := (.i (.o (.o (.o (.o (.i (.i .h)))))))
def x225x : Pos := (.o (.i (.o (.o (.o (.i (.i .h)))))))
noncomputable def i5 : FnI := (.mk true true (.seq (.reg (.cons (some x0x) none (.mv (.c (.b false))) .nil)) (.seq (.reg (.cons (some x16x) none (.call 17 .nil) (.cons (some x17x) none (.call 16 (.cons (.t 
  x16x) (.cons (.c (.n 3)) .nil))) (.cons (some x15x) none (.mv (.t x17x)) (.cons (some x18x) none (.ext 0 (.t x15x)) (.cons (some x19x) none (.ext 1 (.t x15x)) (.cons (some x1x) 
  none (.mv (.t x18x)) (.cons (some x2x) none (.mv (.t x19x)) .nil)))))))) (.seq (.reg (.cons (some x21x) none (.call 19 .nil) (.cons (some x22x) none (.call 18 (.cons (.t x21x) 
  .nil)) (.cons (some x20x) none (.mv (.t x22x)) (.cons (some x23x) none (.ext 0 (.t x20x)) (.cons (some x24x) none (.ext 1 (.t x20x)) (.cons (some x3x) none (.mv (.t x23x)) (.cons 
  (some x4x) none (.mv (.t x24x)) .nil)))))))) (.seq (.reg (.cons (some x26x) none (.call 6 (.cons (.c (.n 5)) (.cons (.c (.n 2)) .nil))) (.cons (some x25x) none (.mv (.t x26x)) 
  (.cons (some x27x) none (.ext 0 (.t x25x)) (.cons (some x28x) none (.ext 1 (.t x25x)) (.cons (some x5x) none (.mv (.t x27x)) (.cons (some x6x) none (.mv (.t x28x)) .nil))))))) 
  (.seq (.reg (.cons (some x30x) none (.call 6 (.cons (.c (.n 4)) (.cons (.c (.n 8)) .nil))) (.cons (some x29x) none (.mv (.t x30x)) (.cons (some x31x) none (.ext 0 (.t x29x)) 
  (.cons (some x32x) none (.ext 1 (.t x29x)) (.cons (some x7x) none (.mv (.t x31x)) (.cons (some x8x) none (.mv (.t x32x)) .nil))))))) (.seq (.reg (.cons (some x34x) none (.call 17 
  .nil) (.cons (some x35x) none (.call 20 (.cons (.t x34x) .nil)) (.cons (some x33x) none (.mv (.t x35x)) (.cons (some x36x) none (.ext 0 (.t x33x)) (.cons (some x37x) none (.ext 1 
  (.t x33x)) (.cons (some x9x) none (.mv (.t x36x)) (.cons (some x10x) none (.mv (.t x37x)) .nil)))))))) (.seq (.reg (.cons (some x39x) none (.call 6 (.cons (.c (.n 9)) (.cons (.c 
  (.n 2)) .nil))) (.cons (some x38x) none (.mv (.t x39x)) (.cons (some x40x) none (.ext 0 (.t x38x)) (.cons (some x41x) none (.ext 1 (.t x38x)) (.cons (some x11x) none (.mv (.t 
  x40x)) (.cons (some x12x) none (.mv (.t x41x)) .nil))))))) (.seq (.reg (.cons (some x43x) none (.call 17 .nil) (.cons (some x44x) none (.call 16 (.cons (.t x43x) (.cons (.c (.n 
  9)) .nil))) (.cons (some x42x) none (.mv (.t x44x)) (.cons (some x45x) none (.ext 0 (.t x42x)) (.cons (some x46x) none (.ext 1 (.t x42x)) (.cons (some x13x) none (.mv (.t x45x)) 
  (.cons (some x14x) none (.mv (.t x46x)) .nil)))))))) (.seq (.reg (.cons (some x47x) none (.mv (.t x2x)) (.cons (some x48x) none (.bin .eql (.t x47x) (.c (.n 0))) (.cons (some 
  x49x) none (.mv (.t x48x)) (.cons (some x50x) (some (.mk x49x true)) (.mv (.t x4x)) (.cons (some x51x) (some (.mk x49x true)) (.bin .eql (.t x50x) (.c (.n 0))) (.cons (some x52x) 
  none (.pick (.t x49x) (.t x51x) (.c (.b false))) (.cons (some x53x) none (.mv (.t x52x)) (.cons (some x54x) (some (.mk x53x true)) (.mv (.t x6x)) (.cons (some x55x) (some (.mk 
  x53x true)) (.bin .eql (.t x54x) (.c (.n 0))) (.cons (some x56x) none (.pick (.t x53x) (.t x55x) (.c (.b false))) (.cons (some x57x) none (.mv (.t x56x)) (.cons (some x58x) (some 
  (.mk x57x true)) (.mv (.t x8x)) (.cons (some x59x) (some (.mk x57x true)) (.bin .eql (.t x58x) (.c (.n 0))) (.cons (some x60x) none (.pick (.t x57x) (.t x59x) (.c (.b false))) 
  (.cons (some x61x) none (.mv (.t x60x)) (.cons (some x62x) (some (.mk x61x true)) (.mv (.t x10x)) (.cons (some x63x) (some (.mk x61x true)) (.bin .eql (.t x62x) (.c (.n 13))) 
  (.cons (some x64x) none (.pick (.t x61x) (.t x63x) (.c (.b false))) (.cons (some x65x) none (.mv (.t x64x)) (.cons (some x66x) (some (.mk x65x true)) (.mv (.t x12x)) (.cons (some 
  x67x) (some (.mk x65x true)) (.bin .eql (.t x66x) (.c (.n 1))) (.cons (some x68x) none (.pick (.t x65x) (.t x67x) (.c (.b false))) (.cons (some x69x) none (.mv (.t x68x)) (.cons 
  (some x70x) (some (.mk x69x true)) (.mv (.t x14x)) (.cons (some x71x) (some (.mk x69x true)) (.bin .eql (.t x70x) (.c (.n 1))) (.cons (some x72x) none (.pick (.t x69x) (.t x71x) 
  (.c (.b false))) (.cons (some x73x) none (.mv (.t x72x)) (.cons (some x74x) (some (.mk x73x true)) (.mv (.t x1x)) (.cons (some x75x) (some (.mk x73x true)) (.bin .eql (.t x74x) 
  (.c (.n 0))) (.cons (some x76x) none (.pick (.t x73x) (.t x75x) (.c (.b false))) (.cons (some x77x) none (.mv (.t x76x)) (.cons (some x78x) (some (.mk x77x true)) (.mv (.t x5x)) 
  (.cons (some x79x) (some (.mk x77x true)) (.bin .eql (.t x78x) (.c (.n 6))) (.cons (some x80x) none (.pick (.t x77x) (.t x79x) (.c (.b false))) (.cons (some x81x) none (.mv (.t 
  x80x)) (.cons (some x82x) (some (.mk x81x true)) (.mv (.t x7x)) (.cons (some x83x) (some (.mk x81x true)) (.bin .eql (.t x82x) (.c (.n 6))) (.cons (some x84x) none (.pick (.t 
  x81x) (.t x83x) (.c (.b false))) (.cons (some x85x) none (.mv (.t x84x)) (.cons (some x86x) (some (.mk x85x true)) (.mv (.t x3x)) (.cons (some x87x) (some (.mk x85x true)) (.bsl 
  3 1 4 (.cons (.n 0) (.cons (.n 0) (.cons (.n 0) (.cons (.n 0) .nil)))) (.cons 0 1 (.c (.n 0)) (.cons 1 1 (.c (.n 1)) (.cons 2 1 (.c (.n 0)) (.cons 3 1 (.c (.n 1)) .nil))))) 
  (.cons (some x88x) (some (.mk x85x true)) (.call 22 (.cons (.t x87x) .nil)) (.cons (some x89x) (some (.mk x85x true)) (.call 21 (.cons (.t x86x) (.cons (.t x88x) .nil))) (.cons 
  (some x90x) none (.pick (.t x85x) (.t x89x) (.c (.b false))) (.cons (some x91x) none (.mv (.t x90x)) (.cons (some x92x) (some (.mk x91x true)) (.call 24 (.cons (.c (.n 0)) (.cons 
  (.c .ns) .nil))) (.cons (some x93x) (some (.mk x91x true)) (.call 23 (.cons (.t x92x) .nil)) (.cons (some x94x) (some (.mk x91x true)) (.bin .eql (.t x93x) (.c (.n 1))) (.cons 
  (some x95x) none (.pick (.t x91x) (.t x94x) (.c (.b false))) (.cons (some x96x) none (.mv (.t x95x)) (.cons (some x97x) (some (.mk x96x true)) (.bsl 3 1 2 (.cons (.n 0) (.cons 
  (.n 0) .nil)) (.cons 0 1 (.c (.n 0)) (.cons 1 1 (.c (.n 2)) .nil))) (.cons (some x98x) (some (.mk x96x true)) (.call 24 (.cons (.c (.n 2)) (.cons (.t x97x) .nil))) (.cons (some 
  x99x) (some (.mk x96x true)) (.call 23 (.cons (.t x98x) .nil)) (.cons (some x100x) (some (.mk x96x true)) (.bin .eql (.t x99x) (.c (.n 2))) (.cons (some x101x) none (.pick (.t 
  x96x) (.t x100x) (.c (.b false))) (.cons (some x102x) none (.mv (.t x101x)) (.cons (some x103x) (some (.mk x102x true)) (.bsl 3 1 2 (.cons (.n 0) (.cons (.n 0) .nil)) (.cons 0 1 
  (.c (.n 1)) (.cons 1 1 (.c (.n 0)) .nil))) (.cons (some x104x) (some (.mk x102x true)) (.call 24 (.cons (.c (.n 2)) (.cons (.t x103x) .nil))) (.cons (some x105x) (some (.mk x102x 
  true)) (.call 23 (.cons (.t x104x) .nil)) (.cons (some x106x) (some (.mk x102x true)) (.bin .eql (.t x105x) (.c (.n 7))) (.cons (some x107x) none (.pick (.t x102x) (.t x106x) (.c 
  (.b false))) (.cons (some x108x) none (.mv (.t x107x)) (.cons (some x109x) (some (.mk x108x true)) (.bsl 3 1 4 (.cons (.n 0) (.cons (.n 0) (.cons (.n 0) (.cons (.n 0) .nil)))) 
  (.cons 0 1 (.c (.n 0)) (.cons 1 1 (.c (.n 1)) (.cons 2 1 (.c (.n 0)) (.cons 3 1 (.c (.n 1)) .nil))))) (.cons (some x110x) (some (.mk x108x true)) (.call 24 (.cons (.c (.n 2)) 
  (.cons (.t x109x) .nil))) (.cons (some x111x) (some (.mk x108x true)) (.call 23 (.cons (.t x110x) .nil)) (.cons (some x112x) (some (.mk x108x true)) (.bin .eql (.t x111x) (.c (.n 
  6))) (.cons (some x113x) none (.pick (.t x108x) (.t x112x) (.c (.b false))) (.cons (some x114x) none (.mv (.t x113x)) (.cons (some x115x) (some (.mk x114x true)) (.call 11 .nil) 
  (.cons (some x116x) none (.pick (.t x114x) (.t x115x) (.c (.b false))) (.cons (some x0x) none (.mv (.t x116x)) 
  .nil)))))))))))))))))))))))))))))))))))))))))))))))))))))))))))))))))))))))) .ret))))))))) [(.tmp x0x)])
theorem cc5 : compF Try.prog drops true true Try.f5 = some i5 := by kernel_rfl
noncomputable def i6 : FnI := (.mk true true (.seq (.reg (.cons (some x4x) none (.mv (.c (.n 0))) (.cons (some x5x) none (.mv (.c (.n 0))) .nil))) (.seq (.seq (.reg (.cons (some x6x) none (.mv (.t x0x)) (.cons 
  (some x7x) none (.call 25 (.cons (.t x6x) .nil)) (.cons (some x8x) none (.not (.t x7x)) (.cons (some x9x) none (.mv (.t x8x)) (.cons (some x10x) (some (.mk x9x false)) (.mv (.t 
  x1x)) (.cons (some x11x) (some (.mk x9x false)) (.call 25 (.cons (.t x10x) .nil)) (.cons (some x12x) (some (.mk x9x false)) (.not (.t x11x)) (.cons (some x13x) none (.pick (.t 
  x9x) (.c (.b true)) (.t x12x)) .nil))))))))) (.cond (.t x13x) (.seq (.reg (.cons (some x4x) none (.mv (.c (.n 0))) (.cons (some x5x) none (.mv (.c (.n 1))) .nil))) .ret) .skip)) 
  (.seq (.reg (.cons (some x14x) none (.mv (.t x0x)) (.cons (some x15x) none (.mv (.t x1x)) (.cons (some x16x) none (.call 26 (.cons (.t x14x) (.cons (.t x15x) .nil))) (.cons (some 
  x17x) none (.call 27 (.cons (.t x16x) .nil)) (.cons (some x4x) none (.mv (.t x17x)) (.cons (some x5x) none (.mv (.c (.n 0))) .nil))))))) .ret))) [(.tmp x4x), (.tmp x5x)])
theorem cc6 : compF Try.prog drops true true Try.f6 = some i6 := by kernel_rfl
noncomputable def i7 : FnI := (.mk true true (.seq (.reg (.cons (some x4x) none (.mv (.c (.n 0))) (.cons (some x5x) none (.mv (.c (.n 0))) .nil))) (.seq (.seq (.reg (.cons (some x6x) none (.mv (.t x0x)) (.cons 
  (some x7x) none (.call 28 (.cons (.t x6x) (.cons (.c (.n 1)) (.cons (.c (.n 8)) .nil)))) (.cons (some x8x) none (.not (.t x7x)) (.cons (some x9x) none (.mv (.t x8x)) (.cons (some 
  x10x) (some (.mk x9x false)) (.mv (.t x1x)) (.cons (some x11x) (some (.mk x9x false)) (.call 28 (.cons (.t x10x) (.cons (.c (.n 1)) (.cons (.c (.n 8)) .nil)))) (.cons (some x12x) 
  (some (.mk x9x false)) (.not (.t x11x)) (.cons (some x13x) none (.pick (.t x9x) (.c (.b true)) (.t x12x)) .nil))))))))) (.cond (.t x13x) (.seq (.reg (.cons (some x4x) none (.mv 
  (.c (.n 0))) (.cons (some x5x) none (.mv (.c (.n 1))) .nil))) .ret) .skip)) (.seq (.reg (.cons (some x14x) none (.mv (.t x0x)) (.cons (some x15x) none (.mv (.t x1x)) (.cons (some 
  x16x) none (.call 29 (.cons (.t x14x) (.cons (.t x15x) .nil))) (.cons (some x17x) none (.part 1 1 false (.t x16x)) (.cons (some x18x) none (.len (.t x17x)) (.cons (some x4x) none 
  (.mv (.t x18x)) (.cons (some x5x) none (.mv (.c (.n 0))) .nil)))))))) .ret))) [(.tmp x4x), (.tmp x5x)])
theorem cc7 : compF Try.prog drops true true Try.f7 = some i7 := by kernel_rfl
noncomputable def i8 : FnI := (.mk true false (.seq (.reg (.cons (some x4x) none (.alloc 27 (.cons (.n 0) (.cons .ns .nil)) 2) (.cons (some x5x) none (.mv (.c (.n 0))) .nil))) (.seq (.seq (.reg (.cons (some 
  x6x) none (.mv (.t x0x)) (.cons (some x7x) none (.call 25 (.cons (.t x6x) .nil)) (.cons (some x8x) none (.not (.t x7x)) (.cons (some x9x) none (.mv (.t x8x)) (.cons (some x10x) 
  (some (.mk x9x false)) (.mv (.t x1x)) (.cons (some x11x) (some (.mk x9x false)) (.call 25 (.cons (.t x10x) .nil)) (.cons (some x12x) (some (.mk x9x false)) (.not (.t x11x)) 
  (.cons (some x13x) none (.pick (.t x9x) (.c (.b true)) (.t x12x)) .nil))))))))) (.cond (.t x13x) (.seq (.reg (.cons (some x14x) none (.build (.cons (.n 0) (.cons .ns .nil)) .nil) 
  (.cons none none (.st 2 (.t x4x) (.t x14x)) (.cons (some x5x) none (.mv (.c (.n 1))) .nil)))) .ret) .skip)) (.seq (.reg (.cons (some x15x) none (.mv (.t x0x)) (.cons (some x16x) 
  none (.mv (.t x1x)) (.cons (some x17x) none (.call 26 (.cons (.t x15x) (.cons (.t x16x) .nil))) (.cons (some x18x) none (.call 30 (.cons (.t x17x) .nil)) (.cons none none (.st 2 
  (.t x4x) (.t x18x)) (.cons (some x5x) none (.mv (.c (.n 0))) .nil))))))) .ret))) [(.cell x4x 2 true), (.tmp x5x)])
theorem cc8 : compF Try.prog drops true false Try.f8 = some i8 := by kernel_rfl
noncomputable def i9 : FnI := (.mk true false (.seq (.reg (.cons (some x4x) none (.alloc 30 (.cons (.n 0) (.cons .ns .nil)) 2) (.cons (some x5x) none (.mv (.c (.n 0))) .nil))) (.seq (.seq (.reg (.cons (some 
  x6x) none (.mv (.t x0x)) (.cons (some x7x) none (.call 28 (.cons (.t x6x) (.cons (.c (.n 1)) (.cons (.c (.n 8)) .nil)))) (.cons (some x8x) none (.not (.t x7x)) (.cons (some x9x) 
  none (.mv (.t x8x)) (.cons (some x10x) (some (.mk x9x false)) (.mv (.t x1x)) (.cons (some x11x) (some (.mk x9x false)) (.call 28 (.cons (.t x10x) (.cons (.c (.n 1)) (.cons (.c 
  (.n 8)) .nil)))) (.cons (some x12x) (some (.mk x9x false)) (.not (.t x11x)) (.cons (some x13x) none (.pick (.t x9x) (.c (.b true)) (.t x12x)) .nil))))))))) (.cond (.t x13x) (.seq 
  (.reg (.cons (some x14x) none (.build (.cons (.n 0) (.cons .ns .nil)) .nil) (.cons none none (.st 2 (.t x4x) (.t x14x)) (.cons (some x5x) none (.mv (.c (.n 1))) .nil)))) .ret) 
  .skip)) (.seq (.reg (.cons (some x15x) none (.mv (.t x0x)) (.cons (some x16x) none (.mv (.t x1x)) (.cons (some x17x) none (.call 29 (.cons (.t x15x) (.cons (.t x16x) .nil))) 
  (.cons none none (.st 2 (.t x4x) (.t x17x)) (.cons (some x5x) none (.mv (.c (.n 0))) .nil)))))) .ret))) [(.cell x4x 2 true), (.tmp x5x)])
theorem cc9 : compF Try.prog drops true false Try.f9 = some i9 := by kernel_rfl
noncomputable def i10 : FnI := (.mk true true (.seq (.reg (.cons (some x4x) none (.mv (.c (.b false))) .nil)) (.seq (.seq (.reg (.cons (some x6x) none (.mv (.t x0x)) (.cons (some x7x) none (.len (.t x6x)) (.cons 
  (some x8x) none (.mv (.t x1x)) (.cons (some x9x) none (.len (.t x8x)) (.cons (some x10x) none (.bin .neq (.t x7x) (.t x9x)) .nil)))))) (.cond (.t x10x) (.seq (.reg (.cons (some 
  x4x) none (.mv (.c (.b false))) .nil)) .ret) .skip)) (.seq (.seq (.reg (.cons (some x5x) none (.mv (.c (.n 0))) .nil)) (.block 0 (.loop (.seq (.seq (.reg (.cons (some x11x) none 
  (.mv (.t x5x)) (.cons (some x12x) none (.mv (.t x0x)) (.cons (some x13x) none (.len (.t x12x)) (.cons (some x14x) none (.bin .lss (.t x11x) (.t x13x)) .nil))))) (.cond (.t x14x) 
  .skip (.exit 0))) (.seq (.block 1 (.seq (.draw [(.mk (some x17x) none true [] false [] [] [x0x] (.mv (.t x0x)) false [] [] []), (.mk (some x18x) none true [] false [false] [] 
  [x5x] (.mv (.t x5x)) false [] [] []), (.mk (some x19x) none true [] false [true, true] [] [x17x, x18x] (.ixs 2 (.t x17x) (.t x18x)) false [] [] []), (.mk (some x20x) none false 
  [] false [true, true, true] [] [x19x] (.ld 2 true (.t x19x)) false [] [] []), (.mk (some x21x) none true [] false [false, false, false, false] [] [x1x] (.mv (.t x1x)) false [] [] 
  []), (.mk (some x22x) none true [] false [false, false, false, false, false] [] [x5x] (.mv (.t x5x)) false [] [] []), (.mk (some x23x) none true [] false [true, true, false, 
  false, false, false] [] [x21x, x22x] (.ixs 2 (.t x21x) (.t x22x)) false [] [] []), (.mk (some x24x) none false [] false [true, true, true, false, false, false, false] [] [x23x] 
  (.ld 2 true (.t x23x)) false [] [] []), (.mk (some x25x) none true [] false [true, true, true, true, true, true, true, true] [] [x20x, x24x] (.eqa true (.ar 2 1 false .int) (.t 
  x20x) (.t x24x)) false [] [] [])]) (.cond (.t x25x) (.seq (.reg (.cons (some x4x) none (.mv (.c (.b false))) .nil)) .ret) .skip))) (.reg (.cons (some x15x) none (.mv (.t x5x)) 
  (.cons (some x16x) none (.bin .add (.t x15x) (.c (.n 1))) (.cons (some x5x) none (.mv (.t x16x)) .nil))))))))) (.seq (.reg (.cons (some x4x) none (.mv (.c (.b true))) .nil)) 
  .ret)))) [(.tmp x4x)])
theorem cc10 : compF Try.prog drops true true Try.f10 = some i10 := by kernel_rfl
noncomputable def i11 : FnI := (.mk true true (.seq (.reg (.cons (some x0x) none (.mv (.c (.b false))) .nil)) (.seq (.reg (.cons (some x30x) none (.call 17 .nil) (.cons (some x31x) none (.call 31 (.cons (.t 
  x30x) .nil)) (.cons (some x29x) none (.mv (.t x31x)) (.cons (some x32x) none (.ext 0 (.t x29x)) (.cons (some x33x) none (.ext 1 (.t x29x)) (.cons (some x1x) none (.mv (.t x32x)) 
  (.cons (some x2x) none (.mv (.t x33x)) .nil)))))))) (.seq (.reg (.cons (some x35x) none (.call 17 .nil) (.cons (some x36x) none (.call 15 (.cons (.t x35x) .nil)) (.cons (some 
  x34x) none (.mv (.t x36x)) (.cons (some x37x) none (.ext 0 (.t x34x)) (.cons (some x38x) none (.ext 1 (.t x34x)) (.cons (some x3x) none (.mv (.t x37x)) (.cons (some x4x) none 
  (.mv (.t x38x)) .nil)))))))) (.seq (.reg (.cons (some x40x) none (.call 17 .nil) (.cons (some x41x) none (.call 16 (.cons (.t x40x) (.cons (.c (.n 2)) .nil))) (.cons (some x39x) 
  none (.mv (.t x41x)) (.cons (some x42x) none (.ext 0 (.t x39x)) (.cons (some x43x) none (.ext 1 (.t x39x)) (.cons (some x5x) none (.mv (.t x42x)) (.cons (some x6x) none (.mv (.t 
  x43x)) .nil)))))))) (.seq (.reg (.cons (some x45x) none (.call 17 .nil) (.cons (some x46x) none (.call 18 (.cons (.t x45x) .nil)) (.cons (some x44x) none (.mv (.t x46x)) (.cons 
  (some x47x) none (.ext 0 (.t x44x)) (.cons (some x48x) none (.ext 1 (.t x44x)) (.cons (some x7x) none (.mv (.t x47x)) (.cons (some x8x) none (.mv (.t x48x)) .nil)))))))) (.seq 
  (.reg (.cons (some x50x) none (.call 19 .nil) (.cons (some x51x) none (.call 20 (.cons (.t x50x) .nil)) (.cons (some x49x) none (.mv (.t x51x)) (.cons (some x52x) none (.ext 0 
  (.t x49x)) (.cons (some x53x) none (.ext 1 (.t x49x)) (.cons (some x9x) none (.mv (.t x52x)) (.cons (some x10x) none (.mv (.t x53x)) .nil)))))))) (.seq (.reg (.cons (some x55x) 
  none (.call 17 .nil) (.cons (some x56x) none (.call 32 (.cons (.t x55x) (.cons (.c (.n 0)) (.cons (.c (.n 2)) .nil)))) (.cons (some x54x) none (.mv (.t x56x)) (.cons (some x57x) 
  none (.ext 0 (.t x54x)) (.cons (some x58x) none (.ext 1 (.t x54x)) (.cons (some x11x) none (.alloc 27 (.cons (.n 0) (.cons .ns .nil)) 2) (.cons none none (.st 2 (.t x11x) (.t 
  x57x)) (.cons (some x12x) none (.mv (.t x58x)) .nil))))))))) (.seq (.reg (.cons (some x60x) none (.call 6 (.cons (.c (.n 5)) (.cons (.c (.n 3)) .nil))) (.cons (some x59x) none 
  (.mv (.t x60x)) (.cons (some x61x) none (.ext 0 (.t x59x)) (.cons (some x62x) none (.ext 1 (.t x59x)) (.cons (some x13x) none (.mv (.t x61x)) (.cons (some x14x) none (.mv (.t 
  x62x)) .nil))))))) (.seq (.reg (.cons (some x64x) none (.call 17 .nil) (.cons (some x65x) none (.call 33 (.cons (.t x64x) .nil)) (.cons (some x63x) none (.mv (.t x65x)) (.cons 
  (some x66x) none (.ext 0 (.t x63x)) (.cons (some x67x) none (.ext 1 (.t x63x)) (.cons (some x68x) none (.ext 2 (.t x63x)) (.cons (some x69x) none (.ext 3 (.t x63x)) (.cons (some 
  x15x) none (.mv (.t x66x)) (.cons (some x16x) none (.mv (.t x67x)) (.cons (some x17x) none (.mv (.t x68x)) (.cons (some x18x) none (.mv (.t x69x)) .nil)))))))))))) (.seq (.reg 
  (.cons (some x71x) none (.call 19 .nil) (.cons (some x72x) none (.call 33 (.cons (.t x71x) .nil)) (.cons (some x70x) none (.mv (.t x72x)) (.cons (some x73x) none (.ext 0 (.t 
  x70x)) (.cons (some x74x) none (.ext 1 (.t x70x)) (.cons (some x75x) none (.ext 2 (.t x70x)) (.cons (some x76x) none (.ext 3 (.t x70x)) (.cons (some x19x) none (.mv (.t x73x)) 
  (.cons (some x20x) none (.mv (.t x74x)) (.cons (some x21x) none (.mv (.t x75x)) (.cons (some x22x) none (.mv (.t x76x)) .nil)))))))))))) (.seq (.reg (.cons (some x78x) none 
  (.call 17 .nil) (.cons (some x79x) none (.call 32 (.cons (.t x78x) (.cons (.c (.n 0)) (.cons (.c (.n 1)) .nil)))) (.cons (some x77x) none (.mv (.t x79x)) (.cons (some x80x) none 
  (.ext 0 (.t x77x)) (.cons (some x81x) none (.ext 1 (.t x77x)) (.cons (some x23x) none (.alloc 27 (.cons (.n 0) (.cons .ns .nil)) 2) (.cons none none (.st 2 (.t x23x) (.t x80x)) 
  (.cons (some x24x) none (.mv (.t x81x)) .nil))))))))) (.seq (.reg (.cons (some x83x) none (.call 17 .nil) (.cons (some x84x) none (.call 34 (.cons (.t x83x) .nil)) (.cons (some 
  x82x) none (.mv (.t x84x)) (.cons (some x85x) none (.ext 0 (.t x82x)) (.cons (some x86x) none (.ext 1 (.t x82x)) (.cons (some x25x) none (.mv (.t x85x)) (.cons (some x26x) none 
  (.mv (.t x86x)) .nil)))))))) (.seq (.reg (.cons (some x88x) none (.call 8 (.cons (.c (.n 5)) (.cons (.c (.n 2)) .nil))) (.cons (some x87x) none (.mv (.t x88x)) (.cons (some x89x) 
  none (.ext 0 (.t x87x)) (.cons (some x90x) none (.ext 1 (.t x87x)) (.cons (some x27x) none (.alloc 27 (.cons (.n 0) (.cons .ns .nil)) 2) (.cons none none (.st 2 (.t x27x) (.t 
  x89x)) (.cons (some x28x) none (.mv (.t x90x)) .nil)))))))) (.seq (.draw [(.mk (some x91x) none true [] false [] [] [x2x] (.mv (.t x2x)) false [] [] []), (.mk (some x92x) none 
  true [] false [true] [] [x91x] (.bin .eql (.t x91x) (.c (.n 0))) false [] [] []), (.mk (some x93x) none true [] false [true, true] [] [x92x] (.mv (.t x92x)) false [] [] []), (.mk 
  (some x94x) (some (.mk x93x true)) true [] false [true, true, true] [] [x93x, x4x] (.mv (.t x4x)) false [] [] []), (.mk (some x95x) (some (.mk x93x true)) true [] false [true, 
  true, true, true] [] [x93x, x94x] (.bin .eql (.t x94x) (.c (.n 0))) false [] [] []), (.mk (some x96x) none true [] false [true, true, true, true, true] [] [x93x, x95x] (.pick (.t 
  x93x) (.t x95x) (.c (.b false))) false [] [] []), (.mk (some x97x) none true [] false [true, true, true, true, true, true] [] [x96x] (.mv (.t x96x)) false [] [] []), (.mk (some 
  x98x) (some (.mk x97x true)) true [] false [true, true, true, true, true, true, true] [] [x97x, x6x] (.mv (.t x6x)) false [] [] []), (.mk (some x99x) (some (.mk x97x true)) true 
  [] false [true, true, true, true, true, true, true, true] [] [x97x, x98x] (.bin .eql (.t x98x) (.c (.n 0))) false [] [] []), (.mk (some x100x) none true [] false [true, true, 
  true, true, true, true, true, true, true] [] [x97x, x99x] (.pick (.t x97x) (.t x99x) (.c (.b false))) false [] [] []), (.mk (some x101x) none true [] false [true, true, true, 
  true, true, true, true, true, true, true] [] [x100x] (.mv (.t x100x)) false [] [] []), (.mk (some x102x) (some (.mk x101x true)) true [] false [true, true, true, true, true, 
  true, true, true, true, true, true] [] [x101x, x8x] (.mv (.t x8x)) false [] [] []), (.mk (some x103x) (some (.mk x101x true)) true [] false [true, true, true, true, true, true, 
  true, true, true, true, true, true] [] [x101x, x102x] (.bin .eql (.t x102x) (.c (.n 0))) false [] [] []), (.mk (some x104x) none true [] false [true, true, true, true, true, 
  true, true, true, true, true, true, true, true] [] [x101x, x103x] (.pick (.t x101x) (.t x103x) (.c (.b false))) false [] [] []), (.mk (some x105x) none true [] false [true, true, 
  true, true, true, true, true, true, true, true, true, true, true, true] [] [x104x] (.mv (.t x104x)) false [] [] []), (.mk (some x106x) (some (.mk x105x true)) true [] false 
  [true, true, true, true, true, true, true, true, true, true, true, true, true, true, true] [] [x105x, x10x] (.mv (.t x10x)) false [] [] []), (.mk (some x107x) (some (.mk x105x 
  true)) true [] false [true, true, true, true, true, true, true, true, true, true, true, true, true, true, true, true] [] [x105x, x106x] (.bin .eql (.t x106x) (.c (.n 0))) false 
  [] [] []), (.mk (some x108x) none true [] false [true, true, true, true, true, true, true, true, true, true, true, true, true, true, true, true, true] [] [x105x, x107x] (.pick 
  (.t x105x) (.t x107x) (.c (.b false))) false [] [] []), (.mk (some x109x) none true [] false [true, true, true, true, true, true, true, true, true, true, true, true, true, true, 
  true, true, true, true] [] [x108x] (.mv (.t x108x)) false [] [] []), (.mk (some x110x) (some (.mk x109x true)) true [] false [true, true, true, true, true, true, true, true, 
  true, true, true, true, true, true, true, true, true, true, true] [] [x109x, x12x] (.mv (.t x12x)) false [] [] []), (.mk (some x111x) (some (.mk x109x true)) true [] false [true, 
  true, true, true, true, true, true, true, true, true, true, true, true, true, true, true, true, true, true, true] [] [x109x, x110x] (.bin .eql (.t x110x) (.c (.n 0))) false [] [] 
  []), (.mk (some x112x) none true [] false [true, true, true, true, true, true, true, true, true, true, true, true, true, true, true, true, true, true, true, true, true] [] 
  [x109x, x111x] (.pick (.t x109x) (.t x111x) (.c (.b false))) false [] [] []), (.mk (some x113x) none true [] false [true, true, true, true, true, true, true, true, true, true, 
  true, true, true, true, true, true, true, true, true, true, true, true] [] [x112x] (.mv (.t x112x)) false [] [] []), (.mk (some x114x) (some (.mk x113x true)) true [] false 
  [true, true, true, true, true, true, true, true, true, true, true, true, true, true, true, true, true, true, true, true, true, true, true] [] [x113x, x14x] (.mv (.t x14x)) false 
  [] [] []), (.mk (some x115x) (some (.mk x113x true)) true [] false [true, true, true, true, true, true, true, true, true, true, true, true, true, true, true, true, true, true, 
  true, true, true, true, true, true] [] [x113x, x114x] (.bin .eql (.t x114x) (.c (.n 0))) false [] [] []), (.mk (some x116x) none true [] false [true, true, true, true, true, 
  true, true, true, true, true, true, true, true, true, true, true, true, true, true, true, true, true, true, true, true] [] [x113x, x115x] (.pick (.t x113x) (.t x115x) (.c (.b 
  false))) false [] [] []), (.mk (some x117x) none true [] false [true, true, true, true, true, true, true, true, true, true, true, true, true, true, true, true, true, true, true, 
  true, true, true, true, true, true, true] [] [x116x] (.mv (.t x116x)) false [] [] []), (.mk (some x118x) (some (.mk x117x true)) true [] false [true, true, true, true, true, 
  true, true, true, true, true, true, true, true, true, true, true, true, true, true, true, true, true, true, true, true, true, true] [] [x117x, x18x] (.mv (.t x18x)) false [] [] 
  []), (.mk (some x119x) (some (.mk x117x true)) true [] false [true, true, true, true, true, true, true, true, true, true, true, true, true, true, true, true, true, true, true, 
  true, true, true, true, true, true, true, true, true] [] [x117x, x118x] (.bin .eql (.t x118x) (.c (.n 14))) false [] [] []), (.mk (some x120x) none true [] false [true, true, 
  true, true, true, true, true, true, true, true, true, true, true, true, true, true, true, true, true, true, true, true, true, true, true, true, true, true, true] [] [x117x, 
  x119x] (.pick (.t x117x) (.t x119x) (.c (.b false))) false [] [] []), (.mk (some x121x) none true [] false [true, true, true, true, true, true, true, true, true, true, true, 
  true, true, true, true, true, true, true, true, true, true, true, true, true, true, true, true, true, true, true] [] [x120x] (.mv (.t x120x)) false [] [] []), (.mk (some x122x) 
  (some (.mk x121x true)) true [] false [true, true, true, true, true, true, true, true, true, true, true, true, true, true, true, true, true, true, true, true, true, true, true, 
  true, true, true, true, true, true, true, true] [] [x121x, x22x] (.mv (.t x22x)) false [] [] []), (.mk (some x123x) (some (.mk x121x true)) true [] false [true, true, true, true, 
  true, true, true, true, true, true, true, true, true, true, true, true, true, true, true, true, true, true, true, true, true, true, true, true, true, true, true, true] [] [x121x, 
  x122x] (.bin .eql (.t x122x) (.c (.n 0))) false [] [] []), (.mk (some x124x) none true [] false [true, true, true, true, true, true, true, true, true, true, true, true, true, 
  true, true, true, true, true, true, true, true, true, true, true, true, true, true, true, true, true, true, true, true] [] [x121x, x123x] (.pick (.t x121x) (.t x123x) (.c (.b 
  false))) false [] [] []), (.mk (some x125x) none true [] false [true, true, true, true, true, true, true, true, true, true, true, true, true, true, true, true, true, true, true, 
  true, true, true, true, true, true, true, true, true, true, true, true, true, true, true] [] [x124x] (.mv (.t x124x)) false [] [] []), (.mk (some x126x) (some (.mk x125x true)) 
  true [] false [true, true, true, true, true, true, true, true, true, true, true, true, true, true, true, true, true, true, true, true, true, true, true, true, true, true, true, 
  true, true, true, true, true, true, true, true] [] [x125x, x24x] (.mv (.t x24x)) false [] [] []), (.mk (some x127x) (some (.mk x125x true)) true [] false [true, true, true, true, 
  true, true, true, true, true, true, true, true, true, true, true, true, true, true, true, true, true, true, true, true, true, true, true, true, true, true, true, true, true, 
  true, true, true] [] [x125x, x126x] (.bin .eql (.t x126x) (.c (.n 13))) false [] [] []), (.mk (some x128x) none true [] false [true, true, true, true, true, true, true, true, 
  true, true, true, true, true, true, true, true, true, true, true, true, true, true, true, true, true, true, true, true, true, true, true, true, true, true, true, true, true] [] 
  [x125x, x127x] (.pick (.t x125x) (.t x127x) (.c (.b false))) false [] [] []), (.mk (some x129x) none true [] false [true, true, true, true, true, true, true, true, true, true, 
  true, true, true, true, true, true, true, true, true, true, true, true, true, true, true, true, true, true, true, true, true, true, true, true, true, true, true, true] [] [x128x] 
  (.mv (.t x128x)) false [] [] []), (.mk (some x130x) (some (.mk x129x true)) true [] false [true, true, true, true, true, true, true, true, true, true, true, true, true, true, 
  true, true, true, true, true, true, true, true, true, true, true, true, true, true, true, true, true, true, true, true, true, true, true, true, true] [] [x129x, x26x] (.mv (.t 
  x26x)) false [] [] []), (.mk (some x131x) (some (.mk x129x true)) true [] false [true, true, true, true, true, true, true, true, true, true, true, true, true, true, true, true, 
  true, true, true, true, true, true, true, true, true, true, true, true, true, true, true, true, true, true, true, true, true, true, true, true] [] [x129x, x130x] (.bin .eql (.t 
  x130x) (.c (.n 0))) false [] [] []), (.mk (some x132x) none true [] false [true, true, true, true, true, true, true, true, true, true, true, true, true, true, true, true, true, 
  true, true, true, true, true, true, true, true, true, true, true, true, true, true, true, true, true, true, true, true, true, true, true, true] [] [x129x, x131x] (.pick (.t 
  x129x) (.t x131x) (.c (.b false))) false [] [] []), (.mk (some x133x) none true [] false [true, true, true, true, true, true, true, true, true, true, true, true, true, true, 
  true, true, true, true, true, true, true, true, true, true, true, true, true, true, true, true, true, true, true, true, true, true, true, true, true, true, true, true] [] [x132x] 
  (.mv (.t x132x)) false [] [] []), (.mk (some x134x) (some (.mk x133x true)) true [] false [true, true, true, true, true, true, true, true, true, true, true, true, true, true, 
  true, true, true, true, true, true, true, true, true, true, true, true, true, true, true, true, true, true, true, true, true, true, true, true, true, true, true, true, true] [] 
  [x133x, x28x] (.mv (.t x28x)) false [] [] []), (.mk (some x135x) (some (.mk x133x true)) true [] false [true, true, true, true, true, true, true, true, true, true, true, true, 
  true, true, true, true, true, true, true, true, true, true, true, true, true, true, true, true, true, true, true, true, true, true, true, true, true, true, true, true, true, 
  true, true, true] [] [x133x, x134x] (.bin .eql (.t x134x) (.c (.n 0))) false [] [] []), (.mk (some x136x) none true [] false [true, true, true, true, true, true, true, true, 
  true, true, true, true, true, true, true, true, true, true, true, true, true, true, true, true, true, true, true, true, true, true, true, true, true, true, true, true, true, 
  true, true, true, true, true, true, true, true] [] [x133x, x135x] (.pick (.t x133x) (.t x135x) (.c (.b false))) false [] [] []), (.mk (some x137x) none true [] false [true, true, 
  true, true, true, true, true, true, true, true, true, true, true, true, true, true, true, true, true, true, true, true, true, true, true, true, true, true, true, true, true, 
  true, true, true, true, true, true, true, true, true, true, true, true, true, true, true] [] [x136x] (.mv (.t x136x)) false [] [] []), (.mk (some x138x) (some (.mk x137x true)) 
  true [] false [true, true, true, true, true, true, true, true, true, true, true, true, true, true, true, true, true, true, true, true, true, true, true, true, true, true, true, 
  true, true, true, true, true, true, true, true, true, true, true, true, true, true, true, true, true, true, true, true] [] [x137x, x5x] (.mv (.t x5x)) false [] [] []), (.mk (some 
  x139x) (some (.mk x137x true)) true [] false [true, true, true, true, true, true, true, true, true, true, true, true, true, true, true, true, true, true, true, true, true, true, 
  true, true, true, true, true, true, true, true, true, true, true, true, true, true, true, true, true, true, true, true, true, true, true, true, true, true] [] [x137x, x138x] 
  (.bin .eql (.t x138x) (.c (.n 5))) false [] [] []), (.mk (some x140x) none true [] false [true, true, true, true, true, true, true, true, true, true, true, true, true, true, 
  true, true, true, true, true, true, true, true, true, true, true, true, true, true, true, true, true, true, true, true, true, true, true, true, true, true, true, true, true, 
  true, true, true, true, true, true] [] [x137x, x139x] (.pick (.t x137x) (.t x139x) (.c (.b false))) false [] [] []), (.mk (some x141x) none true [] false [true, true, true, true, 
  true, true, true, true, true, true, true, true, true, true, true, true, true, true, true, true, true, true, true, true, true, true, true, true, true, true, true, true, true, 
  true, true, true, true, true, true, true, true, true, true, true, true, true, true, true, true, true] [] [x140x] (.mv (.t x140x)) false [] [] []), (.mk (some x142x) (some (.mk 
  x141x true)) true [] false [true, true, true, true, true, true, true, true, true, true, true, true, true, true, true, true, true, true, true, true, true, true, true, true, true, 
  true, true, true, true, true, true, true, true, true, true, true, true, true, true, true, true, true, true, true, true, true, true, true, true, true, true] [] [x141x, x13x] (.mv 
  (.t x13x)) false [] [] []), (.mk (some x143x) (some (.mk x141x true)) true [] false [true, true, true, true, true, true, true, true, true, true, true, true, true, true, true, 
  true, true, true, true, true, true, true, true, true, true, true, true, true, true, true, true, true, true, true, true, true, true, true, true, true, true, true, true, true, 
  true, true, true, true, true, true, true, true] [] [x141x, x142x] (.bin .eql (.t x142x) (.c (.n 8))) false [] [] []), (.mk (some x144x) none true [] false [true, true, true, 
  true, true, true, true, true, true, true, true, true, true, true, true, true, true, true, true, true, true, true, true, true, true, true, true, true, true, true, true, true, 
  true, true, true, true, true, true, true, true, true, true, true, true, true, true, true, true, true, true, true, true, true] [] [x141x, x143x] (.pick (.t x141x) (.t x143x) (.c 
  (.b false))) false [] [] []), (.mk (some x145x) none true [] false [true, true, true, true, true, true, true, true, true, true, true, true, true, true, true, true, true, true, 
  true, true, true, true, true, true, true, true, true, true, true, true, true, true, true, true, true, true, true, true, true, true, true, true, true, true, true, true, true, 
  true, true, true, true, true, true, true] [] [x144x] (.mv (.t x144x)) false [] [] []), (.mk (some x146x) (some (.mk x145x true)) true [] false [true, true, true, true, true, 
  true, true, true, true, true, true, true, true, true, true, true, true, true, true, true, true, true, true, true, true, true, true, true, true, true, true, true, true, true, 
  true, true, true, true, true, true, true, true, true, true, true, true, true, true, true, true, true, true, true, true, true] [] [x145x, x15x] (.mv (.t x15x)) false [] [] []), 
  (.mk (some x147x) (some (.mk x145x true)) true [] false [true, true, true, true, true, true, true, true, true, true, true, true, true, true, true, true, true, true, true, true, 
  true, true, true, true, true, true, true, true, true, true, true, true, true, true, true, true, true, true, true, true, true, true, true, true, true, true, true, true, true, 
  true, true, true, true, true, true, true] [] [x145x, x146x] (.bin .eql (.t x146x) (.c (.n 0))) false [] [] []), (.mk (some x148x) none true [] false [true, true, true, true, 
  true, true, true, true, true, true, true, true, true, true, true, true, true, true, true, true, true, true, true, true, true, true, true, true, true, true, true, true, true, 
  true, true, true, true, true, true, true, true, true, true, true, true, true, true, true, true, true, true, true, true, true, true, true, true] [] [x145x, x147x] (.pick (.t 
  x145x) (.t x147x) (.c (.b false))) false [] [] []), (.mk (some x149x) none true [] false [true, true, true, true, true, true, true, true, true, true, true, true, true, true, 
  true, true, true, true, true, true, true, true, true, true, true, true, true, true, true, true, true, true, true, true, true, true, true, true, true, true, true, true, true, 
  true, true, true, true, true, true, true, true, true, true, true, true, true, true, true] [] [x148x] (.mv (.t x148x)) false [] [] []), (.mk (some x150x) (some (.mk x149x true)) 
  true [] false [true, true, true, true, true, true, true, true, true, true, true, true, true, true, true, true, true, true, true, true, true, true, true, true, true, true, true, 
  true, true, true, true, true, true, true, true, true, true, true, true, true, true, true, true, true, true, true, true, true, true, true, true, true, true, true, true, true, 
  true, true, true] [] [x149x, x16x] (.mv (.t x16x)) false [] [] []), (.mk (some x151x) (some (.mk x149x true)) true [] false [true, true, true, true, true, true, true, true, true, 
  true, true, true, true, true, true, true, true, true, true, true, true, true, true, true, true, true, true, true, true, true, true, true, true, true, true, true, true, true, 
  true, true, true, true, true, true, true, true, true, true, true, true, true, true, true, true, true, true, true, true, true, true] [] [x149x, x150x] (.bin .eql (.t x150x) (.c 
  (.n 2))) false [] [] []), (.mk (some x152x) none true [] false [true, true, true, true, true, true, true, true, true, true, true, true, true, true, true, true, true, true, true, 
  true, true, true, true, true, true, true, true, true, true, true, true, true, true, true, true, true, true, true, true, true, true, true, true, true, true, true, true, true, 
  true, true, true, true, true, true, true, true, true, true, true, true, true] [] [x149x, x151x] (.pick (.t x149x) (.t x151x) (.c (.b false))) false [] [] []), (.mk (some x153x) 
  none true [] false [true, true, true, true, true, true, true, true, true, true, true, true, true, true, true, true, true, true, true, true, true, true, true, true, true, true, 
  true, true, true, true, true, true, true, true, true, true, true, true, true, true, true, true, true, true, true, true, true, true, true, true, true, true, true, true, true, 
  true, true, true, true, true, true, true] [] [x152x] (.mv (.t x152x)) false [] [] []), (.mk (some x154x) (some (.mk x153x true)) true [] false [true, true, true, true, true, 
  true, true, true, true, true, true, true, true, true, true, true, true, true, true, true, true, true, true, true, true, true, true, true, true, true, true, true, true, true, 
  true, true, true, true, true, true, true, true, true, true, true, true, true, true, true, true, true, true, true, true, true, true, true, true, true, true, true, true, true] [] 
  [x153x, x17x] (.mv (.t x17x)) false [] [] []), (.mk (some x155x) (some (.mk x153x true)) true [] false [true, true, true, true, true, true, true, true, true, true, true, true, 
  true, true, true, true, true, true, true, true, true, true, true, true, true, true, true, true, true, true, true, true, true, true, true, true, true, true, true, true, true, 
  true, true, true, true, true, true, true, true, true, true, true, true, true, true, true, true, true, true, true, true, true, true, true] [] [x153x, x154x] (.bin .eql (.t x154x) 
  (.c (.n 4))) false [] [] []), (.mk (some x156x) none true [] false [true, true, true, true, true, true, true, true, true, true, true, true, true, true, true, true, true, true, 
  true, true, true, true, true, true, true, true, true, true, true, true, true, true, true, true, true, true, true, true, true, true, true, true, true, true, true, true, true, 
  true, true, true, true, true, true, true, true, true, true, true, true, true, true, true, true, true, true] [] [x153x, x155x] (.pick (.t x153x) (.t x155x) (.c (.b false))) false 
  [] [] []), (.mk (some x157x) none true [] false [true, true, true, true, true, true, true, true, true, true, true, true, true, true, true, true, true, true, true, true, true, 
  true, true, true, true, true, true, true, true, true, true, true, true, true, true, true, true, true, true, true, true, true, true, true, true, true, true, true, true, true, 
  true, true, true, true, true, true, true, true, true, true, true, true, true, true, true, true] [] [x156x] (.mv (.t x156x)) false [] [] []), (.mk (some x158x) (some (.mk x157x 
  true)) true [] false [true, true, true, true, true, true, true, true, true, true, true, true, true, true, true, true, true, true, true, true, true, true, true, true, true, true, 
  true, true, true, true, true, true, true, true, true, true, true, true, true, true, true, true, true, true, true, true, true, true, true, true, true, true, true, true, true, 
  true, true, true, true, true, true, true, true, true, true, true, true] [] [x157x, x25x] (.mv (.t x25x)) false [] [] []), (.mk (some x159x) (some (.mk x157x true)) true [] false 
  [true, true, true, true, true, true, true, true, true, true, true, true, true, true, true, true, true, true, true, true, true, true, true, true, true, true, true, true, true, 
  true, true, true, true, true, true, true, true, true, true, true, true, true, true, true, true, true, true, true, true, true, true, true, true, true, true, true, true, true, 
  true, true, true, true, true, true, true, true, true, true] [] [x157x, x158x] (.len (.t x158x)) false [] [] []), (.mk (some x160x) (some (.mk x157x true)) true [] false [true, 
  true, true, true, true, true, true, true, true, true, true, true, true, true, true, true, true, true, true, true, true, true, true, true, true, true, true, true, true, true, 
  true, true, true, true, true, true, true, true, true, true, true, true, true, true, true, true, true, true, true, true, true, true, true, true, true, true, true, true, true, 
  true, true, true, true, true, true, true, true, true, true] [] [x157x, x159x] (.bin .gtr (.t x159x) (.c (.n 0))) false [] [] []), (.mk (some x161x) none true [] false [true, 
  true, true, true, true, true, true, true, true, true, true, true, true, true, true, true, true, true, true, true, true, true, true, true, true, true, true, true, true, true, 
  true, true, true, true, true, true, true, true, true, true, true, true, true, true, true, true, true, true, true, true, true, true, true, true, true, true, true, true, true, 
  true, true, true, true, true, true, true, true, true, true, true] [] [x157x, x160x] (.pick (.t x157x) (.t x160x) (.c (.b false))) false [] [] []), (.mk (some x162x) none true [] 
  false [true, true, true, true, true, true, true, true, true, true, true, true, true, true, true, true, true, true, true, true, true, true, true, true, true, true, true, true, 
  true, true, true, true, true, true, true, true, true, true, true, true, true, true, true, true, true, true, true, true, true, true, true, true, true, true, true, true, true, 
  true, true, true, true, true, true, true, true, true, true, true, true, true, true] [] [x161x] (.mv (.t x161x)) false [] [] []), (.mk (some x163x) (some (.mk x162x true)) true [] 
  false [true, true, true, true, true, true, true, true, true, true, true, true, true, true, true, true, true, true, true, true, true, true, true, true, true, true, true, true, 
  true, true, true, true, true, true, true, true, true, true, true, true, true, true, true, true, true, true, true, true, true, true, true, true, true, true, true, true, true, 
  true, true, true, true, true, true, true, true, true, true, true, true, true, true, true] [] [x162x, x1x] (.mv (.t x1x)) false [] [] []), (.mk (some x164x) (some (.mk x162x 
  true)) true [] true [false, true, true, true, true, true, true, true, true, true, true, true, true, true, true, true, true, true, true, true, true, true, true, true, true, true, 
  true, true, true, true, true, true, true, true, true, true, true, true, true, true, true, true, true, true, true, true, true, true, true, true, true, true, true, true, true, 
  true, true, true, true, true, true, true, true, true, true, true, true, true, true, true, true, true, true] [] [x162x] (.bsl 3 1 5 (.cons (.n 0) (.cons (.n 0) (.cons (.n 0) 
  (.cons (.n 0) (.cons (.n 0) .nil))))) (.cons 0 1 (.c (.n 2)) (.cons 1 1 (.c (.n 2)) (.cons 2 1 (.c (.n 2)) (.cons 3 1 (.c (.n 2)) (.cons 4 1 (.c (.n 2)) .nil)))))) false [] [] 
  []), (.mk (some x165x) (some (.mk x162x true)) false [] true [true, false, true, true, true, true, true, true, true, true, true, true, true, true, true, true, true, true, true, 
  true, true, true, true, true, true, true, true, true, true, true, true, true, true, true, true, true, true, true, true, true, true, true, true, true, true, true, true, true, 
  true, true, true, true, true, true, true, true, true, true, true, true, true, true, true, true, true, true, true, true, true, true, true, true, true, true] [] [x162x, x164x] 
  (.call 22 (.cons (.t x164x) .nil)) false [] [] []), (.mk (some x166x) (some (.mk x162x true)) false [] false [true, true, true, true, true, true, true, true, true, true, true, 
  true, true, true, true, true, true, true, true, true, true, true, true, true, true, true, true, true, true, true, true, true, true, true, true, true, true, true, true, true, 
  true, true, true, true, true, true, true, true, true, true, true, true, true, true, true, true, true, true, true, true, true, true, true, true, true, true, true, true, true, 
  true, true, true, true, true, true] [] [x162x, x163x, x165x] (.call 21 (.cons (.t x163x) (.cons (.t x165x) .nil))) false [] [] []), (.mk (some x167x) none true [] false [true, 
  true, true, true, true, true, true, true, true, true, true, true, true, true, true, true, true, true, true, true, true, true, true, true, true, true, true, true, true, true, 
  true, true, true, true, true, true, true, true, true, true, true, true, true, true, true, true, true, true, true, true, true, true, true, true, true, true, true, true, true, 
  true, true, true, true, true, true, true, true, true, true, true, true, true, true, true, true, true] [] [x162x, x166x] (.pick (.t x162x) (.t x166x) (.c (.b false))) false [] [] 
  []), (.mk (some x168x) none true [] false [true, true, true, true, true, true, true, true, true, true, true, true, true, true, true, true, true, true, true, true, true, true, 
  true, true, true, true, true, true, true, true, true, true, true, true, true, true, true, true, true, true, true, true, true, true, true, true, true, true, true, true, true, 
  true, true, true, true, true, true, true, true, true, true, true, true, true, true, true, true, true, true, true, true, true, true, true, true, true, true] [] [x167x] (.mv (.t 
  x167x)) false [] [] []), (.mk (some x169x) (some (.mk x168x true)) true [] false [true, true, true, true, true, true, true, true, true, true, true, true, true, true, true, true, 
  true, true, true, true, true, true, true, true, true, true, true, true, true, true, true, true, true, true, true, true, true, true, true, true, true, true, true, true, true, 
  true, true, true, true, true, true, true, true, true, true, true, true, true, true, true, true, true, true, true, true, true, true, true, true, true, true, true, true, true, 
  true, true, true, true] [] [x168x, x3x] (.mv (.t x3x)) false [] [] []), (.mk (some x170x) (some (.mk x168x true)) true [] true [false, true, true, true, true, true, true, true, 
  true, true, true, true, true, true, true, true, true, true, true, true, true, true, true, true, true, true, true, true, true, true, true, true, true, true, true, true, true, 
  true, true, true, true, true, true, true, true, true, true, true, true, true, true, true, true, true, true, true, true, true, true, true, true, true, true, true, true, true, 
  true, true, true, true, true, true, true, true, true, true, true, true, true] [] [x168x] (.bsl 3 1 2 (.cons (.n 0) (.cons (.n 0) .nil)) (.cons 0 1 (.c (.n 0)) (.cons 1 1 (.c (.n 
  1)) .nil))) false [] [] []), (.mk (some x171x) (some (.mk x168x true)) false [] true [true, false, true, true, true, true, true, true, true, true, true, true, true, true, true, 
  true, true, true, true, true, true, true, true, true, true, true, true, true, true, true, true, true, true, true, true, true, true, true, true, true, true, true, true, true, 
  true, true, true, true, true, true, true, true, true, true, true, true, true, true, true, true, true, true, true, true, true, true, true, true, true, true, true, true, true, 
  true, true, true, true, true, true, true] [] [x168x, x170x] (.call 22 (.cons (.t x170x) .nil)) false [] [] []), (.mk (some x172x) (some (.mk x168x true)) false [] false [true, 
  true, true, true, true, true, true, true, true, true, true, true, true, true, true, true, true, true, true, true, true, true, true, true, true, true, true, true, true, true, 
  true, true, true, true, true, true, true, true, true, true, true, true, true, true, true, true, true, true, true, true, true, true, true, true, true, true, true, true, true, 
  true, true, true, true, true, true, true, true, true, true, true, true, true, true, true, true, true, true, true, true, true, true] [] [x168x, x169x, x171x] (.call 21 (.cons (.t 
  x169x) (.cons (.t x171x) .nil))) false [] [] []), (.mk (some x173x) none true [] false [true, true, true, true, true, true, true, true, true, true, true, true, true, true, true, 
  true, true, true, true, true, true, true, true, true, true, true, true, true, true, true, true, true, true, true, true, true, true, true, true, true, true, true, true, true, 
  true, true, true, true, true, true, true, true, true, true, true, true, true, true, true, true, true, true, true, true, true, true, true, true, true, true, true, true, true, 
  true, true, true, true, true, true, true, true, true] [] [x168x, x172x] (.pick (.t x168x) (.t x172x) (.c (.b false))) false [] [] []), (.mk (some x174x) none true [] false [true, 
  true, true, true, true, true, true, true, true, true, true, true, true, true, true, true, true, true, true, true, true, true, true, true, true, true, true, true, true, true, 
  true, true, true, true, true, true, true, true, true, true, true, true, true, true, true, true, true, true, true, true, true, true, true, true, true, true, true, true, true, 
  true, true, true, true, true, true, true, true, true, true, true, true, true, true, true, true, true, true, true, true, true, true, true, true] [] [x173x] (.mv (.t x173x)) false 
  [] [] []), (.mk (some x175x) (some (.mk x174x true)) true [] false [true, true, true, true, true, true, true, true, true, true, true, true, true, true, true, true, true, true, 
  true, true, true, true, true, true, true, true, true, true, true, true, true, true, true, true, true, true, true, true, true, true, true, true, true, true, true, true, true, 
  true, true, true, true, true, true, true, true, true, true, true, true, true, true, true, true, true, true, true, true, true, true, true, true, true, true, true, true, true, 
  true, true, true, true, true, true, true, true] [] [x174x, x7x] (.mv (.t x7x)) false [] [] []), (.mk (some x176x) (some (.mk x174x true)) true [] true [false, true, true, true, 
  true, true, true, true, true, true, true, true, true, true, true, true, true, true, true, true, true, true, true, true, true, true, true, true, true, true, true, true, true, 
  true, true, true, true, true, true, true, true, true, true, true, true, true, true, true, true, true, true, true, true, true, true, true, true, true, true, true, true, true, 
  true, true, true, true, true, true, true, true, true, true, true, true, true, true, true, true, true, true, true, true, true, true, true] [] [x174x] (.bsl 3 1 5 (.cons (.n 0) 
  (.cons (.n 0) (.cons (.n 0) (.cons (.n 0) (.cons (.n 0) .nil))))) (.cons 0 1 (.c (.n 0)) (.cons 1 1 (.c (.n 1)) (.cons 2 1 (.c (.n 0)) (.cons 3 1 (.c (.n 1)) (.cons 4 1 (.c (.n 
  2)) .nil)))))) false [] [] []), (.mk (some x177x) (some (.mk x174x true)) false [] true [true, false, true, true, true, true, true, true, true, true, true, true, true, true, 
  true, true, true, true, true, true, true, true, true, true, true, true, true, true, true, true, true, true, true, true, true, true, true, true, true, true, true, true, true, 
  true, true, true, true, true, true, true, true, true, true, true, true, true, true, true, true, true, true, true, true, true, true, true, true, true, true, true, true, true, 
  true, true, true, true, true, true, true, true, true, true, true, true, true, true] [] [x174x, x176x] (.call 22 (.cons (.t x176x) .nil)) false [] [] []), (.mk (some x178x) (some 
  (.mk x174x true)) false [] false [true, true, true, true, true, true, true, true, true, true, true, true, true, true, true, true, true, true, true, true, true, true, true, true, 
  true, true, true, true, true, true, true, true, true, true, true, true, true, true, true, true, true, true, true, true, true, true, true, true, true, true, true, true, true, 
  true, true, true, true, true, true, true, true, true, true, true, true, true, true, true, true, true, true, true, true, true, true, true, true, true, true, true, true, true, 
  true, true, true, true, true] [] [x174x, x175x, x177x] (.call 21 (.cons (.t x175x) (.cons (.t x177x) .nil))) false [] [] []), (.mk (some x179x) none true [] false [true, true, 
  true, true, true, true, true, true, true, true, true, true, true, true, true, true, true, true, true, true, true, true, true, true, true, true, true, true, true, true, true, 
  true, true, true, true, true, true, true, true, true, true, true, true, true, true, true, true, true, true, true, true, true, true, true, true, true, true, true, true, true, 
  true, true, true, true, true, true, true, true, true, true, true, true, true, true, true, true, true, true, true, true, true, true, true, true, true, true, true, true] [] [x174x, 
  x178x] (.pick (.t x174x) (.t x178x) (.c (.b false))) false [] [] []), (.mk (some x180x) none true [] false [true, true, true, true, true, true, true, true, true, true, true, 
  true, true, true, true, true, true, true, true, true, true, true, true, true, true, true, true, true, true, true, true, true, true, true, true, true, true, true, true, true, 
  true, true, true, true, true, true, true, true, true, true, true, true, true, true, true, true, true, true, true, true, true, true, true, true, true, true, true, true, true, 
  true, true, true, true, true, true, true, true, true, true, true, true, true, true, true, true, true, true, true, true] [] [x179x] (.mv (.t x179x)) false [] [] []), (.mk (some 
  x181x) (some (.mk x180x true)) true [] false [true, true, true, true, true, true, true, true, true, true, true, true, true, true, true, true, true, true, true, true, true, true, 
  true, true, true, true, true, true, true, true, true, true, true, true, true, true, true, true, true, true, true, true, true, true, true, true, true, true, true, true, true, 
  true, true, true, true, true, true, true, true, true, true, true, true, true, true, true, true, true, true, true, true, true, true, true, true, true, true, true, true, true, 
  true, true, true, true, true, true, true, true, true, true] [] [x180x, x9x] (.mv (.t x9x)) false [] [] []), (.mk (some x182x) (some (.mk x180x true)) true [] true [false, true, 
  true, true, true, true, true, true, true, true, true, true, true, true, true, true, true, true, true, true, true, true, true, true, true, true, true, true, true, true, true, 
  true, true, true, true, true, true, true, true, true, true, true, true, true, true, true, true, true, true, true, true, true, true, true, true, true, true, true, true, true, 
  true, true, true, true, true, true, true, true, true, true, true, true, true, true, true, true, true, true, true, true, true, true, true, true, true, true, true, true, true, 
  true, true] [] [x180x] (.bsl 3 1 2 (.cons (.n 0) (.cons (.n 0) .nil)) (.cons 0 1 (.c (.n 0)) (.cons 1 1 (.c (.n 2)) .nil))) false [] [] []), (.mk (some x183x) (some (.mk x180x 
  true)) false [] true [true, false, true, true, true, true, true, true, true, true, true, true, true, true, true, true, true, true, true, true, true, true, true, true, true, true, 
  true, true, true, true, true, true, true, true, true, true, true, true, true, true, true, true, true, true, true, true, true, true, true, true, true, true, true, true, true, 
  true, true, true, true, true, true, true, true, true, true, true, true, true, true, true, true, true, true, true, true, true, true, true, true, true, true, true, true, true, 
  true, true, true, true, true, true, true, true] [] [x180x, x182x] (.call 22 (.cons (.t x182x) .nil)) false [] [] []), (.mk (some x184x) (some (.mk x180x true)) true [] true 
  [false, false, false, true, true, true, true, true, true, true, true, true, true, true, true, true, true, true, true, true, true, true, true, true, true, true, true, true, true, 
  true, true, true, true, true, true, true, true, true, true, true, true, true, true, true, true, true, true, true, true, true, true, true, true, true, true, true, true, true, 
  true, true, true, true, true, true, true, true, true, true, true, true, true, true, true, true, true, true, true, true, true, true, true, true, true, true, true, true, true, 
  true, true, true, true, true, true] [] [x180x] (.bsl 3 1 2 (.cons (.n 0) (.cons (.n 0) .nil)) (.cons 0 1 (.c (.n 1)) (.cons 1 1 (.c (.n 3)) .nil))) false [] [] []), (.mk (some 
  x185x) (some (.mk x180x true)) false [] true [true, true, true, false, true, true, true, true, true, true, true, true, true, true, true, true, true, true, true, true, true, true, 
  true, true, true, true, true, true, true, true, true, true, true, true, true, true, true, true, true, true, true, true, true, true, true, true, true, true, true, true, true, 
  true, true, true, true, true, true, true, true, true, true, true, true, true, true, true, true, true, true, true, true, true, true, true, true, true, true, true, true, true, 
  true, true, true, true, true, true, true, true, true, true, true, true, true, true] [] [x180x, x184x] (.call 22 (.cons (.t x184x) .nil)) false [] [] []), (.mk (some x186x) (some 
  (.mk x180x true)) true [] true [true, true, true, true, false, true, true, true, true, true, true, true, true, true, true, true, true, true, true, true, true, true, true, true, 
  true, true, true, true, true, true, true, true, true, true, true, true, true, true, true, true, true, true, true, true, true, true, true, true, true, true, true, true, true, 
  true, true, true, true, true, true, true, true, true, true, true, true, true, true, true, true, true, true, true, true, true, true, true, true, true, true, true, true, true, 
  true, true, true, true, true, true, true, true, true, true, true, true, true] [] [x180x, x183x, x185x] (.bsl 45 1 2 (.cons .ns (.cons .ns .nil)) (.cons 0 1 (.t x183x) (.cons 1 1 
  (.t x185x) .nil))) false [] [] []), (.mk (some x187x) (some (.mk x180x true)) false [] true [true, true, true, true, true, false, true, true, true, true, true, true, true, true, 
  true, true, true, true, true, true, true, true, true, true, true, true, true, true, true, true, true, true, true, true, true, true, true, true, true, true, true, true, true, 
  true, true, true, true, true, true, true, true, true, true, true, true, true, true, true, true, true, true, true, true, true, true, true, true, true, true, true, true, true, 
  true, true, true, true, true, true, true, true, true, true, true, true, true, true, true, true, true, true, true, true, true, true, true, true] [] [x180x, x186x] (.call 36 (.cons 
  (.t x186x) .nil)) false [] [] []), (.mk (some x188x) (some (.mk x180x true)) false [] false [true, true, true, true, true, true, true, true, true, true, true, true, true, true, 
  true, true, true, true, true, true, true, true, true, true, true, true, true, true, true, true, true, true, true, true, true, true, true, true, true, true, true, true, true, 
  true, true, true, true, true, true, true, true, true, true, true, true, true, true, true, true, true, true, true, true, true, true, true, true, true, true, true, true, true, 
  true, true, true, true, true, true, true, true, true, true, true, true, true, true, true, true, true, true, true, true, true, true, true, true, true] [] [x180x, x181x, x187x] 
  (.call 35 (.cons (.t x181x) (.cons (.t x187x) .nil))) false [] [] []), (.mk (some x189x) none true [] false [true, true, true, true, true, true, true, true, true, true, true, 
  true, true, true, true, true, true, true, true, true, true, true, true, true, true, true, true, true, true, true, true, true, true, true, true, true, true, true, true, true, 
  true, true, true, true, true, true, true, true, true, true, true, true, true, true, true, true, true, true, true, true, true, true, true, true, true, true, true, true, true, 
  true, true, true, true, true, true, true, true, true, true, true, true, true, true, true, true, true, true, true, true, true, true, true, true, true, true, true, true, true] [] 
  [x180x, x188x] (.pick (.t x180x) (.t x188x) (.c (.b false))) false [] [] []), (.mk (some x190x) none true [] false [true, true, true, true, true, true, true, true, true, true, 
  true, true, true, true, true, true, true, true, true, true, true, true, true, true, true, true, true, true, true, true, true, true, true, true, true, true, true, true, true, 
  true, true, true, true, true, true, true, true, true, true, true, true, true, true, true, true, true, true, true, true, true, true, true, true, true, true, true, true, true, 
  true, true, true, true, true, true, true, true, true, true, true, true, true, true, true, true, true, true, true, true, true, true, true, true, true, true, true, true, true, 
  true, true] [] [x189x] (.mv (.t x189x)) false [] [] []), (.mk (some x191x) (some (.mk x190x true)) true [] false [true, true, true, true, true, true, true, true, true, true, 
  true, true, true, true, true, true, true, true, true, true, true, true, true, true, true, true, true, true, true, true, true, true, true, true, true, true, true, true, true, 
  true, true, true, true, true, true, true, true, true, true, true, true, true, true, true, true, true, true, true, true, true, true, true, true, true, true, true, true, true, 
  true, true, true, true, true, true, true, true, true, true, true, true, true, true, true, true, true, true, true, true, true, true, true, true, true, true, true, true, true, 
  true, true, true] [] [x190x, x11x] (.fad 0 (.t x11x)) false [] [] []), (.mk (some x192x) (some (.mk x190x true)) false [] false [true, true, true, true, true, true, true, true, 
  true, true, true, true, true, true, true, true, true, true, true, true, true, true, true, true, true, true, true, true, true, true, true, true, true, true, true, true, true, 
  true, true, true, true, true, true, true, true, true, true, true, true, true, true, true, true, true, true, true, true, true, true, true, true, true, true, true, true, true, 
  true, true, true, true, true, true, true, true, true, true, true, true, true, true, true, true, true, true, true, true, true, true, true, true, true, true, true, true, true, 
  true, true, true, true, true, true] [] [x190x, x191x] (.ld 1 false (.t x191x)) false [] [] []), (.mk (some x193x) (some (.mk x190x true)) true [] false [true, true, true, true, 
  true, true, true, true, true, true, true, true, true, true, true, true, true, true, true, true, true, true, true, true, true, true, true, true, true, true, true, true, true, 
  true, true, true, true, true, true, true, true, true, true, true, true, true, true, true, true, true, true, true, true, true, true, true, true, true, true, true, true, true, 
  true, true, true, true, true, true, true, true, true, true, true, true, true, true, true, true, true, true, true, true, true, true, true, true, true, true, true, true, true, 
  true, true, true, true, true, true, true, true, true, true, true] [] [x190x, x192x] (.bin .eql (.t x192x) (.c (.n 5))) false [] [] []), (.mk (some x194x) none true [] false 
  [true, true, true, true, true, true, true, true, true, true, true, true, true, true, true, true, true, true, true, true, true, true, true, true, true, true, true, true, true, 
  true, true, true, true, true, true, true, true, true, true, true, true, true, true, true, true, true, true, true, true, true, true, true, true, true, true, true, true, true, 
  true, true, true, true, true, true, true, true, true, true, true, true, true, true, true, true, true, true, true, true, true, true, true, true, true, true, true, true, true, 
  true, true, true, true, true, true, true, true, true, true, true, true, true, true, true, true] [] [x190x, x193x] (.pick (.t x190x) (.t x193x) (.c (.b false))) false [] [] []), 
  (.mk (some x195x) none true [] false [true, true, true, true, true, true, true, true, true, true, true, true, true, true, true, true, true, true, true, true, true, true, true, 
  true, true, true, true, true, true, true, true, true, true, true, true, true, true, true, true, true, true, true, true, true, true, true, true, true, true, true, true, true, 
  true, true, true, true, true, true, true, true, true, true, true, true, true, true, true, true, true, true, true, true, true, true, true, true, true, true, true, true, true, 
  true, true, true, true, true, true, true, true, true, true, true, true, true, true, true, true, true, true, true, true, true, true, true] [] [x194x] (.mv (.t x194x)) false [] [] 
  []), (.mk (some x196x) (some (.mk x195x true)) true [] false [true, true, true, true, true, true, true, true, true, true, true, true, true, true, true, true, true, true, true, 
  true, true, true, true, true, true, true, true, true, true, true, true, true, true, true, true, true, true, true, true, true, true, true, true, true, true, true, true, true, 
  true, true, true, true, true, true, true, true, true, true, true, true, true, true, true, true, true, true, true, true, true, true, true, true, true, true, true, true, true, 
  true, true, true, true, true, true, true, true, true, true, true, true, true, true, true, true, true, true, true, true, true, true, true, true, true, true, true, true] [] [x195x, 
  x11x] (.fad 1 (.t x11x)) false [] [] []), (.mk (some x197x) (some (.mk x195x true)) false [] false [true, true, true, true, true, true, true, true, true, true, true, true, true, 
  true, true, true, true, true, true, true, true, true, true, true, true, true, true, true, true, true, true, true, true, true, true, true, true, true, true, true, true, true, 
  true, true, true, true, true, true, true, true, true, true, true, true, true, true, true, true, true, true, true, true, true, true, true, true, true, true, true, true, true, 
  true, true, true, true, true, true, true, true, true, true, true, true, true, true, true, true, true, true, true, true, true, true, true, true, true, true, true, true, true, 
  true, true, true, true, true, true] [] [x195x, x196x] (.ld 1 false (.t x196x)) false [] [] []), (.mk (some x198x) (some (.mk x195x true)) true [] true [false, false, true, true, 
  true, true, true, true, true, true, true, true, true, true, true, true, true, true, true, true, true, true, true, true, true, true, true, true, true, true, true, true, true, 
  true, true, true, true, true, true, true, true, true, true, true, true, true, true, true, true, true, true, true, true, true, true, true, true, true, true, true, true, true, 
  true, true, true, true, true, true, true, true, true, true, true, true, true, true, true, true, true, true, true, true, true, true, true, true, true, true, true, true, true, 
  true, true, true, true, true, true, true, true, true, true, true, true, true, true, true, true] [] [x195x] (.bsl 3 1 10 (.cons (.n 0) (.cons (.n 0) (.cons (.n 0) (.cons (.n 0) 
  (.cons (.n 0) (.cons (.n 0) (.cons (.n 0) (.cons (.n 0) (.cons (.n 0) (.cons (.n 0) .nil)))))))))) (.cons 0 1 (.c (.n 0)) (.cons 1 1 (.c (.n 1)) (.cons 2 1 (.c (.n 0)) (.cons 3 1 
  (.c (.n 4)) (.cons 4 1 (.c (.n 1)) (.cons 5 1 (.c (.n 2)) (.cons 6 1 (.c (.n 2)) (.cons 7 1 (.c (.n 4)) (.cons 8 1 (.c (.n 3)) (.cons 9 1 (.c (.n 4)) .nil))))))))))) false [] [] 
  []), (.mk (some x199x) (some (.mk x195x true)) false [] true [true, false, false, true, true, true, true, true, true, true, true, true, true, true, true, true, true, true, true, 
  true, true, true, true, true, true, true, true, true, true, true, true, true, true, true, true, true, true, true, true, true, true, true, true, true, true, true, true, true, 
  true, true, true, true, true, true, true, true, true, true, true, true, true, true, true, true, true, true, true, true, true, true, true, true, true, true, true, true, true, 
  true, true, true, true, true, true, true, true, true, true, true, true, true, true, true, true, true, true, true, true, true, true, true, true, true, true, true, true, true, 
  true, true] [] [x195x, x198x] (.call 37 (.cons (.t x198x) .nil)) false [] [] []), (.mk (some x200x) (some (.mk x195x true)) false [] false [true, true, true, true, true, true, 
  true, true, true, true, true, true, true, true, true, true, true, true, true, true, true, true, true, true, true, true, true, true, true, true, true, true, true, true, true, 
  true, true, true, true, true, true, true, true, true, true, true, true, true, true, true, true, true, true, true, true, true, true, true, true, true, true, true, true, true, 
  true, true, true, true, true, true, true, true, true, true, true, true, true, true, true, true, true, true, true, true, true, true, true, true, true, true, true, true, true, 
  true, true, true, true, true, true, true, true, true, true, true, true, true, true, true, true] [] [x195x, x197x, x199x] (.call 10 (.cons (.t x197x) (.cons (.t x199x) .nil))) 
  false [] [] []), (.mk (some x201x) none true [] false [true, true, true, true, true, true, true, true, true, true, true, true, true, true, true, true, true, true, true, true, 
  true, true, true, true, true, true, true, true, true, true, true, true, true, true, true, true, true, true, true, true, true, true, true, true, true, true, true, true, true, 
  true, true, true, true, true, true, true, true, true, true, true, true, true, true, true, true, true, true, true, true, true, true, true, true, true, true, true, true, true, 
  true, true, true, true, true, true, true, true, true, true, true, true, true, true, true, true, true, true, true, true, true, true, true, true, true, true, true, true, true, 
  true, true, true] [] [x195x, x200x] (.pick (.t x195x) (.t x200x) (.c (.b false))) false [] [] []), (.mk (some x202x) none true [] false [true, true, true, true, true, true, true, 
  true, true, true, true, true, true, true, true, true, true, true, true, true, true, true, true, true, true, true, true, true, true, true, true, true, true, true, true, true, 
  true, true, true, true, true, true, true, true, true, true, true, true, true, true, true, true, true, true, true, true, true, true, true, true, true, true, true, true, true, 
  true, true, true, true, true, true, true, true, true, true, true, true, true, true, true, true, true, true, true, true, true, true, true, true, true, true, true, true, true, 
  true, true, true, true, true, true, true, true, true, true, true, true, true, true, true, true, true] [] [x201x] (.mv (.t x201x)) false [] [] []), (.mk (some x203x) (some (.mk 
  x202x true)) true [] false [true, true, true, true, true, true, true, true, true, true, true, true, true, true, true, true, true, true, true, true, true, true, true, true, true, 
  true, true, true, true, true, true, true, true, true, true, true, true, true, true, true, true, true, true, true, true, true, true, true, true, true, true, true, true, true, 
  true, true, true, true, true, true, true, true, true, true, true, true, true, true, true, true, true, true, true, true, true, true, true, true, true, true, true, true, true, 
  true, true, true, true, true, true, true, true, true, true, true, true, true, true, true, true, true, true, true, true, true, true, true, true, true, true, true, true, true] [] 
  [x202x, x27x] (.fad 0 (.t x27x)) false [] [] []), (.mk (some x204x) (some (.mk x202x true)) false [] false [true, true, true, true, true, true, true, true, true, true, true, 
  true, true, true, true, true, true, true, true, true, true, true, true, true, true, true, true, true, true, true, true, true, true, true, true, true, true, true, true, true, 
  true, true, true, true, true, true, true, true, true, true, true, true, true, true, true, true, true, true, true, true, true, true, true, true, true, true, true, true, true, 
  true, true, true, true, true, true, true, true, true, true, true, true, true, true, true, true, true, true, true, true, true, true, true, true, true, true, true, true, true, 
  true, true, true, true, true, true, true, true, true, true, true, true, true, true, true] [] [x202x, x203x] (.ld 1 false (.t x203x)) false [] [] []), (.mk (some x205x) (some (.mk 
  x202x true)) true [] false [true, true, true, true, true, true, true, true, true, true, true, true, true, true, true, true, true, true, true, true, true, true, true, true, true, 
  true, true, true, true, true, true, true, true, true, true, true, true, true, true, true, true, true, true, true, true, true, true, true, true, true, true, true, true, true, 
  true, true, true, true, true, true, true, true, true, true, true, true, true, true, true, true, true, true, true, true, true, true, true, true, true, true, true, true, true, 
  true, true, true, true, true, true, true, true, true, true, true, true, true, true, true, true, true, true, true, true, true, true, true, true, true, true, true, true, true, 
  true, true] [] [x202x, x204x] (.bin .eql (.t x204x) (.c (.n 5))) false [] [] []), (.mk (some x206x) none true [] false [true, true, true, true, true, true, true, true, true, 
  true, true, true, true, true, true, true, true, true, true, true, true, true, true, true, true, true, true, true, true, true, true, true, true, true, true, true, true, true, 
  true, true, true, true, true, true, true, true, true, true, true, true, true, true, true, true, true, true, true, true, true, true, true, true, true, true, true, true, true, 
  true, true, true, true, true, true, true, true, true, true, true, true, true, true, true, true, true, true, true, true, true, true, true, true, true, true, true, true, true, 
  true, true, true, true, true, true, true, true, true, true, true, true, true, true, true, true, true, true, true] [] [x202x, x205x] (.pick (.t x202x) (.t x205x) (.c (.b false))) 
  false [] [] []), (.mk (some x207x) none true [] false [true, true, true, true, true, true, true, true, true, true, true, true, true, true, true, true, true, true, true, true, 
  true, true, true, true, true, true, true, true, true, true, true, true, true, true, true, true, true, true, true, true, true, true, true, true, true, true, true, true, true, 
  true, true, true, true, true, true, true, true, true, true, true, true, true, true, true, true, true, true, true, true, true, true, true, true, true, true, true, true, true, 
  true, true, true, true, true, true, true, true, true, true, true, true, true, true, true, true, true, true, true, true, true, true, true, true, true, true, true, true, true, 
  true, true, true, true, true, true, true, true, true] [] [x206x] (.mv (.t x206x)) false [] [] []), (.mk (some x208x) (some (.mk x207x true)) true [] false [true, true, true, 
  true, true, true, true, true, true, true, true, true, true, true, true, true, true, true, true, true, true, true, true, true, true, true, true, true, true, true, true, true, 
  true, true, true, true, true, true, true, true, true, true, true, true, true, true, true, true, true, true, true, true, true, true, true, true, true, true, true, true, true, 
  true, true, true, true, true, true, true, true, true, true, true, true, true, true, true, true, true, true, true, true, true, true, true, true, true, true, true, true, true, 
  true, true, true, true, true, true, true, true, true, true, true, true, true, true, true, true, true, true, true, true, true, true, true, true, true, true, true] [] [x207x, x27x] 
  (.fad 1 (.t x27x)) false [] [] []), (.mk (some x209x) (some (.mk x207x true)) false [] false [true, true, true, true, true, true, true, true, true, true, true, true, true, true, 
  true, true, true, true, true, true, true, true, true, true, true, true, true, true, true, true, true, true, true, true, true, true, true, true, true, true, true, true, true, 
  true, true, true, true, true, true, true, true, true, true, true, true, true, true, true, true, true, true, true, true, true, true, true, true, true, true, true, true, true, 
  true, true, true, true, true, true, true, true, true, true, true, true, true, true, true, true, true, true, true, true, true, true, true, true, true, true, true, true, true, 
  true, true, true, true, true, true, true, true, true, true, true, true, true, true, true, true, true] [] [x207x, x208x] (.ld 1 false (.t x208x)) false [] [] []), (.mk (some 
  x210x) (some (.mk x207x true)) true [] true [false, false, true, true, true, true, true, true, true, true, true, true, true, true, true, true, true, true, true, true, true, true, 
  true, true, true, true, true, true, true, true, true, true, true, true, true, true, true, true, true, true, true, true, true, true, true, true, true, true, true, true, true, 
  true, true, true, true, true, true, true, true, true, true, true, true, true, true, true, true, true, true, true, true, true, true, true, true, true, true, true, true, true, 
  true, true, true, true, true, true, true, true, true, true, true, true, true, true, true, true, true, true, true, true, true, true, true, true, true, true, true, true, true, 
  true, true, true, true, true, true, true, true, true, true] [] [x207x] (.bsl 3 1 12 (.cons (.n 0) (.cons (.n 0) (.cons (.n 0) (.cons (.n 0) (.cons (.n 0) (.cons (.n 0) (.cons (.n 
  0) (.cons (.n 0) (.cons (.n 0) (.cons (.n 0) (.cons (.n 0) (.cons (.n 0) .nil)))))))))))) (.cons 0 1 (.c (.n 0)) (.cons 1 1 (.c (.n 1)) (.cons 2 1 (.c (.n 0)) (.cons 3 1 (.c (.n 
  3)) (.cons 4 1 (.c (.n 1)) (.cons 5 1 (.c (.n 2)) (.cons 6 1 (.c (.n 1)) (.cons 7 1 (.c (.n 4)) (.cons 8 1 (.c (.n 2)) (.cons 9 1 (.c (.n 3)) (.cons 10 1 (.c (.n 3)) (.cons 11 1 
  (.c (.n 4)) .nil))))))))))))) false [] [] []), (.mk (some x211x) (some (.mk x207x true)) false [] true [true, false, false, true, true, true, true, true, true, true, true, true, 
  true, true, true, true, true, true, true, true, true, true, true, true, true, true, true, true, true, true, true, true, true, true, true, true, true, true, true, true, true, 
  true, true, true, true, true, true, true, true, true, true, true, true, true, true, true, true, true, true, true, true, true, true, true, true, true, true, true, true, true, 
  true, true, true, true, true, true, true, true, true, true, true, true, true, true, true, true, true, true, true, true, true, true, true, true, true, true, true, true, true, 
  true, true, true, true, true, true, true, true, true, true, true, true, true, true, true, true, true, true, true, true, true] [] [x207x, x210x] (.call 37 (.cons (.t x210x) .nil)) 
  false [] [] []), (.mk (some x212x) (some (.mk x207x true)) false [] false [true, true, true, true, true, true, true, true, true, true, true, true, true, true, true, true, true, 
  true, true, true, true, true, true, true, true, true, true, true, true, true, true, true, true, true, true, true, true, true, true, true, true, true, true, true, true, true, 
  true, true, true, true, true, true, true, true, true, true, true, true, true, true, true, true, true, true, true, true, true, true, true, true, true, true, true, true, true, 
  true, true, true, true, true, true, true, true, true, true, true, true, true, true, true, true, true, true, true, true, true, true, true, true, true, true, true, true, true, 
  true, true, true, true, true, true, true, true, true, true, true, true, true, true, true, true, true] [] [x207x, x209x, x211x] (.call 10 (.cons (.t x209x) (.cons (.t x211x) 
  .nil))) false [] [] []), (.mk (some x213x) none true [] false [true, true, true, true, true, true, true, true, true, true, true, true, true, true, true, true, true, true, true, 
  true, true, true, true, true, true, true, true, true, true, true, true, true, true, true, true, true, true, true, true, true, true, true, true, true, true, true, true, true, 
  true, true, true, true, true, true, true, true, true, true, true, true, true, true, true, true, true, true, true, true, true, true, true, true, true, true, true, true, true, 
  true, true, true, true, true, true, true, true, true, true, true, true, true, true, true, true, true, true, true, true, true, true, true, true, true, true, true, true, true, 
  true, true, true, true, true, true, true, true, true, true, true, true, true, true, true, true] [] [x207x, x212x] (.pick (.t x207x) (.t x212x) (.c (.b false))) false [] [] []), 
  (.mk (some x214x) none true [] false [true, true, true, true, true, true, true, true, true, true, true, true, true, true, true, true, true, true, true, true, true, true, true, 
  true, true, true, true, true, true, true, true, true, true, true, true, true, true, true, true, true, true, true, true, true, true, true, true, true, true, true, true, true, 
  true, true, true, true, true, true, true, true, true, true, true, true, true, true, true, true, true, true, true, true, true, true, true, true, true, true, true, true, true, 
  true, true, true, true, true, true, true, true, true, true, true, true, true, true, true, true, true, true, true, true, true, true, true, true, true, true, true, true, true, 
  true, true, true, true, true, true, true, true, true, true, true, true, true] [] [x213x] (.mv (.t x213x)) false [] [] []), (.mk (some x215x) (some (.mk x214x true)) false [] true 
  [true, true, true, true, true, true, true, true, true, true, true, true, true, true, true, true, true, true, true, true, true, true, true, true, true, true, true, true, true, 
  true, true, true, true, true, true, true, true, true, true, true, true, true, true, true, true, true, true, true, true, true, true, true, true, true, true, true, true, true, 
  true, true, true, true, true, true, true, true, true, true, true, true, true, true, true, true, true, true, true, true, true, true, true, true, true, true, true, true, true, 
  true, true, true, true, true, true, true, true, true, true, true, true, true, true, true, true, true, true, true, true, true, true, true, true, true, true, true, true, true, 
  true, true, true, true, true, true, true, true] [] [x214x] (.call 17 .nil) false [] [] []), (.mk (some x216x) (some (.mk x214x true)) true [] true [false, true, true, true, true, 
  true, true, true, true, true, true, true, true, true, true, true, true, true, true, true, true, true, true, true, true, true, true, true, true, true, true, true, true, true, 
  true, true, true, true, true, true, true, true, true, true, true, true, true, true, true, true, true, true, true, true, true, true, true, true, true, true, true, true, true, 
  true, true, true, true, true, true, true, true, true, true, true, true, true, true, true, true, true, true, true, true, true, true, true, true, true, true, true, true, true, 
  true, true, true, true, true, true, true, true, true, true, true, true, true, true, true, true, true, true, true, true, true, true, true, true, true, true, true, true, true, 
  true, true, true, true] [] [x214x] (.bsl 3 1 4 (.cons (.n 0) (.cons (.n 0) (.cons (.n 0) (.cons (.n 0) .nil)))) (.cons 0 1 (.c (.n 0)) (.cons 1 1 (.c (.n 2)) (.cons 2 1 (.c (.n 
  1)) (.cons 3 1 (.c (.n 3)) .nil))))) false [] [] []), (.mk (some x217x) (some (.mk x214x true)) false [] true [true, true, true, true, true, true, true, true, true, true, true, 
  true, true, true, true, true, true, true, true, true, true, true, true, true, true, true, true, true, true, true, true, true, true, true, true, true, true, true, true, true, 
  true, true, true, true, true, true, true, true, true, true, true, true, true, true, true, true, true, true, true, true, true, true, true, true, true, true, true, true, true, 
  true, true, true, true, true, true, true, true, true, true, true, true, true, true, true, true, true, true, true, true, true, true, true, true, true, true, true, true, true, 
  true, true, true, true, true, true, true, true, true, true, true, true, true, true, true, true, true, true, true, true, true, true, true, true, true, true, true, true] [] [x214x, 
  x216x] (.call 37 (.cons (.t x216x) .nil)) false [] [] []), (.mk (some x218x) (some (.mk x214x true)) false [] false [true, true, true, true, true, true, true, true, true, true, 
  true, true, true, true, true, true, true, true, true, true, true, true, true, true, true, true, true, true, true, true, true, true, true, true, true, true, true, true, true, 
  true, true, true, true, true, true, true, true, true, true, true, true, true, true, true, true, true, true, true, true, true, true, true, true, true, true, true, true, true, 
  true, true, true, true, true, true, true, true, true, true, true, true, true, true, true, true, true, true, true, true, true, true, true, true, true, true, true, true, true, 
  true, true, true, true, true, true, true, true, true, true, true, true, true, true, true, true, true, true, true, true, true, true, true, true, true, true, true, true, true, 
  true] [] [x214x, x215x, x217x] (.call 38 (.cons (.t x215x) (.cons (.t x217x) .nil))) false [] [] []), (.mk (some x219x) (some (.mk x214x true)) true [] false [true, true, true, 
  true, true, true, true, true, true, true, true, true, true, true, true, true, true, true, true, true, true, true, true, true, true, true, true, true, true, true, true, true, 
  true, true, true, true, true, true, true, true, true, true, true, true, true, true, true, true, true, true, true, true, true, true, true, true, true, true, true, true, true, 
  true, true, true, true, true, true, true, true, true, true, true, true, true, true, true, true, true, true, true, true, true, true, true, true, true, true, true, true, true, 
  true, true, true, true, true, true, true, true, true, true, true, true, true, true, true, true, true, true, true, true, true, true, true, true, true, true, true, true, true, 
  true, true, true, true, true, true, true, true, true] [] [x214x, x218x] (.bin .eql (.t x218x) (.c (.n 0))) false [] [] []), (.mk (some x220x) none true [] false [true, true, 
  true, true, true, true, true, true, true, true, true, true, true, true, true, true, true, true, true, true, true, true, true, true, true, true, true, true, true, true, true, 
  true, true, true, true, true, true, true, true, true, true, true, true, true, true, true, true, true, true, true, true, true, true, true, true, true, true, true, true, true, 
  true, true, true, true, true, true, true, true, true, true, true, true, true, true, true, true, true, true, true, true, true, true, true, true, true, true, true, true, true, 
  true, true, true, true, true, true, true, true, true, true, true, true, true, true, true, true, true, true, true, true, true, true, true, true, true, true, true, true, true, 
  true, true, true, true, true, true, true, true, true, true, true] [] [x214x, x219x] (.pick (.t x214x) (.t x219x) (.c (.b false))) false [] [] []), (.mk (some x221x) none true [] 
  false [true, true, true, true, true, true, true, true, true, true, true, true, true, true, true, true, true, true, true, true, true, true, true, true, true, true, true, true, 
  true, true, true, true, true, true, true, true, true, true, true, true, true, true, true, true, true, true, true, true, true, true, true, true, true, true, true, true, true, 
  true, true, true, true, true, true, true, true, true, true, true, true, true, true, true, true, true, true, true, true, true, true, true, true, true, true, true, true, true, 
  true, true, true, true, true, true, true, true, true, true, true, true, true, true, true, true, true, true, true, true, true, true, true, true, true, true, true, true, true, 
  true, true, true, true, true, true, true, true, true, true, true, true, true, true, true] [] [x220x] (.mv (.t x220x)) false [] [] []), (.mk (some x222x) (some (.mk x221x true)) 
  false [] true [true, true, true, true, true, true, true, true, true, true, true, true, true, true, true, true, true, true, true, true, true, true, true, true, true, true, true, 
  true, true, true, true, true, true, true, true, true, true, true, true, true, true, true, true, true, true, true, true, true, true, true, true, true, true, true, true, true, 
  true, true, true, true, true, true, true, true, true, true, true, true, true, true, true, true, true, true, true, true, true, true, true, true, true, true, true, true, true, 
  true, true, true, true, true, true, true, true, true, true, true, true, true, true, true, true, true, true, true, true, true, true, true, true, true, true, true, true, true, 
  true, true, true, true, true, true, true, true, true, true, true, true, true, true, true, true, true] [] [x221x] (.call 17 .nil) false [] [] []), (.mk (some x223x) (some (.mk 
  x221x true)) false [] false [true, true, true, true, true, true, true, true, true, true, true, true, true, true, true, true, true, true, true, true, true, true, true, true, true, 
  true, true, true, true, true, true, true, true, true, true, true, true, true, true, true, true, true, true, true, true, true, true, true, true, true, true, true, true, true, 
  true, true, true, true, true, true, true, true, true, true, true, true, true, true, true, true, true, true, true, true, true, true, true, true, true, true, true, true, true, 
  true, true, true, true, true, true, true, true, true, true, true, true, true, true, true, true, true, true, true, true, true, true, true, true, true, true, true, true, true, 
  true, true, true, true, true, true, true, true, true, true, true, true, true, true, true, true, true, true, true, true] [] [x221x, x222x] (.call 38 (.cons (.t x222x) (.cons (.c 
  .ns) .nil))) false [] [] []), (.mk (some x224x) (some (.mk x221x true)) true [] false [true, true, true, true, true, true, true, true, true, true, true, true, true, true, true, 
  true, true, true, true, true, true, true, true, true, true, true, true, true, true, true, true, true, true, true, true, true, true, true, true, true, true, true, true, true, 
  true, true, true, true, true, true, true, true, true, true, true, true, true, true, true, true, true, true, true, true, true, true, true, true, true, true, true, true, true, 
  true, true, true, true, true, true, true, true, true, true, true, true, true, true, true, true, true, true, true, true, true, true, true, true, true, true, true, true, true, 
  true, true, true, true, true, true, true, true, true, true, true, true, true, true, true, true, true, true, true, true, true, true, true, true, true, true, true, true, true, 
  true, true] [] [x221x, x223x] (.bin .eql (.t x223x) (.c (.n 14))) false [] [] []), (.mk (some x225x) none true [] false [true, true, true, true, true, true, true, true, true, 
  true, true, true, true, true, true, true, true, true, true, true, true, true, true, true, true, true, true, true, true, true, true, true, true, true, true, true, true, true, 
  true, true, true, true, true, true, true, true, true, true, true, true, true, true, true, true, true, true, true, true, true, true, true, true, true, true, true, true, true, 
  true, true, true, true, true, true, true, true, true, true, true, true, true, true, true, true, true, true, true, true, true, true, true, true, true, true, true, true, true, 
  true, true, true, true, true, true, true, true, true, true, true, true, true, true, true, true, true, true, true, true, true, true, true, true, true, true, true, true, true, 
  true, true, true, true, true, true, true, true, true] [] [x221x, x224x] (.pick (.t x221x) (.t x224x) (.c (.b false))) false [] [] []), (.mk (some x0x) none true [] false [true, 
  true, true, true, true, true, true, true, true, true, true, true, true, true, true, true, true, true, true, true, true, true, true, true, true, true, true, true, true, true, 
  true, true, true, true, true, true, true, true, true, true, true, true, true, true, true, true, true, true, true, true, true, true, true, true, true, true, true, true, true, 
  true, true, true, true, true, true, true, true, true, true, true, true, true, true, true, true, true, true, true, true, true, true, true, true, true, true, true, true, true, 
  true, true, true, true, true, true, true, true, true, true, true, true, true, true, true, true, true, true, true, true, true, true, true, true, true, true, true, true, true, 
  true, true, true, true, true, true, true, true, true, true, true, true, true, true, true, true, true, true] [] [x225x] (.mv (.t x225x)) false [] [] [])]) .ret)))))))))))))) 
  [(.tmp x0x)])
theorem cc11 : compF Try.prog drops true true Try.f11 = some i11 := by kernel_rfl
noncomputable def i12 : FnI := (.mk true false (.seq (.reg (.cons (some x2x) none (.box 43 (.t x0x)) (.cons (some x4x) none (.alloc 27 (.cons (.n 0) (.cons .ns .nil)) 2) (.cons (some x5x) none (.alloc 40 (.cons 
  (.b false) (.cons (.b false) (.cons (.b false) (.cons (.b false) (.cons (.b false) (.cons (.b false) (.cons (.b false) (.cons (.b false) (.cons (.b false) (.cons (.b false) 
  (.cons (.b false) (.cons (.b false) (.cons (.b false) (.cons (.b false) (.cons (.b false) (.cons (.b false) (.cons (.b false) (.cons (.b false) (.cons (.b false) (.cons (.b 
  false) (.cons (.b false) (.cons (.b false) (.cons (.b false) (.cons (.b false) (.cons (.b false) (.cons (.b false) (.cons (.b false) (.cons (.b false) (.cons (.b false) (.cons 
  (.b false) (.cons (.b false) (.cons (.b false) (.cons (.b false) (.cons (.b false) (.cons (.b false) (.cons (.b false) (.cons (.b false) (.cons (.b false) (.cons (.b false) 
  (.cons (.b false) (.cons (.b false) (.cons (.b false) (.cons (.b false) (.cons (.b false) (.cons (.b false) (.cons (.b false) (.cons (.b false) (.cons (.b false) (.cons (.b 
  false) (.cons (.b false) (.cons (.b false) (.cons (.b false) (.cons (.b false) (.cons (.b false) (.cons (.b false) (.cons (.b false) (.cons (.b false) (.cons (.b false) (.cons 
  (.b false) (.cons (.b false) (.cons (.b false) (.cons (.b false) (.cons (.b false) (.cons (.b false) .nil)))))))))))))))))))))))))))))))))))))))))))))))))))))))))))))))) 64) 
  .nil)))) (.seq (.reg (.cons (some x11x) none (.fad 0 (.t x2x)) (.cons (some x12x) none (.ld 1 false (.t x11x)) (.cons (some x13x) none (.conv .i64 (.t x12x)) (.cons (some x14x) 
  none (.mv (.t x1x)) (.cons (some x15x) none (.bin .rem (.t x13x) (.t x14x)) (.cons (some x16x) none (.bin .add (.c (.n 1)) (.t x15x)) (.cons (some x17x) none (.build (.cons (.n 
  0) (.cons .ns .nil)) (.cons 0 1 (.t x16x) .nil)) (.cons (some x6x) none (.alloc 27 (.cons (.n 0) (.cons .ns .nil)) 2) (.cons none none (.st 2 (.t x6x) (.t x17x)) .nil)))))))))) 
  (.seq (.reg (.cons (some x7x) none (.alloc 40 (.cons (.b false) (.cons (.b false) (.cons (.b false) (.cons (.b false) (.cons (.b false) (.cons (.b false) (.cons (.b false) (.cons 
  (.b false) (.cons (.b false) (.cons (.b false) (.cons (.b false) (.cons (.b false) (.cons (.b false) (.cons (.b false) (.cons (.b false) (.cons (.b false) (.cons (.b false) 
  (.cons (.b false) (.cons (.b false) (.cons (.b false) (.cons (.b false) (.cons (.b false) (.cons (.b false) (.cons (.b false) (.cons (.b false) (.cons (.b false) (.cons (.b 
  false) (.cons (.b false) (.cons (.b false) (.cons (.b false) (.cons (.b false) (.cons (.b false) (.cons (.b false) (.cons (.b false) (.cons (.b false) (.cons (.b false) (.cons 
  (.b false) (.cons (.b false) (.cons (.b false) (.cons (.b false) (.cons (.b false) (.cons (.b false) (.cons (.b false) (.cons (.b false) (.cons (.b false) (.cons (.b false) 
  (.cons (.b false) (.cons (.b false) (.cons (.b false) (.cons (.b false) (.cons (.b false) (.cons (.b false) (.cons (.b false) (.cons (.b false) (.cons (.b false) (.cons (.b 
  false) (.cons (.b false) (.cons (.b false) (.cons (.b false) (.cons (.b false) (.cons (.b false) (.cons (.b false) (.cons (.b false) (.cons (.b false) 
  .nil)))))))))))))))))))))))))))))))))))))))))))))))))))))))))))))))) 64) .nil)) (.seq (.reg (.cons (some x8x) none (.mv (.c (.n 0))) .nil)) (.seq (.seq (.reg (.cons (some x18x) 
  none (.fad 0 (.t x6x)) (.cons (some x19x) none (.ld 1 false (.t x18x)) (.cons (some x20x) none (.mv (.c (.n 0))) .nil)))) (.block 0 (.loop (.seq (.reg (.cons (some x21x) none 
  (.bin .lss (.t x20x) (.t x19x)) .nil)) (.seq (.cond (.t x21x) .skip (.exit 0)) (.seq (.block 1 (.seq (.reg (.cons (some x22x) none (.mv (.t x20x)) (.cons (some x9x) none (.mv (.t 
  x22x)) .nil))) (.seq (.reg (.cons (some x23x) none (.mv (.t x9x)) (.cons (some x24x) none (.mv (.c (.n 0))) .nil))) (.block 2 (.loop (.seq (.reg (.cons (some x25x) none (.bin 
  .lss (.t x24x) (.t x23x)) .nil)) (.seq (.cond (.t x25x) .skip (.exit 2)) (.seq (.block 3 (.seq (.reg (.cons (some x26x) none (.mv (.t x24x)) (.cons (some x10x) none (.mv (.t 
  x26x)) .nil))) (.seq (.seq (.reg (.cons (some x27x) none (.fad 1 (.t x2x)) (.cons (some x28x) none (.ld 1 false (.t x27x)) (.cons (some x29x) none (.mv (.t x8x)) (.cons (some 
  x30x) none (.bin .shr (.t x28x) (.t x29x)) (.cons (some x31x) none (.bin .and (.t x30x) (.c (.i .u32 (.ofNat 1)))) (.cons (some x32x) none (.bin .eql (.t x31x) (.c (.i .u32 
  (.ofNat 1)))) .nil))))))) (.cond (.t x32x) (.seq (.reg (.cons (some x33x) none (.fad 1 (.t x6x)) (.cons (some x34x) none (.ld 1 false (.t x33x)) (.cons (some x35x) none (.mv (.t 
  x10x)) (.cons (some x36x) none (.mv (.t x9x)) (.cons (some x37x) none (.build (.cons (.n 0) (.cons (.n 0) .nil)) (.cons 0 1 (.t x35x) (.cons 1 1 (.t x36x) .nil))) (.cons (some 
  x38x) none (.bsl 66 2 1 (.cons (.n 0) (.cons (.n 0) .nil)) (.cons 0 2 (.t x37x) .nil)) (.cons (some x39x) none (.app 66 2 16 (.t x34x) (.t x38x)) (.cons (some x40x) none (.fad 1 
  (.t x6x)) (.cons none none (.st 1 (.t x40x) (.t x39x)) .nil)))))))))) (.draw [(.mk (some x41x) none true [] false [] [] [x10x] (.mv (.t x10x)) false [] [] []), (.mk (some x42x) 
  none true [] false [false] [] [x9x] (.mv (.t x9x)) false [] [] []), (.mk (some x43x) none true [] false [false, false] [x46x] [x9x] (.mv (.t x9x)) false [] [] []), (.mk (some 
  x44x) none true [] false [false, false, false] [x46x] [x10x] (.mv (.t x10x)) false [] [] []), (.mk (some x45x) none true [] false [false, false, false, true] [] [x7x, x41x] (.ixa 
  8 8 (.t x7x) (.t x41x)) false [] [] []), (.mk (some x46x) none true [] false [true, false, false, true, true] [] [x45x, x42x] (.ixa 8 1 (.t x45x) (.t x42x)) false [] [] []), (.mk 
  none none false [x46x] false [true, true, false, false, true, true] [] [x46x] (.st 1 (.t x46x) (.c (.b true))) false [] [] []), (.mk (some x47x) none true [] false [false, false, 
  false, false, true, false, false] [] [x7x, x43x] (.ixa 8 8 (.t x7x) (.t x43x)) false [] [] []), (.mk (some x48x) none true [] false [true, true, true, true, true, true, true, 
  true] [] [x47x, x44x] (.ixa 8 1 (.t x47x) (.t x44x)) false [] [] []), (.mk none none false [x48x] false [true, true, true, true, true, true, true, true, true] [] [x48x] (.st 1 
  (.t x48x) (.c (.b true))) false [] [] [])])) .skip)) (.reg (.cons (some x49x) none (.mv (.t x8x)) (.cons (some x50x) none (.bin .add (.t x49x) (.c (.n 1))) (.cons (some x8x) none 
  (.mv (.t x50x)) .nil))))))) (.reg (.cons (some x51x) none (.bin .add (.t x24x) (.c (.n 1))) (.cons (some x24x) none (.mv (.t x51x)) .nil))))))))))) (.reg (.cons (some x52x) none 
  (.bin .add (.t x20x) (.c (.n 1))) (.cons (some x20x) none (.mv (.t x52x)) .nil))))))))) (.seq (.draw [(.mk (some x53x) none false [] false [] [] [x6x] (.ld 2 true (.t x6x)) false 
  [] [] []), (.mk (some x54x) none false [] false [false] [x4x] [x7x] (.ld 64 true (.t x7x)) false [] [] []), (.mk none none false [x4x] false [false, true] [] [x4x, x53x] (.st 2 
  (.t x4x) (.t x53x)) false [] [] []), (.mk none none false [x5x] false [true, true, true] [] [x5x, x54x] (.st 64 (.t x5x) (.t x54x)) false [] [] [])]) .ret)))))) [(.cell x4x 2 
  true), (.cell x5x 64 true)])
theorem cc12 : compF Try.prog drops true false Try.f12 = some i12 := by kernel_rfl
noncomputable def i13 : FnI := (.mk true false (.seq (.reg (.cons (some x2x) none (.box 40 (.t x0x)) (.cons (some x4x) none (.mv (.c .ns)) .nil))) (.seq (.reg (.cons (some x5x) none (.mv (.c .ns)) .nil)) (.seq 
  (.seq (.reg (.cons (some x6x) none (.mv (.c (.n 1))) .nil)) (.block 0 (.loop (.seq (.seq (.reg (.cons (some x8x) none (.mv (.t x6x)) (.cons (some x9x) none (.mv (.t x1x)) (.cons 
  (some x10x) none (.bin .shl (.c (.n 1)) (.t x9x)) (.cons (some x11x) none (.bin .lss (.t x8x) (.t x10x)) .nil))))) (.cond (.t x11x) .skip (.exit 0))) (.seq (.block 1 (.seq (.reg 
  (.cons (some x14x) none (.mv (.t x6x)) (.cons (some x15x) none (.call 39 (.cons (.t x14x) .nil)) (.cons (some x7x) none (.mv (.t x15x)) .nil)))) (.seq (.reg (.cons (some x16x) 
  none (.ld 64 true (.t x2x)) (.cons (some x17x) none (.mv (.t x7x)) (.cons (some x18x) none (.call 40 (.cons (.t x16x) (.cons (.t x17x) .nil))) (.cons (some x19x) none (.mv (.t 
  x18x)) (.cons (some x20x) (some (.mk x19x true)) (.mv (.t x7x)) (.cons (some x21x) (some (.mk x19x true)) (.len (.t x20x)) (.cons (some x22x) (some (.mk x19x true)) (.mv (.t 
  x5x)) (.cons (some x23x) (some (.mk x19x true)) (.len (.t x22x)) (.cons (some x24x) (some (.mk x19x true)) (.bin .gtr (.t x21x) (.t x23x)) (.cons (some x25x) (some (.mk x19x 
  true)) (.mv (.t x24x)) (.cons (some x26x) (some (.mk x25x false)) (.mv (.t x7x)) (.cons (some x27x) (some (.mk x25x false)) (.len (.t x26x)) (.cons (some x28x) (some (.mk x25x 
  false)) (.mv (.t x5x)) (.cons (some x29x) (some (.mk x25x false)) (.len (.t x28x)) (.cons (some x30x) (some (.mk x25x false)) (.bin .eql (.t x27x) (.t x29x)) (.cons (some x31x) 
  (some (.mk x25x false)) (.mv (.t x30x)) (.cons (some x32x) (some (.mk x31x true)) (.mv (.t x7x)) (.cons (some x33x) (some (.mk x31x true)) (.mv (.t x5x)) (.cons (some x34x) (some 
  (.mk x31x true)) (.call 41 (.cons (.t x32x) (.cons (.t x33x) .nil))) (.cons (some x35x) (some (.mk x31x true)) (.bin .lss (.t x34x) (.c (.n 0))) (.cons (some x36x) (some (.mk 
  x25x false)) (.pick (.t x31x) (.t x35x) (.c (.b false))) (.cons (some x37x) (some (.mk x19x true)) (.pick (.t x25x) (.c (.b true)) (.t x36x)) (.cons (some x38x) none (.pick (.t 
  x19x) (.t x37x) (.c (.b false))) .nil)))))))))))))))))))))))) (.cond (.t x38x) (.reg (.cons (some x39x) none (.mv (.t x7x)) (.cons (some x5x) none (.mv (.t x39x)) .nil))) 
  .skip)))) (.reg (.cons (some x12x) none (.mv (.t x6x)) (.cons (some x13x) none (.bin .add (.t x12x) (.c (.n 1))) (.cons (some x6x) none (.mv (.t x13x)) .nil))))))))) (.seq (.reg 
  (.cons (some x40x) none (.mv (.t x5x)) (.cons (some x4x) none (.mv (.t x40x)) .nil))) .ret)))) [(.tmp x4x)])
theorem cc13 : compF Try.prog drops true false Try.f13 = some i13 := by kernel_rfl
noncomputable def i14 : FnI := (.mk true true (.seq (.reg (.cons (some x3x) none (.box 40 (.t x0x)) (.cons (some x6x) none (.mv (.c (.b false))) .nil))) (.seq (.seq (.reg (.cons (some x12x) none (.ld 64 true (.t 
  x3x)) (.cons (some x13x) none (.mv (.t x1x)) (.cons (some x14x) none (.call 42 (.cons (.t x12x) (.cons (.t x13x) .nil))) (.cons (some x15x) none (.not (.t x14x)) .nil))))) (.cond 
  (.t x15x) (.seq (.reg (.cons (some x6x) none (.mv (.c (.b false))) .nil)) .ret) .skip)) (.seq (.reg (.cons (some x7x) none (.mv (.c .ns)) .nil)) (.seq (.reg (.cons (some x16x) 
  none .mkm (.cons (some x8x) none (.mv (.t x16x)) .nil))) (.seq (.seq (.reg (.cons (some x17x) none (.mv (.t x1x)) (.cons (some x18x) none (.mv (.c (.n 0))) .nil))) (.block 0 
  (.loop (.seq (.reg (.cons (some x19x) none (.bin .lss (.t x18x) (.t x17x)) .nil)) (.seq (.cond (.t x19x) .skip (.exit 0)) (.seq (.block 1 (.seq (.reg (.cons (some x20x) none (.mv 
  (.t x18x)) (.cons (some x9x) none (.mv (.t x20x)) .nil))) (.seq (.seq (.reg (.cons (some x21x) none (.mv (.t x8x)) (.cons (some x22x) none (.mv (.t x9x)) (.cons (some x23x) none 
  (.lkp .int (.b false) false (.t x21x) (.t x22x)) .nil)))) (.cond (.t x23x) (.exit 1) .skip)) (.seq (.reg (.cons (some x10x) none (.mv (.c (.n 0))) .nil)) (.seq (.seq (.reg (.cons 
  (some x24x) none (.mv (.t x1x)) (.cons (some x25x) none (.mv (.c (.n 0))) .nil))) (.block 2 (.loop (.seq (.reg (.cons (some x26x) none (.bin .lss (.t x25x) (.t x24x)) .nil)) 
  (.seq (.cond (.t x26x) .skip (.exit 2)) (.seq (.block 3 (.seq (.reg (.cons (some x27x) none (.mv (.t x25x)) (.cons (some x11x) none (.mv (.t x27x)) .nil))) (.seq (.reg (.cons 
  (some x28x) none (.mv (.t x9x)) (.cons (some x29x) none (.mv (.t x11x)) (.cons (some x30x) none (.ixa 8 8 (.t x3x) (.t x28x)) (.cons (some x31x) none (.ixa 8 1 (.t x30x) (.t 
  x29x)) (.cons (some x32x) none (.ld 1 false (.t x31x)) (.cons (some x33x) none (.not (.t x32x)) .nil))))))) (.cond (.t x33x) (.seq (.reg (.cons (some x34x) none (.mv (.t x8x)) 
  (.cons (some x35x) none (.mv (.t x11x)) (.cons none none (.mup .int (.t x34x) (.t x35x) (.c (.b true))) .nil)))) (.reg (.cons (some x36x) none (.mv (.t x10x)) (.cons (some x37x) 
  none (.bin .add (.t x36x) (.c (.n 1))) (.cons (some x10x) none (.mv (.t x37x)) .nil))))) .skip)))) (.reg (.cons (some x38x) none (.bin .add (.t x25x) (.c (.n 1))) (.cons (some 
  x25x) none (.mv (.t x38x)) .nil))))))))) (.reg (.cons (some x39x) none (.mv (.t x7x)) (.cons (some x40x) none (.mv (.t x10x)) (.cons (some x41x) none (.bsl 3 1 1 (.cons (.n 0) 
  .nil) (.cons 0 1 (.t x40x) .nil)) (.cons (some x42x) none (.app 3 1 8 (.t x39x) (.t x41x)) (.cons (some x7x) none (.mv (.t x42x)) .nil))))))))))) (.reg (.cons (some x43x) none 
  (.bin .add (.t x18x) (.c (.n 1))) (.cons (some x18x) none (.mv (.t x43x)) .nil))))))))) (.seq (.reg (.cons (some x44x) none (.mv (.t x7x)) (.cons (some x45x) none (.len (.t 
  x44x)) (.cons (some x46x) none (.mv (.t x2x)) (.cons (some x47x) none (.bin .eql (.t x45x) (.t x46x)) (.cons (some x48x) none (.mv (.t x47x)) (.cons (some x49x) (some (.mk x48x 
  true)) (.mv (.t x7x)) (.cons (some x50x) (some (.mk x48x true)) (.call 43 (.cons (.t x49x) .nil)) (.cons (some x51x) (some (.mk x48x true)) (.mv (.t x7x)) (.cons (some x52x) 
  (some (.mk x48x true)) (.call 44 (.cons (.t x51x) .nil)) (.cons (some x53x) (some (.mk x48x true)) (.bin .sub (.t x50x) (.t x52x)) (.cons (some x54x) (some (.mk x48x true)) (.bin 
  .leq (.t x53x) (.c (.n 1))) (.cons (some x55x) none (.pick (.t x48x) (.t x54x) (.c (.b false))) (.cons (some x6x) none (.mv (.t x55x)) .nil)))))))))))))) .ret)))))) [(.tmp x6x)])
theorem cc14 : compF Try.prog drops true true Try.f14 = some i14 := by kernel_rfl
noncomputable def i15 : FnI := (.mk true false (.seq (.reg (.cons (some x1x) none (.box 27 (.t x0x)) (.cons (some x2x) none (.mv (.c .ns)) (.cons (some x3x) none (.mv (.c (.n 0))) .nil)))) (.seq (.seq (.reg 
  (.cons (some x5x) none (.ld 2 true (.t x1x)) (.cons (some x6x) none (.call 23 (.cons (.t x5x) .nil)) (.cons (some x4x) none (.mv (.t x6x)) .nil)))) (.seq (.reg (.cons (some x7x) 
  none (.mv (.t x4x)) (.cons (some x8x) none (.bin .neq (.t x7x) (.c (.n 0))) .nil))) (.cond (.t x8x) (.seq (.reg (.cons (some x9x) none (.mv (.t x4x)) (.cons (some x2x) none (.mv 
  (.c .ns)) (.cons (some x3x) none (.mv (.t x9x)) .nil)))) .ret) .skip))) (.seq (.reg (.cons (some x10x) none (.ld 2 true (.t x1x)) (.cons (some x11x) none (.call 45 (.cons (.t 
  x10x) .nil)) (.cons (some x12x) none (.call 46 (.cons (.t x11x) .nil)) (.cons (some x2x) none (.mv (.t x12x)) (.cons (some x3x) none (.mv (.c (.n 0))) .nil)))))) .ret))) [(.tmp 
  x2x), (.tmp x3x)])
theorem cc15 : compF Try.prog drops true false Try.f15 = some i15 := by kernel_rfl
noncomputable def i16 : FnI := (.mk true true (.seq (.reg (.cons (some x2x) none (.box 27 (.t x0x)) (.cons (some x4x) none (.mv (.c (.n 0))) (.cons (some x5x) none (.mv (.c (.n 0))) .nil)))) (.seq (.seq (.reg 
  (.cons (some x10x) none (.ld 2 true (.t x2x)) (.cons (some x11x) none (.call 23 (.cons (.t x10x) .nil)) (.cons (some x6x) none (.mv (.t x11x)) .nil)))) (.seq (.reg (.cons (some 
  x12x) none (.mv (.t x6x)) (.cons (some x13x) none (.bin .neq (.t x12x) (.c (.n 0))) .nil))) (.cond (.t x13x) (.seq (.reg (.cons (some x14x) none (.mv (.t x6x)) (.cons (some x4x) 
  none (.mv (.c (.n 0))) (.cons (some x5x) none (.mv (.t x14x)) .nil)))) .ret) .skip))) (.seq (.seq (.reg (.cons (some x15x) none (.mv (.t x1x)) (.cons (some x16x) none (.call 25 
  (.cons (.t x15x) .nil)) (.cons (some x17x) none (.not (.t x16x)) .nil)))) (.cond (.t x17x) (.seq (.reg (.cons (some x4x) none (.mv (.c (.n 0))) (.cons (some x5x) none (.mv (.c 
  (.n 1))) .nil))) .ret) .skip)) (.seq (.reg (.cons (some x7x) none (.mv (.c (.n 0))) .nil)) (.seq (.seq (.reg (.cons (some x18x) none (.ld 2 true (.t x2x)) (.cons (some x19x) none 
  (.call 45 (.cons (.t x18x) .nil)) (.cons (some x20x) none (.call 47 (.cons (.t x19x) .nil)) (.cons (some x21x) none (.len (.t x20x)) (.cons (some x22x) none (.mv (.c (.n 0))) 
  .nil)))))) (.block 0 (.loop (.seq (.reg (.cons (some x23x) none (.bin .lss (.t x22x) (.t x21x)) .nil)) (.seq (.cond (.t x23x) .skip (.exit 0)) (.seq (.block 1 (.seq (.reg (.cons 
  (some x24x) none (.ixs 1 (.t x20x) (.t x22x)) (.cons (some x25x) none (.ld 1 false (.t x24x)) (.cons (some x9x) none (.mv (.t x25x)) .nil)))) (.seq (.reg (.cons (some x26x) none 
  (.mv (.t x9x)) (.cons (some x27x) none (.len (.t x26x)) (.cons (some x28x) none (.mv (.t x1x)) (.cons (some x29x) none (.bin .eql (.t x27x) (.t x28x)) .nil))))) (.cond (.t x29x) 
  (.reg (.cons (some x30x) none (.mv (.t x7x)) (.cons (some x31x) none (.bin .add (.t x30x) (.c (.n 1))) (.cons (some x7x) none (.mv (.t x31x)) .nil)))) .skip)))) (.reg (.cons 
  (some x32x) none (.bin .add (.t x22x) (.c (.n 1))) (.cons (some x22x) none (.mv (.t x32x)) .nil))))))))) (.seq (.reg (.cons (some x33x) none (.mv (.t x7x)) (.cons (some x4x) none 
  (.mv (.t x33x)) (.cons (some x5x) none (.mv (.c (.n 0))) .nil)))) .ret)))))) [(.tmp x4x), (.tmp x5x)])
theorem cc16 : compF Try.prog drops true true Try.f16 = some i16 := by kernel_rfl
noncomputable def i17 : FnI := (.mk true false (.seq (.reg (.cons (some x0x) none (.alloc 27 (.cons (.n 0) (.cons .ns .nil)) 2) .nil)) (.seq (.reg (.cons (some x1x) none (.bsl 3 1 10 (.cons (.n 0) (.cons (.n 0) 
  (.cons (.n 0) (.cons (.n 0) (.cons (.n 0) (.cons (.n 0) (.cons (.n 0) (.cons (.n 0) (.cons (.n 0) (.cons (.n 0) .nil)))))))))) (.cons 0 1 (.c (.n 0)) (.cons 1 1 (.c (.n 1)) 
  (.cons 2 1 (.c (.n 1)) (.cons 3 1 (.c (.n 2)) (.cons 4 1 (.c (.n 2)) (.cons 5 1 (.c (.n 3)) (.cons 6 1 (.c (.n 3)) (.cons 7 1 (.c (.n 4)) (.cons 8 1 (.c (.n 0)) (.cons 9 1 (.c 
  (.n 4)) .nil))))))))))) (.cons (some x2x) none (.call 24 (.cons (.c (.n 5)) (.cons (.t x1x) .nil))) (.cons none none (.st 2 (.t x0x) (.t x2x)) .nil)))) .ret)) [(.cell x0x 2 
  true)])
theorem cc17 : compF Try.prog drops true false Try.f17 = some i17 := by kernel_rfl
noncomputable def i18 : FnI := (.mk true false (.seq (.reg (.cons (some x1x) none (.box 27 (.t x0x)) (.cons (some x2x) none (.mv (.c .ns)) (.cons (some x3x) none (.mv (.c (.n 0))) .nil)))) (.seq (.seq (.reg 
  (.cons (some x5x) none (.ld 2 true (.t x1x)) (.cons (some x6x) none (.call 23 (.cons (.t x5x) .nil)) (.cons (some x4x) none (.mv (.t x6x)) .nil)))) (.seq (.reg (.cons (some x7x) 
  none (.mv (.t x4x)) (.cons (some x8x) none (.bin .neq (.t x7x) (.c (.n 0))) .nil))) (.cond (.t x8x) (.seq (.reg (.cons (some x9x) none (.mv (.t x4x)) (.cons (some x2x) none (.mv 
  (.c .ns)) (.cons (some x3x) none (.mv (.t x9x)) .nil)))) .ret) .skip))) (.seq (.reg (.cons (some x10x) none (.ld 2 true (.t x1x)) (.cons (some x11x) none (.call 45 (.cons (.t 
  x10x) .nil)) (.cons (some x12x) none (.call 48 (.cons (.t x11x) .nil)) (.cons (some x2x) none (.mv (.t x12x)) (.cons (some x3x) none (.mv (.c (.n 0))) .nil)))))) .ret))) [(.tmp 
  x2x), (.tmp x3x)])
theorem cc18 : compF Try.prog drops true false Try.f18 = some i18 := by kernel_rfl
noncomputable def i19 : FnI := (.mk true false (.seq (.reg (.cons (some x0x) none (.alloc 27 (.cons (.n 0) (.cons .ns .nil)) 2) .nil)) (.seq (.reg (.cons (some x1x) none (.bsl 3 1 8 (.cons (.n 0) (.cons (.n 0) 
  (.cons (.n 0) (.cons (.n 0) (.cons (.n 0) (.cons (.n 0) (.cons (.n 0) (.cons (.n 0) .nil)))))))) (.cons 0 1 (.c (.n 0)) (.cons 1 1 (.c (.n 1)) (.cons 2 1 (.c (.n 0)) (.cons 3 1 
  (.c (.n 3)) (.cons 4 1 (.c (.n 1)) (.cons 5 1 (.c (.n 2)) (.cons 6 1 (.c (.n 2)) (.cons 7 1 (.c (.n 3)) .nil))))))))) (.cons (some x2x) none (.call 24 (.cons (.c (.n 4)) (.cons 
  (.t x1x) .nil))) (.cons none none (.st 2 (.t x0x) (.t x2x)) .nil)))) .ret)) [(.cell x0x 2 true)])
theorem cc19 : compF Try.prog drops true false Try.f19 = some i19 := by kernel_rfl
noncomputable def i20 : FnI := (.mk true false (.seq (.reg (.cons (some x1x) none (.box 27 (.t x0x)) (.cons (some x2x) none (.mv (.c .ns)) (.cons (some x3x) none (.mv (.c (.n 0))) .nil)))) (.seq (.seq (.reg 
  (.cons (some x8x) none (.ld 2 true (.t x1x)) (.cons (some x9x) none (.call 23 (.cons (.t x8x) .nil)) (.cons (some x4x) none (.mv (.t x9x)) .nil)))) (.seq (.reg (.cons (some x10x) 
  none (.mv (.t x4x)) (.cons (some x11x) none (.bin .neq (.t x10x) (.c (.n 0))) .nil))) (.cond (.t x11x) (.seq (.reg (.cons (some x12x) none (.mv (.t x4x)) (.cons (some x2x) none 
  (.mv (.c .ns)) (.cons (some x3x) none (.mv (.t x12x)) .nil)))) .ret) .skip))) (.seq (.reg (.cons (some x13x) none (.ld 2 true (.t x1x)) (.cons (some x14x) none (.call 45 (.cons 
  (.t x13x) .nil)) (.cons (some x5x) none (.alloc 61 (.cons (.n 0) (.cons (.b false) (.cons (.b false) (.cons (.b false) (.cons (.b false) (.cons (.b false) (.cons (.b false) 
  (.cons (.b false) (.cons (.b false) (.cons (.b false) (.cons (.b false) (.cons (.b false) (.cons (.b false) (.cons (.b false) (.cons (.b false) (.cons (.b false) (.cons (.b 
  false) (.cons (.b false) (.cons (.b false) (.cons (.b false) (.cons (.b false) (.cons (.b false) (.cons (.b false) (.cons (.b false) (.cons (.b false) (.cons (.b false) (.cons 
  (.b false) (.cons (.b false) (.cons (.b false) (.cons (.b false) (.cons (.b false) (.cons (.b false) (.cons (.b false) (.cons (.b false) (.cons (.b false) (.cons (.b false) 
  (.cons (.b false) (.cons (.b false) (.cons (.b false) (.cons (.b false) (.cons (.b false) (.cons (.b false) (.cons (.b false) (.cons (.b false) (.cons (.b false) (.cons (.b 
  false) (.cons (.b false) (.cons (.b false) (.cons (.b false) (.cons (.b false) (.cons (.b false) (.cons (.b false) (.cons (.b false) (.cons (.b false) (.cons (.b false) (.cons 
  (.b false) (.cons (.b false) (.cons (.b false) (.cons (.b false) (.cons (.b false) (.cons (.b false) (.cons (.b false) (.cons (.b false) (.cons (.b false) (.cons (.b false) 
  .nil))))))))))))))))))))))))))))))))))))))))))))))))))))))))))))))))) 65) (.cons none none (.st 65 (.t x5x) (.t x14x)) .nil))))) (.seq (.seq (.reg (.cons (some x16x) none (.ld 65 
  true (.t x5x)) (.cons (some x17x) none (.call 49 (.cons (.t x16x) .nil)) (.cons (some x15x) none (.mv (.t x17x)) (.cons (some x18x) none (.ext 0 (.t x15x)) (.cons (some x19x) 
  none (.ext 1 (.t x15x)) (.cons (some x6x) none (.alloc 83 (.cons (.n 0) (.cons (.n 0) (.cons (.n 0) .nil))) 3) (.cons none none (.st 3 (.t x6x) (.t x18x)) (.cons (some x7x) none 
  (.mv (.t x19x)) .nil))))))))) (.seq (.reg (.cons (some x20x) none (.mv (.t x7x)) .nil)) (.cond (.t x20x) (.seq (.reg (.cons (some x2x) none (.mv (.c .ns)) (.cons (some x3x) none 
  (.mv (.c (.n 13))) .nil))) .ret) .skip))) (.seq (.reg (.cons (some x21x) none (.ld 65 true (.t x5x)) (.cons (some x22x) none (.call 50 (.cons (.t x21x) .nil)) (.cons (some x2x) 
  none (.mv (.t x22x)) (.cons (some x3x) none (.mv (.c (.n 0))) .nil))))) .ret))))) [(.tmp x2x), (.tmp x3x)])
theorem cc20 : compF Try.prog drops true false Try.f20 = some i20 := by kernel_rfl
noncomputable def i21 : FnI := (.mk true true (.seq (.reg (.cons (some x4x) none (.mv (.c (.b false))) .nil)) (.seq (.seq (.reg (.cons (some x6x) none (.mv (.t x0x)) (.cons (some x7x) none (.len (.t x6x)) (.cons 
  (some x8x) none (.mv (.t x1x)) (.cons (some x9x) none (.len (.t x8x)) (.cons (some x10x) none (.bin .neq (.t x7x) (.t x9x)) .nil)))))) (.cond (.t x10x) (.seq (.reg (.cons (some 
  x4x) none (.mv (.c (.b false))) .nil)) .ret) .skip)) (.seq (.seq (.reg (.cons (some x5x) none (.mv (.c (.n 0))) .nil)) (.block 0 (.loop (.seq (.seq (.reg (.cons (some x11x) none 
  (.mv (.t x5x)) (.cons (some x12x) none (.mv (.t x0x)) (.cons (some x13x) none (.len (.t x12x)) (.cons (some x14x) none (.bin .lss (.t x11x) (.t x13x)) .nil))))) (.cond (.t x14x) 
  .skip (.exit 0))) (.seq (.block 1 (.seq (.draw [(.mk (some x17x) none true [] false [] [] [x0x] (.mv (.t x0x)) false [] [] []), (.mk (some x18x) none true [] false [false] [] 
  [x5x] (.mv (.t x5x)) false [] [] []), (.mk (some x19x) none true [] false [true, true] [] [x17x, x18x] (.ixs 1 (.t x17x) (.t x18x)) false [] [] []), (.mk (some x20x) none false 
  [] false [true, true, true] [] [x19x] (.ld 1 false (.t x19x)) false [] [] []), (.mk (some x21x) none true [] false [false, false, false, false] [] [x1x] (.mv (.t x1x)) false [] 
  [] []), (.mk (some x22x) none true [] false [false, false, false, false, false] [] [x5x] (.mv (.t x5x)) false [] [] []), (.mk (some x23x) none true [] false [true, true, false, 
  false, false, false] [] [x21x, x22x] (.ixs 1 (.t x21x) (.t x22x)) false [] [] []), (.mk (some x24x) none false [] false [true, true, true, false, false, false, false] [] [x23x] 
  (.ld 1 false (.t x23x)) false [] [] []), (.mk (some x25x) none true [] false [true, true, true, true, true, true, true, true] [] [x20x, x24x] (.bin .neq (.t x20x) (.t x24x)) 
  false [] [] [])]) (.cond (.t x25x) (.seq (.reg (.cons (some x4x) none (.mv (.c (.b false))) .nil)) .ret) .skip))) (.reg (.cons (some x15x) none (.mv (.t x5x)) (.cons (some x16x) 
  none (.bin .add (.t x15x) (.c (.n 1))) (.cons (some x5x) none (.mv (.t x16x)) .nil))))))))) (.seq (.reg (.cons (some x4x) none (.mv (.c (.b true))) .nil)) .ret)))) [(.tmp x4x)])
theorem cc21 : compF Try.prog drops true true Try.f21 = some i21 := by kernel_rfl
noncomputable def i22 : FnI := (.mk true false (.seq (.reg (.cons (some x2x) none (.mv (.c .ns)) .nil)) (.seq (.reg (.cons (some x3x) none (.mv (.t x0x)) (.cons (some x2x) none (.mv (.t x3x)) .nil))) .ret)) 
  [(.tmp x2x)])
theorem cc22 : compF Try.prog drops true false Try.f22 = some i22 := by kernel_rfl
noncomputable def i23 : FnI := (.mk true true (.seq (.reg (.cons (some x1x) none (.box 27 (.t x0x)) (.cons (some x2x) none (.mv (.c (.n 0))) .nil))) (.seq (.seq (.reg (.cons (some x6x) none (.fad 0 (.t x1x)) 
  (.cons (some x7x) none (.ld 1 false (.t x6x)) (.cons (some x8x) none (.call 25 (.cons (.t x7x) .nil)) (.cons (some x9x) none (.not (.t x8x)) .nil))))) (.cond (.t x9x) (.seq (.reg 
  (.cons (some x2x) none (.mv (.c (.n 1))) .nil)) .ret) .skip)) (.seq (.reg (.cons (some x10x) none (.fad 0 (.t x1x)) (.cons (some x11x) none (.ld 1 false (.t x10x)) (.cons (some 
  x12x) none (.build (.cons (.n 0) (.cons (.b false) (.cons (.b false) (.cons (.b false) (.cons (.b false) (.cons (.b false) (.cons (.b false) (.cons (.b false) (.cons (.b false) 
  (.cons (.b false) (.cons (.b false) (.cons (.b false) (.cons (.b false) (.cons (.b false) (.cons (.b false) (.cons (.b false) (.cons (.b false) (.cons (.b false) (.cons (.b 
  false) (.cons (.b false) (.cons (.b false) (.cons (.b false) (.cons (.b false) (.cons (.b false) (.cons (.b false) (.cons (.b false) (.cons (.b false) (.cons (.b false) (.cons 
  (.b false) (.cons (.b false) (.cons (.b false) (.cons (.b false) (.cons (.b false) (.cons (.b false) (.cons (.b false) (.cons (.b false) (.cons (.b false) (.cons (.b false) 
  (.cons (.b false) (.cons (.b false) (.cons (.b false) (.cons (.b false) (.cons (.b false) (.cons (.b false) (.cons (.b false) (.cons (.b false) (.cons (.b false) (.cons (.b 
  false) (.cons (.b false) (.cons (.b false) (.cons (.b false) (.cons (.b false) (.cons (.b false) (.cons (.b false) (.cons (.b false) (.cons (.b false) (.cons (.b false) (.cons 
  (.b false) (.cons (.b false) (.cons (.b false) (.cons (.b false) (.cons (.b false) (.cons (.b false) (.cons (.b false) (.cons (.b false) 
  .nil))))))))))))))))))))))))))))))))))))))))))))))))))))))))))))))))) (.cons 0 1 (.t x11x) .nil)) (.cons (some x3x) none (.alloc 61 (.cons (.n 0) (.cons (.b false) (.cons (.b 
  false) (.cons (.b false) (.cons (.b false) (.cons (.b false) (.cons (.b false) (.cons (.b false) (.cons (.b false) (.cons (.b false) (.cons (.b false) (.cons (.b false) (.cons 
  (.b false) (.cons (.b false) (.cons (.b false) (.cons (.b false) (.cons (.b false) (.cons (.b false) (.cons (.b false) (.cons (.b false) (.cons (.b false) (.cons (.b false) 
  (.cons (.b false) (.cons (.b false) (.cons (.b false) (.cons (.b false) (.cons (.b false) (.cons (.b false) (.cons (.b false) (.cons (.b false) (.cons (.b false) (.cons (.b 
  false) (.cons (.b false) (.cons (.b false) (.cons (.b false) (.cons (.b false) (.cons (.b false) (.cons (.b false) (.cons (.b false) (.cons (.b false) (.cons (.b false) (.cons 
  (.b false) (.cons (.b false) (.cons (.b false) (.cons (.b false) (.cons (.b false) (.cons (.b false) (.cons (.b false) (.cons (.b false) (.cons (.b false) (.cons (.b false) 
  (.cons (.b false) (.cons (.b false) (.cons (.b false) (.cons (.b false) (.cons (.b false) (.cons (.b false) (.cons (.b false) (.cons (.b false) (.cons (.b false) (.cons (.b 
  false) (.cons (.b false) (.cons (.b false) (.cons (.b false) (.cons (.b false) .nil))))))))))))))))))))))))))))))))))))))))))))))))))))))))))))))))) 65) (.cons none none (.st 65 
  (.t x3x) (.t x12x)) .nil)))))) (.seq (.seq (.reg (.cons (some x13x) none (.fad 1 (.t x1x)) (.cons (some x14x) none (.ld 1 false (.t x13x)) (.cons (some x15x) none (.len (.t 
  x14x)) (.cons (some x16x) none (.mv (.c (.n 0))) .nil))))) (.block 0 (.loop (.seq (.reg (.cons (some x17x) none (.bin .lss (.t x16x) (.t x15x)) .nil)) (.seq (.cond (.t x17x) 
  .skip (.exit 0)) (.seq (.block 1 (.seq (.reg (.cons (some x18x) none (.ixs 2 (.t x14x) (.t x16x)) (.cons (some x19x) none (.ld 2 true (.t x18x)) (.cons (some x5x) none (.alloc 66 
  (.cons (.n 0) (.cons (.n 0) .nil)) 2) (.cons none none (.st 2 (.t x5x) (.t x19x)) .nil))))) (.seq (.block 2 (.seq (.reg (.cons (some x21x) none (.ld 65 true (.t x3x)) (.cons 
  (some x22x) none (.ixa 2 1 (.t x5x) (.c (.n 0))) (.cons (some x23x) none (.ld 1 false (.t x22x)) (.cons (some x24x) none (.call 51 (.cons (.t x21x) (.cons (.t x23x) .nil))) 
  (.cons (some x25x) none (.not (.t x24x)) (.cons (some x26x) none (.mv (.t x25x)) (.cons (some x27x) (some (.mk x26x false)) (.ld 65 true (.t x3x)) (.cons (some x28x) (some (.mk 
  x26x false)) (.ixa 2 1 (.t x5x) (.c (.n 1))) (.cons (some x29x) (some (.mk x26x false)) (.ld 1 false (.t x28x)) (.cons (some x30x) (some (.mk x26x false)) (.call 51 (.cons (.t 
  x27x) (.cons (.t x29x) .nil))) (.cons (some x31x) (some (.mk x26x false)) (.not (.t x30x)) (.cons (some x32x) none (.pick (.t x26x) (.c (.b true)) (.t x31x)) (.cons (some x20x) 
  none (.mv (.t x32x)) .nil)))))))))))))) (.cond (.t x20x) (.seq (.reg (.cons (some x2x) none (.mv (.c (.n 2))) .nil)) .ret) (.seq (.reg (.cons (some x34x) none (.ixa 2 1 (.t x5x) 
  (.c (.n 0))) (.cons (some x35x) none (.ld 1 false (.t x34x)) (.cons (some x36x) none (.ixa 2 1 (.t x5x) (.c (.n 1))) (.cons (some x37x) none (.ld 1 false (.t x36x)) (.cons (some 
  x38x) none (.bin .geq (.t x35x) (.t x37x)) (.cons (some x33x) none (.mv (.t x38x)) .nil))))))) (.cond (.t x33x) (.seq (.reg (.cons (some x2x) none (.mv (.c (.n 7))) .nil)) .ret) 
  (.seq (.draw [(.mk (some x40x) none true [] false [] [] [x5x] (.ixa 2 1 (.t x5x) (.c (.n 0))) false [] [] []), (.mk (some x41x) none false [] false [true] [] [x40x] (.ld 1 false 
  (.t x40x)) false [] [] []), (.mk (some x42x) none true [] false [false, false] [] [x5x] (.ixa 2 1 (.t x5x) (.c (.n 1))) false [] [] []), (.mk (some x43x) none false [] false 
  [true, false, false] [] [x42x] (.ld 1 false (.t x42x)) false [] [] []), (.mk (some x44x) none true [] false [false, false, false, false] [] [x3x] (.fad 1 (.t x3x)) false [] [] 
  []), (.mk (some x45x) none true [] false [true, false, false, true, true] [] [x44x, x41x] (.ixa 8 8 (.t x44x) (.t x41x)) false [] [] []), (.mk (some x46x) none true [] false 
  [true, true, true, true, true, true] [] [x45x, x43x] (.ixa 8 1 (.t x45x) (.t x43x)) false [] [] []), (.mk (some x47x) none false [] false [true, true, true, true, true, true, 
  true] [] [x46x] (.ld 1 false (.t x46x)) false [] [] []), (.mk (some x39x) none true [] false [true, true, true, true, true, true, true, true] [] [x47x] (.mv (.t x47x)) false [] 
  [] [])]) (.cond (.t x39x) (.seq (.reg (.cons (some x2x) none (.mv (.c (.n 6))) .nil)) .ret) .skip))))))) (.reg (.cons (some x48x) none (.ixa 2 1 (.t x5x) (.c (.n 0))) (.cons 
  (some x49x) none (.ld 1 false (.t x48x)) (.cons (some x50x) none (.ixa 2 1 (.t x5x) (.c (.n 1))) (.cons (some x51x) none (.ld 1 false (.t x50x)) (.cons (some x52x) none (.call 52 
  (.cons (.t x3x) (.cons (.t x49x) (.cons (.t x51x) (.cons (.c (.b true)) .nil))))) .nil))))))))) (.reg (.cons (some x53x) none (.bin .add (.t x16x) (.c (.n 1))) (.cons (some x16x) 
  none (.mv (.t x53x)) .nil))))))))) (.seq (.reg (.cons (some x2x) none (.mv (.c (.n 0))) .nil)) .ret))))) [(.tmp x2x)])
theorem cc23 : compF Try.prog drops true true Try.f23 = some i23 := by kernel_rfl
noncomputable def i24 : FnI := (.mk true false (.seq (.reg (.cons (some x4x) none (.alloc 27 (.cons (.n 0) (.cons .ns .nil)) 2) .nil)) (.seq (.reg (.cons (some x5x) none (.mv (.t x0x)) (.cons (some x6x) none 
  (.mv (.t x1x)) (.cons (some x7x) none (.call 37 (.cons (.t x6x) .nil)) (.cons (some x8x) none (.build (.cons (.n 0) (.cons .ns .nil)) (.cons 0 1 (.t x5x) (.cons 1 1 (.t x7x) 
  .nil))) (.cons none none (.st 2 (.t x4x) (.t x8x)) .nil)))))) .ret)) [(.cell x4x 2 true)])
theorem cc24 : compF Try.prog drops true false Try.f24 = some i24 := by kernel_rfl
noncomputable def i25 : FnI := (.mk true true (.seq (.reg (.cons (some x2x) none (.mv (.c (.b false))) .nil)) (.seq (.reg (.cons (some x3x) none (.mv (.t x0x)) (.cons (some x4x) none (.bin .geq (.t x3x) (.c (.n 
  1))) (.cons (some x5x) none (.mv (.t x4x)) (.cons (some x6x) (some (.mk x5x true)) (.mv (.t x0x)) (.cons (some x7x) (some (.mk x5x true)) (.bin .leq (.t x6x) (.c (.n 8))) (.cons 
  (some x8x) none (.pick (.t x5x) (.t x7x) (.c (.b false))) (.cons (some x2x) none (.mv (.t x8x)) .nil)))))))) .ret)) [(.tmp x2x)])
theorem cc25 : compF Try.prog drops true true Try.f25 = some i25 := by kernel_rfl
noncomputable def i26 : FnI := (.mk true true (.seq (.reg (.cons (some x4x) none (.alloc 61 (.cons (.n 0) (.cons (.b false) (.cons (.b false) (.cons (.b false) (.cons (.b false) (.cons (.b false) (.cons (.b 
  false) (.cons (.b false) (.cons (.b false) (.cons (.b false) (.cons (.b false) (.cons (.b false) (.cons (.b false) (.cons (.b false) (.cons (.b false) (.cons (.b false) (.cons 
  (.b false) (.cons (.b false) (.cons (.b false) (.cons (.b false) (.cons (.b false) (.cons (.b false) (.cons (.b false) (.cons (.b false) (.cons (.b false) (.cons (.b false) 
  (.cons (.b false) (.cons (.b false) (.cons (.b false) (.cons (.b false) (.cons (.b false) (.cons (.b false) (.cons (.b false) (.cons (.b false) (.cons (.b false) (.cons (.b 
  false) (.cons (.b false) (.cons (.b false) (.cons (.b false) (.cons (.b false) (.cons (.b false) (.cons (.b false) (.cons (.b false) (.cons (.b false) (.cons (.b false) (.cons 
  (.b false) (.cons (.b false) (.cons (.b false) (.cons (.b false) (.cons (.b false) (.cons (.b false) (.cons (.b false) (.cons (.b false) (.cons (.b false) (.cons (.b false) 
  (.cons (.b false) (.cons (.b false) (.cons (.b false) (.cons (.b false) (.cons (.b false) (.cons (.b false) (.cons (.b false) (.cons (.b false) (.cons (.b false) (.cons (.b 
  false) .nil))))))))))))))))))))))))))))))))))))))))))))))))))))))))))))))))) 65) .nil)) (.seq (.reg (.cons (some x8x) none (.mv (.t x0x)) (.cons (some x9x) none (.build (.cons 
  (.n 0) (.cons (.b false) (.cons (.b false) (.cons (.b false) (.cons (.b false) (.cons (.b false) (.cons (.b false) (.cons (.b false) (.cons (.b false) (.cons (.b false) (.cons 
  (.b false) (.cons (.b false) (.cons (.b false) (.cons (.b false) (.cons (.b false) (.cons (.b false) (.cons (.b false) (.cons (.b false) (.cons (.b false) (.cons (.b false) 
  (.cons (.b false) (.cons (.b false) (.cons (.b false) (.cons (.b false) (.cons (.b false) (.cons (.b false) (.cons (.b false) (.cons (.b false) (.cons (.b false) (.cons (.b 
  false) (.cons (.b false) (.cons (.b false) (.cons (.b false) (.cons (.b false) (.cons (.b false) (.cons (.b false) (.cons (.b false) (.cons (.b false) (.cons (.b false) (.cons 
  (.b false) (.cons (.b false) (.cons (.b false) (.cons (.b false) (.cons (.b false) (.cons (.b false) (.cons (.b false) (.cons (.b false) (.cons (.b false) (.cons (.b false) 
  (.cons (.b false) (.cons (.b false) (.cons (.b false) (.cons (.b false) (.cons (.b false) (.cons (.b false) (.cons (.b false) (.cons (.b false) (.cons (.b false) (.cons (.b 
  false) (.cons (.b false) (.cons (.b false) (.cons (.b false) (.cons (.b false) (.cons (.b false) (.cons (.b false) 
  .nil))))))))))))))))))))))))))))))))))))))))))))))))))))))))))))))))) (.cons 0 1 (.t x8x) .nil)) (.cons (some x5x) none (.alloc 61 (.cons (.n 0) (.cons (.b false) (.cons (.b 
  false) (.cons (.b false) (.cons (.b false) (.cons (.b false) (.cons (.b false) (.cons (.b false) (.cons (.b false) (.cons (.b false) (.cons (.b false) (.cons (.b false) (.cons 
  (.b false) (.cons (.b false) (.cons (.b false) (.cons (.b false) (.cons (.b false) (.cons (.b false) (.cons (.b false) (.cons (.b false) (.cons (.b false) (.cons (.b false) 
  (.cons (.b false) (.cons (.b false) (.cons (.b false) (.cons (.b false) (.cons (.b false) (.cons (.b false) (.cons (.b false) (.cons (.b false) (.cons (.b false) (.cons (.b 
  false) (.cons (.b false) (.cons (.b false) (.cons (.b false) (.cons (.b false) (.cons (.b false) (.cons (.b false) (.cons (.b false) (.cons (.b false) (.cons (.b false) (.cons 
  (.b false) (.cons (.b false) (.cons (.b false) (.cons (.b false) (.cons (.b false) (.cons (.b false) (.cons (.b false) (.cons (.b false) (.cons (.b false) (.cons (.b false) 
  (.cons (.b false) (.cons (.b false) (.cons (.b false) (.cons (.b false) (.cons (.b false) (.cons (.b false) (.cons (.b false) (.cons (.b false) (.cons (.b false) (.cons (.b 
  false) (.cons (.b false) (.cons (.b false) (.cons (.b false) (.cons (.b false) .nil))))))))))))))))))))))))))))))))))))))))))))))))))))))))))))))))) 65) (.cons none none (.st 65 
  (.t x5x) (.t x9x)) .nil))))) (.seq (.seq (.reg (.cons (some x10x) none (.mv (.t x0x)) (.cons (some x11x) none (.mv (.c (.n 0))) .nil))) (.block 0 (.loop (.seq (.reg (.cons (some 
  x12x) none (.bin .lss (.t x11x) (.t x10x)) .nil)) (.seq (.cond (.t x12x) .skip (.exit 0)) (.seq (.block 1 (.seq (.reg (.cons (some x13x) none (.mv (.t x11x)) (.cons (some x6x) 
  none (.mv (.t x13x)) .nil))) (.seq (.reg (.cons (some x14x) none (.mv (.t x6x)) (.cons (some x15x) none (.mv (.c (.n 0))) .nil))) (.block 2 (.loop (.seq (.reg (.cons (some x16x) 
  none (.bin .lss (.t x15x) (.t x14x)) .nil)) (.seq (.cond (.t x16x) .skip (.exit 2)) (.seq (.block 3 (.seq (.reg (.cons (some x17x) none (.mv (.t x15x)) (.cons (some x7x) none 
  (.mv (.t x17x)) .nil))) (.draw [(.mk (some x18x) none true [] false [] [] [x6x] (.mv (.t x6x)) false [] [] []), (.mk (some x19x) none true [] false [false] [] [x7x] (.mv (.t 
  x7x)) false [] [] []), (.mk (some x20x) none true [] false [false, false] [] [x6x] (.mv (.t x6x)) false [] [] []), (.mk (some x21x) none true [] false [false, false, false] [] 
  [x1x] (.mv (.t x1x)) false [] [] []), (.mk (some x22x) none true [] false [true, true, false, false] [] [x20x, x21x] (.bin .rem (.t x20x) (.t x21x)) false [] [] []), (.mk (some 
  x23x) none true [] false [false, false, false, false, false] [] [x7x] (.mv (.t x7x)) false [] [] []), (.mk (some x24x) none true [] false [false, false, false, false, false, 
  false] [] [x1x] (.mv (.t x1x)) false [] [] []), (.mk (some x25x) none true [] false [true, true, false, false, false, false, false] [] [x23x, x24x] (.bin .rem (.t x23x) (.t 
  x24x)) false [] [] []), (.mk (some x26x) none true [] false [true, true, true, true, true, true, false, false] [] [x22x, x25x] (.bin .neq (.t x22x) (.t x25x)) false [] [] []), 
  (.mk (some x27x) none true [] false [] [] [] (.call 52 (.cons (.t x5x) (.cons (.t x18x) (.cons (.t x19x) (.cons (.t x26x) .nil))))) true [] [] [])]))) (.reg (.cons (some x28x) 
  none (.bin .add (.t x15x) (.c (.n 1))) (.cons (some x15x) none (.mv (.t x28x)) .nil))))))))))) (.reg (.cons (some x29x) none (.bin .add (.t x11x) (.c (.n 1))) (.cons (some x11x) 
  none (.mv (.t x29x)) .nil))))))))) (.seq (.reg (.cons (some x30x) none (.ld 65 true (.t x5x)) (.cons none none (.st 65 (.t x4x) (.t x30x)) .nil))) .ret)))) [(.cell x4x 65 true)])
theorem cc26 : compF Try.prog drops true true Try.f26 = some i26 := by kernel_rfl
noncomputable def i27 : FnI := (.mk true true (.seq (.reg (.cons (some x1x) none (.box 61 (.t x0x)) (.cons (some x2x) none (.mv (.c (.n 0))) .nil))) (.seq (.reg (.cons (some x3x) none (.ld 65 true (.t x1x)) 
  (.cons (some x4x) none (.call 30 (.cons (.t x3x) .nil)) (.cons (some x5x) none (.part 1 1 false (.t x4x)) (.cons (some x6x) none (.len (.t x5x)) (.cons (some x2x) none (.mv (.t 
  x6x)) .nil)))))) .ret)) [(.tmp x2x)])
theorem cc27 : compF Try.prog drops true true Try.f27 = some i27 := by kernel_rfl
noncomputable def i28 : FnI := (.mk true true (.seq (.reg (.cons (some x6x) none (.mv (.c (.b false))) .nil)) (.seq (.reg (.cons (some x7x) none (.mv (.t x0x)) (.cons (some x8x) none (.mv (.t x1x)) (.cons (some 
  x9x) none (.bin .geq (.t x7x) (.t x8x)) (.cons (some x10x) none (.mv (.t x9x)) (.cons (some x11x) (some (.mk x10x true)) (.mv (.t x0x)) (.cons (some x12x) (some (.mk x10x true)) 
  (.mv (.t x2x)) (.cons (some x13x) (some (.mk x10x true)) (.bin .leq (.t x11x) (.t x12x)) (.cons (some x14x) none (.pick (.t x10x) (.t x13x) (.c (.b false))) (.cons (some x6x) 
  none (.mv (.t x14x)) .nil)))))))))) .ret)) [(.tmp x6x)])
theorem cc28 : compF Try.prog drops true true Try.f28 = some i28 := by kernel_rfl
noncomputable def i29 : FnI := (.mk true false (.seq (.reg (.cons (some x4x) none (.alloc 30 (.cons (.n 0) (.cons .ns .nil)) 2) .nil)) (.seq (.reg (.cons (some x8x) none (.mv (.t x0x)) (.cons (some x9x) none 
  (.build (.cons (.n 0) (.cons .ns .nil)) (.cons 0 1 (.t x8x) .nil)) (.cons (some x5x) none (.alloc 30 (.cons (.n 0) (.cons .ns .nil)) 2) (.cons none none (.st 2 (.t x5x) (.t x9x)) 
  .nil))))) (.seq (.seq (.reg (.cons (some x6x) none (.mv (.c (.n 0))) .nil)) (.block 0 (.loop (.seq (.seq (.reg (.cons (some x10x) none (.mv (.t x6x)) (.cons (some x11x) none (.mv 
  (.t x0x)) (.cons (some x12x) none (.bin .lss (.t x10x) (.t x11x)) .nil)))) (.cond (.t x12x) .skip (.exit 0))) (.seq (.block 1 (.seq (.reg (.cons (some x15x) none (.mv (.t x6x)) 
  (.cons (some x16x) none (.bin .add (.t x15x) (.c (.n 1))) (.cons (some x7x) none (.mv (.t x16x)) .nil)))) (.block 2 (.loop (.seq (.seq (.reg (.cons (some x17x) none (.mv (.t 
  x7x)) (.cons (some x18x) none (.mv (.t x0x)) (.cons (some x19x) none (.bin .lss (.t x17x) (.t x18x)) .nil)))) (.cond (.t x19x) .skip (.exit 2))) (.seq (.block 3 (.seq (.draw 
  [(.mk (some x22x) none true [] false [] [] [x6x] (.mv (.t x6x)) false [] [] []), (.mk (some x23x) none true [] false [false] [] [x1x] (.mv (.t x1x)) false [] [] []), (.mk (some 
  x24x) none true [] false [true, true] [] [x22x, x23x] (.bin .rem (.t x22x) (.t x23x)) false [] [] []), (.mk (some x25x) none true [] false [false, false, false] [] [x7x] (.mv (.t 
  x7x)) false [] [] []), (.mk (some x26x) none true [] false [false, false, false, false] [] [x1x] (.mv (.t x1x)) false [] [] []), (.mk (some x27x) none true [] false [true, true, 
  false, false, false] [] [x25x, x26x] (.bin .rem (.t x25x) (.t x26x)) false [] [] []), (.mk (some x28x) none true [] false [true, true, true, true, true, true] [] [x24x, x27x] 
  (.bin .neq (.t x24x) (.t x27x)) false [] [] [])]) (.cond (.t x28x) (.reg (.cons (some x29x) none (.fad 1 (.t x5x)) (.cons (some x30x) none (.ld 1 false (.t x29x)) (.cons (some 
  x31x) none (.mv (.t x6x)) (.cons (some x32x) none (.mv (.t x7x)) (.cons (some x33x) none (.build (.cons (.n 0) (.cons (.n 0) .nil)) (.cons 0 1 (.t x31x) (.cons 1 1 (.t x32x) 
  .nil))) (.cons (some x34x) none (.bsl 66 2 1 (.cons (.n 0) (.cons (.n 0) .nil)) (.cons 0 2 (.t x33x) .nil)) (.cons (some x35x) none (.app 66 2 16 (.t x30x) (.t x34x)) (.cons 
  (some x36x) none (.fad 1 (.t x5x)) (.cons none none (.st 1 (.t x36x) (.t x35x)) .nil)))))))))) .skip))) (.reg (.cons (some x20x) none (.mv (.t x7x)) (.cons (some x21x) none (.bin 
  .add (.t x20x) (.c (.n 1))) (.cons (some x7x) none (.mv (.t x21x)) .nil)))))))))) (.reg (.cons (some x13x) none (.mv (.t x6x)) (.cons (some x14x) none (.bin .add (.t x13x) (.c 
  (.n 1))) (.cons (some x6x) none (.mv (.t x14x)) .nil))))))))) (.seq (.reg (.cons (some x37x) none (.ld 2 true (.t x5x)) (.cons none none (.st 2 (.t x4x) (.t x37x)) .nil))) 
  .ret)))) [(.cell x4x 2 true)])
theorem cc29 : compF Try.prog drops true false Try.f29 = some i29 := by kernel_rfl
noncomputable def i30 : FnI := (.mk true false (.seq (.reg (.cons (some x1x) none (.box 61 (.t x0x)) (.cons (some x2x) none (.alloc 27 (.cons (.n 0) (.cons .ns .nil)) 2) .nil))) (.seq (.reg (.cons (some x6x) 
  none (.fad 0 (.t x1x)) (.cons (some x7x) none (.ld 1 false (.t x6x)) (.cons (some x8x) none (.build (.cons (.n 0) (.cons .ns .nil)) (.cons 0 1 (.t x7x) .nil)) (.cons (some x3x) 
  none (.alloc 27 (.cons (.n 0) (.cons .ns .nil)) 2) (.cons none none (.st 2 (.t x3x) (.t x8x)) .nil)))))) (.seq (.seq (.reg (.cons (some x9x) none (.fad 0 (.t x1x)) (.cons (some 
  x10x) none (.ld 1 false (.t x9x)) (.cons (some x11x) none (.mv (.c (.n 0))) .nil)))) (.block 0 (.loop (.seq (.reg (.cons (some x12x) none (.bin .lss (.t x11x) (.t x10x)) .nil)) 
  (.seq (.cond (.t x12x) .skip (.exit 0)) (.seq (.block 1 (.seq (.reg (.cons (some x13x) none (.mv (.t x11x)) (.cons (some x4x) none (.mv (.t x13x)) .nil))) (.seq (.reg (.cons 
  (some x14x) none (.mv (.t x4x)) (.cons (some x15x) none (.bin .add (.t x14x) (.c (.n 1))) (.cons (some x5x) none (.mv (.t x15x)) .nil)))) (.block 2 (.loop (.seq (.seq (.reg 
  (.cons (some x16x) none (.mv (.t x5x)) (.cons (some x17x) none (.fad 0 (.t x1x)) (.cons (some x18x) none (.ld 1 false (.t x17x)) (.cons (some x19x) none (.bin .lss (.t x16x) (.t 
  x18x)) .nil))))) (.cond (.t x19x) .skip (.exit 2))) (.seq (.block 3 (.seq (.reg (.cons (some x22x) none (.mv (.t x4x)) (.cons (some x23x) none (.mv (.t x5x)) (.cons (some x24x) 
  none (.fad 1 (.t x1x)) (.cons (some x25x) none (.ixa 8 8 (.t x24x) (.t x22x)) (.cons (some x26x) none (.ixa 8 1 (.t x25x) (.t x23x)) (.cons (some x27x) none (.ld 1 false (.t 
  x26x)) .nil))))))) (.cond (.t x27x) (.reg (.cons (some x28x) none (.fad 1 (.t x3x)) (.cons (some x29x) none (.ld 1 false (.t x28x)) (.cons (some x30x) none (.mv (.t x4x)) (.cons 
  (some x31x) none (.mv (.t x5x)) (.cons (some x32x) none (.build (.cons (.n 0) (.cons (.n 0) .nil)) (.cons 0 1 (.t x30x) (.cons 1 1 (.t x31x) .nil))) (.cons (some x33x) none (.bsl 
  66 2 1 (.cons (.n 0) (.cons (.n 0) .nil)) (.cons 0 2 (.t x32x) .nil)) (.cons (some x34x) none (.app 66 2 16 (.t x29x) (.t x33x)) (.cons (some x35x) none (.fad 1 (.t x3x)) (.cons 
  none none (.st 1 (.t x35x) (.t x34x)) .nil)))))))))) .skip))) (.reg (.cons (some x20x) none (.mv (.t x5x)) (.cons (some x21x) none (.bin .add (.t x20x) (.c (.n 1))) (.cons (some 
  x5x) none (.mv (.t x21x)) .nil))))))))))) (.reg (.cons (some x36x) none (.bin .add (.t x11x) (.c (.n 1))) (.cons (some x11x) none (.mv (.t x36x)) .nil))))))))) (.seq (.reg (.cons 
  (some x37x) none (.ld 2 true (.t x3x)) (.cons none none (.st 2 (.t x2x) (.t x37x)) .nil))) .ret)))) [(.cell x2x 2 true)])
theorem cc30 : compF Try.prog drops true false Try.f30 = some i30 := by kernel_rfl
noncomputable def i31 : FnI := (.mk true false (.seq (.reg (.cons (some x1x) none (.box 27 (.t x0x)) (.cons (some x2x) none (.mv (.c .ns)) (.cons (some x3x) none (.mv (.c (.n 0))) .nil)))) (.seq (.seq (.reg 
  (.cons (some x8x) none (.ld 2 true (.t x1x)) (.cons (some x9x) none (.call 23 (.cons (.t x8x) .nil)) (.cons (some x4x) none (.mv (.t x9x)) .nil)))) (.seq (.reg (.cons (some x10x) 
  none (.mv (.t x4x)) (.cons (some x11x) none (.bin .neq (.t x10x) (.c (.n 0))) .nil))) (.cond (.t x11x) (.seq (.reg (.cons (some x12x) none (.mv (.t x4x)) (.cons (some x2x) none 
  (.mv (.c .ns)) (.cons (some x3x) none (.mv (.t x12x)) .nil)))) .ret) .skip))) (.seq (.reg (.cons (some x13x) none (.ld 2 true (.t x1x)) (.cons (some x14x) none (.call 45 (.cons 
  (.t x13x) .nil)) (.cons (some x5x) none (.alloc 61 (.cons (.n 0) (.cons (.b false) (.cons (.b false) (.cons (.b false) (.cons (.b false) (.cons (.b false) (.cons (.b false) 
  (.cons (.b false) (.cons (.b false) (.cons (.b false) (.cons (.b false) (.cons (.b false) (.cons (.b false) (.cons (.b false) (.cons (.b false) (.cons (.b false) (.cons (.b 
  false) (.cons (.b false) (.cons (.b false) (.cons (.b false) (.cons (.b false) (.cons (.b false) (.cons (.b false) (.cons (.b false) (.cons (.b false) (.cons (.b false) (.cons 
  (.b false) (.cons (.b false) (.cons (.b false) (.cons (.b false) (.cons (.b false) (.cons (.b false) (.cons (.b false) (.cons (.b false) (.cons (.b false) (.cons (.b false) 
  (.cons (.b false) (.cons (.b false) (.cons (.b false) (.cons (.b false) (.cons (.b false) (.cons (.b false) (.cons (.b false) (.cons (.b false) (.cons (.b false) (.cons (.b 
  false) (.cons (.b false) (.cons (.b false) (.cons (.b false) (.cons (.b false) (.cons (.b false) (.cons (.b false) (.cons (.b false) (.cons (.b false) (.cons (.b false) (.cons 
  (.b false) (.cons (.b false) (.cons (.b false) (.cons (.b false) (.cons (.b false) (.cons (.b false) (.cons (.b false) (.cons (.b false) (.cons (.b false) (.cons (.b false) 
  .nil))))))))))))))))))))))))))))))))))))))))))))))))))))))))))))))))) 65) (.cons none none (.st 65 (.t x5x) (.t x14x)) .nil))))) (.seq (.reg (.cons (some x15x) none (.fad 0 (.t 
  x1x)) (.cons (some x16x) none (.ld 1 false (.t x15x)) (.cons (some x17x) none (.mks 3 1 8 1 (.cons (.n 0) .nil) (.t x16x) (.t x16x)) (.cons (some x6x) none (.mv (.t x17x)) 
  .nil))))) (.seq (.seq (.reg (.cons (some x18x) none (.mv (.t x6x)) (.cons (some x19x) none (.len (.t x18x)) (.cons (some x20x) none (.mv (.c (.n 0))) .nil)))) (.block 0 (.loop 
  (.seq (.reg (.cons (some x21x) none (.bin .lss (.t x20x) (.t x19x)) .nil)) (.seq (.cond (.t x21x) .skip (.exit 0)) (.seq (.block 1 (.seq (.reg (.cons (some x22x) none (.mv (.t 
  x20x)) (.cons (some x7x) none (.mv (.t x22x)) .nil))) (.reg (.cons (some x23x) none (.mv (.t x6x)) (.cons (some x24x) none (.mv (.t x7x)) (.cons (some x25x) none (.ld 65 true (.t 
  x5x)) (.cons (some x26x) none (.mv (.t x7x)) (.cons (some x27x) none (.call 53 (.cons (.t x25x) (.cons (.t x26x) .nil))) (.cons (some x28x) none (.ixs 1 (.t x23x) (.t x24x)) 
  (.cons none none (.st 1 (.t x28x) (.t x27x)) .nil)))))))))) (.reg (.cons (some x29x) none (.bin .add (.t x20x) (.c (.n 1))) (.cons (some x20x) none (.mv (.t x29x)) .nil))))))))) 
  (.seq (.reg (.cons (some x30x) none (.mv (.t x6x)) (.cons (some x2x) none (.mv (.t x30x)) (.cons (some x3x) none (.mv (.c (.n 0))) .nil)))) .ret)))))) [(.tmp x2x), (.tmp x3x)])
theorem cc31 : compF Try.prog drops true false Try.f31 = some i31 := by kernel_rfl
noncomputable def i32 : FnI := (.mk true false (.seq (.reg (.cons (some x3x) none (.box 27 (.t x0x)) (.cons (some x6x) none (.alloc 27 (.cons (.n 0) (.cons .ns .nil)) 2) (.cons (some x7x) none (.mv (.c (.n 0))) 
  .nil)))) (.seq (.seq (.reg (.cons (some x11x) none (.ld 2 true (.t x3x)) (.cons (some x12x) none (.call 23 (.cons (.t x11x) .nil)) (.cons (some x8x) none (.mv (.t x12x)) .nil)))) 
  (.seq (.reg (.cons (some x13x) none (.mv (.t x8x)) (.cons (some x14x) none (.bin .neq (.t x13x) (.c (.n 0))) .nil))) (.cond (.t x14x) (.seq (.reg (.cons (some x15x) none (.build 
  (.cons (.n 0) (.cons .ns .nil)) .nil) (.cons (some x16x) none (.mv (.t x8x)) (.cons none none (.st 2 (.t x6x) (.t x15x)) (.cons (some x7x) none (.mv (.t x16x)) .nil))))) .ret) 
  .skip))) (.seq (.reg (.cons (some x17x) none (.ld 2 true (.t x3x)) (.cons (some x18x) none (.call 45 (.cons (.t x17x) .nil)) (.cons (some x9x) none (.alloc 61 (.cons (.n 0) 
  (.cons (.b false) (.cons (.b false) (.cons (.b false) (.cons (.b false) (.cons (.b false) (.cons (.b false) (.cons (.b false) (.cons (.b false) (.cons (.b false) (.cons (.b 
  false) (.cons (.b false) (.cons (.b false) (.cons (.b false) (.cons (.b false) (.cons (.b false) (.cons (.b false) (.cons (.b false) (.cons (.b false) (.cons (.b false) (.cons 
  (.b false) (.cons (.b false) (.cons (.b false) (.cons (.b false) (.cons (.b false) (.cons (.b false) (.cons (.b false) (.cons (.b false) (.cons (.b false) (.cons (.b false) 
  (.cons (.b false) (.cons (.b false) (.cons (.b false) (.cons (.b false) (.cons (.b false) (.cons (.b false) (.cons (.b false) (.cons (.b false) (.cons (.b false) (.cons (.b 
  false) (.cons (.b false) (.cons (.b false) (.cons (.b false) (.cons (.b false) (.cons (.b false) (.cons (.b false) (.cons (.b false) (.cons (.b false) (.cons (.b false) (.cons 
  (.b false) (.cons (.b false) (.cons (.b false) (.cons (.b false) (.cons (.b false) (.cons (.b false) (.cons (.b false) (.cons (.b false) (.cons (.b false) (.cons (.b false) 
  (.cons (.b false) (.cons (.b false) (.cons (.b false) (.cons (.b false) (.cons (.b false) (.cons (.b false) .nil))))))))))))))))))))))))))))))))))))))))))))))))))))))))))))))))) 
  65) (.cons none none (.st 65 (.t x9x) (.t x18x)) .nil))))) (.seq (.seq (.reg (.cons (some x19x) none (.ld 65 true (.t x9x)) (.cons (some x20x) none (.mv (.t x1x)) (.cons (some 
  x21x) none (.mv (.t x2x)) (.cons (some x22x) none (.call 54 (.cons (.t x19x) (.cons (.t x20x) (.cons (.t x21x) .nil)))) (.cons (some x10x) none (.mv (.t x22x)) .nil)))))) (.seq 
  (.reg (.cons (some x23x) none (.mv (.t x10x)) (.cons (some x24x) none (.bin .neq (.t x23x) (.c (.n 0))) .nil))) (.cond (.t x24x) (.seq (.reg (.cons (some x25x) none (.build 
  (.cons (.n 0) (.cons .ns .nil)) .nil) (.cons (some x26x) none (.mv (.t x10x)) (.cons none none (.st 2 (.t x6x) (.t x25x)) (.cons (some x7x) none (.mv (.t x26x)) .nil))))) .ret) 
  .skip))) (.seq (.reg (.cons (some x27x) none (.mv (.t x1x)) (.cons (some x28x) none (.mv (.t x2x)) (.cons (some x29x) none (.call 55 (.cons (.t x9x) (.cons (.t x27x) (.cons (.t 
  x28x) .nil)))) .nil)))) (.seq (.reg (.cons (some x30x) none (.ld 65 true (.t x9x)) (.cons (some x31x) none (.call 30 (.cons (.t x30x) .nil)) (.cons none none (.st 2 (.t x6x) (.t 
  x31x)) (.cons (some x7x) none (.mv (.c (.n 0))) .nil))))) .ret)))))) [(.cell x6x 2 true), (.tmp x7x)])
theorem cc32 : compF Try.prog drops true false Try.f32 = some i32 := by kernel_rfl
noncomputable def i33 : FnI := (.mk true true (.seq (.reg (.cons (some x1x) none (.box 27 (.t x0x)) (.cons (some x2x) none (.mv (.c (.n 0))) (.cons (some x3x) none (.mv (.c (.n 0))) (.cons (some x4x) none (.mv 
  (.c (.n 0))) (.cons (some x5x) none (.mv (.c (.n 0))) .nil)))))) (.seq (.seq (.reg (.cons (some x8x) none (.ld 2 true (.t x1x)) (.cons (some x9x) none (.call 23 (.cons (.t x8x) 
  .nil)) (.cons (some x5x) none (.mv (.t x9x)) .nil)))) (.seq (.reg (.cons (some x10x) none (.mv (.t x5x)) (.cons (some x11x) none (.bin .neq (.t x10x) (.c (.n 0))) .nil))) (.cond 
  (.t x11x) (.seq (.reg (.cons (some x12x) none (.mv (.t x5x)) (.cons (some x2x) none (.mv (.c (.n 0))) (.cons (some x3x) none (.mv (.c (.n 0))) (.cons (some x4x) none (.mv (.c (.n 
  0))) (.cons (some x5x) none (.mv (.t x12x)) .nil)))))) .ret) .skip))) (.seq (.seq (.reg (.cons (some x14x) none (.ld 2 true (.t x1x)) (.cons (some x15x) none (.call 45 (.cons (.t 
  x14x) .nil)) (.cons (some x16x) none (.call 49 (.cons (.t x15x) .nil)) (.cons (some x13x) none (.mv (.t x16x)) (.cons (some x17x) none (.ext 0 (.t x13x)) (.cons (some x18x) none 
  (.ext 1 (.t x13x)) (.cons (some x6x) none (.alloc 83 (.cons (.n 0) (.cons (.n 0) (.cons (.n 0) .nil))) 3) (.cons none none (.st 3 (.t x6x) (.t x17x)) (.cons (some x7x) none (.mv 
  (.t x18x)) .nil)))))))))) (.seq (.reg (.cons (some x19x) none (.mv (.t x7x)) .nil)) (.cond (.t x19x) (.seq (.draw [(.mk (some x20x) none true [] false [] [] [x6x] (.ixa 3 1 (.t 
  x6x) (.c (.n 0))) false [] [] []), (.mk (some x21x) none false [] false [true] [] [x20x] (.ld 1 false (.t x20x)) false [] [] []), (.mk (some x22x) none true [] false [false, 
  false] [] [x6x] (.ixa 3 1 (.t x6x) (.c (.n 1))) false [] [] []), (.mk (some x23x) none false [] false [true, false, false] [] [x22x] (.ld 1 false (.t x22x)) false [] [] []), (.mk 
  (some x24x) none true [] false [false, false, false, false] [] [x6x] (.ixa 3 1 (.t x6x) (.c (.n 2))) false [] [] []), (.mk (some x25x) none false [] false [true, false, false, 
  false, false] [] [x24x] (.ld 1 false (.t x24x)) false [] [] []), (.mk (some x2x) none true [] false [false, false, false, false, true, true] [] [x21x] (.mv (.t x21x)) false [] [] 
  []), (.mk (some x3x) none true [] false [true, false, false, true, true, true, true] [] [x23x] (.mv (.t x23x)) false [] [] []), (.mk (some x4x) none true [] false [true, true, 
  true, true, true, true, true, true] [] [x25x] (.mv (.t x25x)) false [] [] []), (.mk (some x5x) none true [] false [true, true, true, true, true, true, true, true, true] [] [] 
  (.mv (.c (.n 14))) false [] [] [])]) .ret) .skip))) (.seq (.reg (.cons (some x2x) none (.mv (.c (.n 0))) (.cons (some x3x) none (.mv (.c (.n 0))) (.cons (some x4x) none (.mv (.c 
  (.n 0))) (.cons (some x5x) none (.mv (.c (.n 0))) .nil))))) .ret)))) [(.tmp x2x), (.tmp x3x), (.tmp x4x), (.tmp x5x)])
theorem cc33 : compF Try.prog drops true true Try.f33 = some i33 := by kernel_rfl
noncomputable def i34 : FnI := (.mk true false (.seq (.reg (.cons (some x1x) none (.box 27 (.t x0x)) (.cons (some x2x) none (.mv (.c .ns)) (.cons (some x3x) none (.mv (.c (.n 0))) .nil)))) (.seq (.seq (.reg 
  (.cons (some x5x) none (.ld 2 true (.t x1x)) (.cons (some x6x) none (.call 23 (.cons (.t x5x) .nil)) (.cons (some x4x) none (.mv (.t x6x)) .nil)))) (.seq (.reg (.cons (some x7x) 
  none (.mv (.t x4x)) (.cons (some x8x) none (.bin .neq (.t x7x) (.c (.n 0))) .nil))) (.cond (.t x8x) (.seq (.reg (.cons (some x9x) none (.mv (.t x4x)) (.cons (some x2x) none (.mv 
  (.c .ns)) (.cons (some x3x) none (.mv (.t x9x)) .nil)))) .ret) .skip))) (.seq (.reg (.cons (some x10x) none (.ld 2 true (.t x1x)) (.cons (some x11x) none (.call 45 (.cons (.t 
  x10x) .nil)) (.cons (some x12x) none (.call 56 (.cons (.t x11x) .nil)) (.cons (some x2x) none (.mv (.t x12x)) (.cons (some x3x) none (.mv (.c (.n 0))) .nil)))))) .ret))) [(.tmp 
  x2x), (.tmp x3x)])
theorem cc34 : compF Try.prog drops true false Try.f34 = some i34 := by kernel_rfl
noncomputable def i35 : FnI := (.mk true true (.seq (.reg (.cons (some x4x) none (.mv (.c (.b false))) .nil)) (.seq (.seq (.reg (.cons (some x6x) none (.mv (.t x0x)) (.cons (some x7x) none (.len (.t x6x)) (.cons 
  (some x8x) none (.mv (.t x1x)) (.cons (some x9x) none (.len (.t x8x)) (.cons (some x10x) none (.bin .neq (.t x7x) (.t x9x)) .nil)))))) (.cond (.t x10x) (.seq (.reg (.cons (some 
  x4x) none (.mv (.c (.b false))) .nil)) .ret) .skip)) (.seq (.seq (.reg (.cons (some x5x) none (.mv (.c (.n 0))) .nil)) (.block 0 (.loop (.seq (.seq (.reg (.cons (some x11x) none 
  (.mv (.t x5x)) (.cons (some x12x) none (.mv (.t x0x)) (.cons (some x13x) none (.len (.t x12x)) (.cons (some x14x) none (.bin .lss (.t x11x) (.t x13x)) .nil))))) (.cond (.t x14x) 
  .skip (.exit 0))) (.seq (.block 1 (.seq (.draw [(.mk (some x17x) none true [] false [] [] [x0x] (.mv (.t x0x)) false [] [] []), (.mk (some x18x) none true [] false [false] [] 
  [x5x] (.mv (.t x5x)) false [] [] []), (.mk (some x19x) none true [] false [true, true] [] [x17x, x18x] (.ixs 1 (.t x17x) (.t x18x)) false [] [] []), (.mk (some x20x) none false 
  [] false [true, true, true] [] [x19x] (.ld 1 false (.t x19x)) false [] [] []), (.mk (some x21x) none true [] false [false, false, false, false] [] [x1x] (.mv (.t x1x)) false [] 
  [] []), (.mk (some x22x) none true [] false [false, false, false, false, false] [] [x5x] (.mv (.t x5x)) false [] [] []), (.mk (some x23x) none true [] false [true, true, false, 
  false, false, false] [] [x21x, x22x] (.ixs 1 (.t x21x) (.t x22x)) false [] [] []), (.mk (some x24x) none false [] false [true, true, true, false, false, false, false] [] [x23x] 
  (.ld 1 false (.t x23x)) false [] [] []), (.mk (some x25x) none false [] false [true, true, true, true, true, true, true, true] [] [x20x, x24x] (.call 21 (.cons (.t x20x) (.cons 
  (.t x24x) .nil))) false [] [] []), (.mk (some x26x) none true [] false [true, true, true, true, true, true, true, true, true] [] [x25x] (.not (.t x25x)) false [] [] [])]) (.cond 
  (.t x26x) (.seq (.reg (.cons (some x4x) none (.mv (.c (.b false))) .nil)) .ret) .skip))) (.reg (.cons (some x15x) none (.mv (.t x5x)) (.cons (some x16x) none (.bin .add (.t x15x) 
  (.c (.n 1))) (.cons (some x5x) none (.mv (.t x16x)) .nil))))))))) (.seq (.reg (.cons (some x4x) none (.mv (.c (.b true))) .nil)) .ret)))) [(.tmp x4x)])
theorem cc35 : compF Try.prog drops true true Try.f35 = some i35 := by kernel_rfl
noncomputable def i36 : FnI := (.mk true false (.seq (.reg (.cons (some x2x) none (.mv (.c .ns)) .nil)) (.seq (.reg (.cons (some x3x) none (.mv (.t x0x)) (.cons (some x2x) none (.mv (.t x3x)) .nil))) .ret)) 
  [(.tmp x2x)])
theorem cc36 : compF Try.prog drops true false Try.f36 = some i36 := by kernel_rfl
noncomputable def i37 : FnI := (.mk true false (.seq (.reg (.cons (some x2x) none (.mv (.c .ns)) .nil)) (.seq (.reg (.cons (some x3x) none (.mv (.c .ns)) .nil)) (.seq (.seq (.reg (.cons (some x4x) none (.mv (.c 
  (.n 0))) .nil)) (.block 0 (.loop (.seq (.seq (.reg (.cons (some x5x) none (.mv (.t x4x)) (.cons (some x6x) none (.bin .add (.t x5x) (.c (.n 1))) (.cons (some x7x) none (.mv (.t 
  x0x)) (.cons (some x8x) none (.len (.t x7x)) (.cons (some x9x) none (.bin .lss (.t x6x) (.t x8x)) .nil)))))) (.cond (.t x9x) .skip (.exit 0))) (.seq (.block 1 (.draw [(.mk (some 
  x12x) none true [] false [] [] [x3x] (.mv (.t x3x)) false [] [] []), (.mk (some x13x) none true [] false [false] [] [x0x] (.mv (.t x0x)) false [] [] []), (.mk (some x14x) none 
  true [] false [false, false] [] [x4x] (.mv (.t x4x)) false [] [] []), (.mk (some x15x) none true [] false [true, true, false] [] [x13x, x14x] (.ixs 1 (.t x13x) (.t x14x)) false 
  [] [] []), (.mk (some x16x) none false [] false [true, true, true, false] [] [x15x] (.ld 1 false (.t x15x)) false [] [] []), (.mk (some x17x) none true [] false [false, false, 
  false, false, false] [] [x0x] (.mv (.t x0x)) false [] [] []), (.mk (some x18x) none true [] false [false, false, false, false, false, false] [] [x4x] (.mv (.t x4x)) false [] [] 
  []), (.mk (some x19x) none true [] false [true, false, false, false, false, false, false] [] [x18x] (.bin .add (.t x18x) (.c (.n 1))) false [] [] []), (.mk (some x20x) none true 
  [] false [true, true, true, false, false, false, false, false] [] [x17x, x19x] (.ixs 1 (.t x17x) (.t x19x)) false [] [] []), (.mk (some x21x) none false [] false [true, true, 
  true, true, false, false, false, false, false] [] [x20x] (.ld 1 false (.t x20x)) false [] [] []), (.mk (some x22x) none true [] false [true, true, true, true, true, true, true, 
  true, true, false] [] [x16x, x21x] (.build (.cons (.n 0) (.cons (.n 0) .nil)) (.cons 0 1 (.t x16x) (.cons 1 1 (.t x21x) .nil))) false [] [] []), (.mk (some x23x) none true [] 
  true [true, true, true, true, true, true, true, true, true, true, false] [] [x22x] (.bsl 66 2 1 (.cons (.n 0) (.cons (.n 0) .nil)) (.cons 0 2 (.t x22x) .nil)) false [] [] []), 
  (.mk (some x24x) none false [x12x, x23x] true [true, true, true, true, true, true, true, true, true, true, true, true] [] [x12x, x23x] (.app 66 2 16 (.t x12x) (.t x23x)) false [] 
  [] []), (.mk (some x3x) none true [] false [true, true, true, true, true, true, true, true, true, true, true, true, true] [] [x24x] (.mv (.t x24x)) false [] [] [])])) (.reg 
  (.cons (some x10x) none (.mv (.t x4x)) (.cons (some x11x) none (.bin .add (.t x10x) (.c (.n 2))) (.cons (some x4x) none (.mv (.t x11x)) .nil))))))))) (.seq (.reg (.cons (some 
  x25x) none (.mv (.t x3x)) (.cons (some x2x) none (.mv (.t x25x)) .nil))) .ret)))) [(.tmp x2x)])
theorem cc37 : compF Try.prog drops true false Try.f37 = some i37 := by kernel_rfl
noncomputable def i38 : FnI := (.mk true true (.seq (.reg (.cons (some x2x) none (.box 27 (.t x0x)) (.cons (some x4x) none (.mv (.c (.n 0))) .nil))) (.seq (.seq (.reg (.cons (some x13x) none (.ld 2 true (.t 
  x2x)) (.cons (some x14x) none (.call 23 (.cons (.t x13x) .nil)) (.cons (some x5x) none (.mv (.t x14x)) .nil)))) (.seq (.reg (.cons (some x15x) none (.mv (.t x5x)) (.cons (some 
  x16x) none (.bin .neq (.t x15x) (.c (.n 0))) .nil))) (.cond (.t x16x) (.seq (.reg (.cons (some x17x) none (.mv (.t x5x)) (.cons (some x4x) none (.mv (.t x17x)) .nil))) .ret) 
  .skip))) (.seq (.reg (.cons (some x18x) none (.ld 2 true (.t x2x)) (.cons (some x19x) none (.call 45 (.cons (.t x18x) .nil)) (.cons (some x6x) none (.alloc 61 (.cons (.n 0) 
  (.cons (.b false) (.cons (.b false) (.cons (.b false) (.cons (.b false) (.cons (.b false) (.cons (.b false) (.cons (.b false) (.cons (.b false) (.cons (.b false) (.cons (.b 
  false) (.cons (.b false) (.cons (.b false) (.cons (.b false) (.cons (.b false) (.cons (.b false) (.cons (.b false) (.cons (.b false) (.cons (.b false) (.cons (.b false) (.cons 
  (.b false) (.cons (.b false) (.cons (.b false) (.cons (.b false) (.cons (.b false) (.cons (.b false) (.cons (.b false) (.cons (.b false) (.cons (.b false) (.cons (.b false) 
  (.cons (.b false) (.cons (.b false) (.cons (.b false) (.cons (.b false) (.cons (.b false) (.cons (.b false) (.cons (.b false) (.cons (.b false) (.cons (.b false) (.cons (.b 
  false) (.cons (.b false) (.cons (.b false) (.cons (.b false) (.cons (.b false) (.cons (.b false) (.cons (.b false) (.cons (.b false) (.cons (.b false) (.cons (.b false) (.cons 
  (.b false) (.cons (.b false) (.cons (.b false) (.cons (.b false) (.cons (.b false) (.cons (.b false) (.cons (.b false) (.cons (.b false) (.cons (.b false) (.cons (.b false) 
  (.cons (.b false) (.cons (.b false) (.cons (.b false) (.cons (.b false) (.cons (.b false) (.cons (.b false) .nil))))))))))))))))))))))))))))))))))))))))))))))))))))))))))))))))) 
  65) (.cons none none (.st 65 (.t x6x) (.t x19x)) .nil))))) (.seq (.reg (.cons (some x20x) none (.ld 65 true (.t x6x)) (.cons (some x7x) none (.alloc 61 (.cons (.n 0) (.cons (.b 
  false) (.cons (.b false) (.cons (.b false) (.cons (.b false) (.cons (.b false) (.cons (.b false) (.cons (.b false) (.cons (.b false) (.cons (.b false) (.cons (.b false) (.cons 
  (.b false) (.cons (.b false) (.cons (.b false) (.cons (.b false) (.cons (.b false) (.cons (.b false) (.cons (.b false) (.cons (.b false) (.cons (.b false) (.cons (.b false) 
  (.cons (.b false) (.cons (.b false) (.cons (.b false) (.cons (.b false) (.cons (.b false) (.cons (.b false) (.cons (.b false) (.cons (.b false) (.cons (.b false) (.cons (.b 
  false) (.cons (.b false) (.cons (.b false) (.cons (.b false) (.cons (.b false) (.cons (.b false) (.cons (.b false) (.cons (.b false) (.cons (.b false) (.cons (.b false) (.cons 
  (.b false) (.cons (.b false) (.cons (.b false) (.cons (.b false) (.cons (.b false) (.cons (.b false) (.cons (.b false) (.cons (.b false) (.cons (.b false) (.cons (.b false) 
  (.cons (.b false) (.cons (.b false) (.cons (.b false) (.cons (.b false) (.cons (.b false) (.cons (.b false) (.cons (.b false) (.cons (.b false) (.cons (.b false) (.cons (.b 
  false) (.cons (.b false) (.cons (.b false) (.cons (.b false) (.cons (.b false) (.cons (.b false) .nil))))))))))))))))))))))))))))))))))))))))))))))))))))))))))))))))) 65) (.cons 
  none none (.st 65 (.t x7x) (.t x20x)) .nil)))) (.seq (.seq (.reg (.cons (some x21x) none (.mv (.t x1x)) (.cons (some x22x) none (.len (.t x21x)) (.cons (some x23x) none (.mv (.c 
  (.n 0))) .nil)))) (.block 0 (.loop (.seq (.reg (.cons (some x24x) none (.bin .lss (.t x23x) (.t x22x)) .nil)) (.seq (.cond (.t x24x) .skip (.exit 0)) (.seq (.block 1 (.seq (.reg 
  (.cons (some x25x) none (.ixs 2 (.t x21x) (.t x23x)) (.cons (some x26x) none (.ld 2 true (.t x25x)) (.cons (some x9x) none (.alloc 66 (.cons (.n 0) (.cons (.n 0) .nil)) 2) (.cons 
  none none (.st 2 (.t x9x) (.t x26x)) .nil))))) (.seq (.seq (.reg (.cons (some x27x) none (.ld 65 true (.t x7x)) (.cons (some x28x) none (.ixa 2 1 (.t x9x) (.c (.n 0))) (.cons 
  (some x29x) none (.ld 1 false (.t x28x)) (.cons (some x30x) none (.ixa 2 1 (.t x9x) (.c (.n 1))) (.cons (some x31x) none (.ld 1 false (.t x30x)) (.cons (some x32x) none (.call 54 
  (.cons (.t x27x) (.cons (.t x29x) (.cons (.t x31x) .nil)))) (.cons (some x10x) none (.mv (.t x32x)) .nil)))))))) (.seq (.reg (.cons (some x33x) none (.mv (.t x10x)) (.cons (some 
  x34x) none (.bin .neq (.t x33x) (.c (.n 0))) .nil))) (.cond (.t x34x) (.seq (.reg (.cons (some x35x) none (.mv (.t x10x)) (.cons (some x4x) none (.mv (.t x35x)) .nil))) .ret) 
  .skip))) (.reg (.cons (some x36x) none (.ixa 2 1 (.t x9x) (.c (.n 0))) (.cons (some x37x) none (.ld 1 false (.t x36x)) (.cons (some x38x) none (.ixa 2 1 (.t x9x) (.c (.n 1))) 
  (.cons (some x39x) none (.ld 1 false (.t x38x)) (.cons (some x40x) none (.call 55 (.cons (.t x7x) (.cons (.t x37x) (.cons (.t x39x) .nil)))) .nil))))))))) (.reg (.cons (some 
  x41x) none (.bin .add (.t x23x) (.c (.n 1))) (.cons (some x23x) none (.mv (.t x41x)) .nil))))))))) (.seq (.reg (.cons (some x43x) none (.ld 65 true (.t x7x)) (.cons (some x44x) 
  none (.call 49 (.cons (.t x43x) .nil)) (.cons (some x42x) none (.mv (.t x44x)) (.cons (some x45x) none (.ext 0 (.t x42x)) (.cons (some x46x) none (.ext 1 (.t x42x)) (.cons (some 
  x11x) none (.alloc 83 (.cons (.n 0) (.cons (.n 0) (.cons (.n 0) .nil))) 3) (.cons none none (.st 3 (.t x11x) (.t x45x)) (.cons (some x12x) none (.mv (.t x46x)) .nil))))))))) 
  (.seq (.seq (.draw [(.mk (some x47x) none true [] false [] [] [x12x] (.mv (.t x12x)) false [] [] []), (.mk (some x48x) none true [] false [true] [] [x47x] (.mv (.t x47x)) false 
  [] [] []), (.mk (some x49x) (some (.mk x48x false)) false [] false [true, true] [] [x48x, x7x] (.ld 65 true (.t x7x)) false [] [] []), (.mk (some x50x) (some (.mk x48x false)) 
  false [] false [true, true, true] [] [x48x, x49x] (.call 27 (.cons (.t x49x) .nil)) false [] [] []), (.mk (some x51x) (some (.mk x48x false)) false [] false [false, false, true, 
  true] [] [x48x, x6x] (.ld 65 true (.t x6x)) false [] [] []), (.mk (some x52x) (some (.mk x48x false)) false [] false [true, true, true, true, true] [] [x48x, x51x] (.call 27 
  (.cons (.t x51x) .nil)) false [] [] []), (.mk (some x53x) (some (.mk x48x false)) true [] false [true, true, true, true, true, true] [] [x48x, x50x, x52x] (.bin .lss (.t x50x) 
  (.t x52x)) false [] [] []), (.mk (some x54x) none true [] false [true, true, true, true, true, true, true] [] [x48x, x53x] (.pick (.t x48x) (.c (.b true)) (.t x53x)) false [] [] 
  []), (.mk (some x55x) none true [] false [true, true, true, true, true, true, true, true] [] [x54x] (.mv (.t x54x)) false [] [] []), (.mk (some x56x) (some (.mk x55x false)) 
  false [] false [true, true, true, true, true, true, true, true, true] [] [x55x, x7x] (.ld 65 true (.t x7x)) false [] [] []), (.mk (some x57x) (some (.mk x55x false)) false [] 
  true [true, true, true, true, true, true, true, true, true, true] [] [x55x, x56x] (.call 46 (.cons (.t x56x) .nil)) false [] [] []), (.mk (some x58x) (some (.mk x55x false)) true 
  [] false [true, true, true, true, true, true, true, true, true, true, true] [] [x55x, x57x] (.len (.t x57x)) false [] [] []), (.mk (some x59x) (some (.mk x55x false)) false [] 
  false [false, false, false, true, true, true, true, true, true, true, true, true] [] [x55x, x6x] (.ld 65 true (.t x6x)) false [] [] []), (.mk (some x60x) (some (.mk x55x false)) 
  false [] true [true, false, true, true, true, true, true, true, true, true, true, true, true] [] [x55x, x59x] (.call 46 (.cons (.t x59x) .nil)) false [] [] []), (.mk (some x61x) 
  (some (.mk x55x false)) true [] false [true, true, false, true, true, true, true, true, true, true, true, true, true, true] [] [x55x, x60x] (.len (.t x60x)) false [] [] []), (.mk 
  (some x62x) (some (.mk x55x false)) true [] false [true, true, true, true, true, true, true, true, true, true, true, true, true, true, true] [] [x55x, x58x, x61x] (.bin .gtr (.t 
  x58x) (.t x61x)) false [] [] []), (.mk (some x63x) none true [] false [true, true, true, true, true, true, true, true, true, true, true, true, true, true, true, true] [] [x55x, 
  x62x] (.pick (.t x55x) (.c (.b true)) (.t x62x)) false [] [] [])]) (.cond (.t x63x) (.seq (.reg (.cons (some x4x) none (.mv (.c (.n 14))) .nil)) .ret) .skip)) (.seq (.reg (.cons 
  (some x4x) none (.mv (.c (.n 0))) .nil)) .ret)))))))) [(.tmp x4x)])
theorem cc38 : compF Try.prog drops true true Try.f38 = some i38 := by kernel_rfl
noncomputable def i39 : FnI := (.mk true false (.seq (.reg (.cons (some x2x) none (.mv (.c .ns)) .nil)) (.seq (.reg (.cons (some x3x) none (.mv (.c .ns)) .nil)) (.seq (.seq (.reg (.cons (some x5x) none (.mv (.c 
  (.n 0))) .nil)) (.block 0 (.loop (.seq (.reg (.cons (some x6x) none (.bin .lss (.t x5x) (.c (.n 8))) .nil)) (.seq (.cond (.t x6x) .skip (.exit 0)) (.seq (.block 1 (.seq (.reg 
  (.cons (some x7x) none (.mv (.t x5x)) (.cons (some x4x) none (.mv (.t x7x)) .nil))) (.seq (.reg (.cons (some x8x) none (.mv (.t x0x)) (.cons (some x9x) none (.mv (.t x4x)) (.cons 
  (some x10x) none (.bin .shr (.t x8x) (.t x9x)) (.cons (some x11x) none (.bin .and (.t x10x) (.c (.n 1))) (.cons (some x12x) none (.bin .eql (.t x11x) (.c (.n 1))) .nil)))))) 
  (.cond (.t x12x) (.reg (.cons (some x13x) none (.mv (.t x3x)) (.cons (some x14x) none (.mv (.t x4x)) (.cons (some x15x) none (.bsl 3 1 1 (.cons (.n 0) .nil) (.cons 0 1 (.t x14x) 
  .nil)) (.cons (some x16x) none (.app 3 1 8 (.t x13x) (.t x15x)) (.cons (some x3x) none (.mv (.t x16x)) .nil)))))) .skip)))) (.reg (.cons (some x17x) none (.bin .add (.t x5x) (.c 
  (.n 1))) (.cons (some x5x) none (.mv (.t x17x)) .nil))))))))) (.seq (.reg (.cons (some x18x) none (.mv (.t x3x)) (.cons (some x2x) none (.mv (.t x18x)) .nil))) .ret)))) [(.tmp 
  x2x)])
theorem cc39 : compF Try.prog drops true false Try.f39 = some i39 := by kernel_rfl
noncomputable def i40 : FnI := (.mk true true (.seq (.reg (.cons (some x2x) none (.box 40 (.t x0x)) (.cons (some x4x) none (.mv (.c (.b false))) .nil))) (.seq (.seq (.reg (.cons (some x9x) none (.mv (.t x1x)) 
  (.cons (some x10x) none (.len (.t x9x)) (.cons (some x11x) none (.mv (.c (.n 0))) .nil)))) (.block 0 (.loop (.seq (.reg (.cons (some x12x) none (.bin .lss (.t x11x) (.t x10x)) 
  .nil)) (.seq (.cond (.t x12x) .skip (.exit 0)) (.seq (.block 1 (.seq (.reg (.cons (some x13x) none (.mv (.t x11x)) (.cons (some x14x) none (.ixs 1 (.t x9x) (.t x11x)) (.cons 
  (some x15x) none (.ld 1 false (.t x14x)) (.cons (some x5x) none (.mv (.t x13x)) (.cons (some x6x) none (.mv (.t x15x)) .nil)))))) (.seq (.reg (.cons (some x16x) none (.mv (.t 
  x1x)) (.cons (some x17x) none (.mv (.t x5x)) (.cons (some x18x) none (.slc 1 (.t x16x) none (some (.t x17x)) none) (.cons (some x19x) none (.len (.t x18x)) (.cons (some x20x) 
  none (.mv (.c (.n 0))) .nil)))))) (.block 2 (.loop (.seq (.reg (.cons (some x21x) none (.bin .lss (.t x20x) (.t x19x)) .nil)) (.seq (.cond (.t x21x) .skip (.exit 2)) (.seq 
  (.block 3 (.seq (.reg (.cons (some x22x) none (.ixs 1 (.t x18x) (.t x20x)) (.cons (some x23x) none (.ld 1 false (.t x22x)) (.cons (some x8x) none (.mv (.t x23x)) .nil)))) (.seq 
  (.reg (.cons (some x24x) none (.mv (.t x6x)) (.cons (some x25x) none (.mv (.t x8x)) (.cons (some x26x) none (.ixa 8 8 (.t x2x) (.t x24x)) (.cons (some x27x) none (.ixa 8 1 (.t 
  x26x) (.t x25x)) (.cons (some x28x) none (.ld 1 false (.t x27x)) (.cons (some x29x) none (.not (.t x28x)) .nil))))))) (.cond (.t x29x) (.seq (.reg (.cons (some x4x) none (.mv (.c 
  (.b false))) .nil)) .ret) .skip)))) (.reg (.cons (some x30x) none (.bin .add (.t x20x) (.c (.n 1))) (.cons (some x20x) none (.mv (.t x30x)) .nil))))))))))) (.reg (.cons (some 
  x31x) none (.bin .add (.t x11x) (.c (.n 1))) (.cons (some x11x) none (.mv (.t x31x)) .nil))))))))) (.seq (.reg (.cons (some x4x) none (.mv (.c (.b true))) .nil)) .ret))) [(.tmp 
  x4x)])
theorem cc40 : compF Try.prog drops true true Try.f40 = some i40 := by kernel_rfl
noncomputable def i41 : FnI := (.mk true true (.seq (.reg (.cons (some x4x) none (.mv (.c (.n 0))) .nil)) (.seq (.seq (.reg (.cons (some x9x) none (.mv (.t x0x)) (.cons (some x10x) none (.len (.t x9x)) (.cons 
  (some x11x) none (.mv (.c (.n 0))) .nil)))) (.block 0 (.loop (.seq (.reg (.cons (some x12x) none (.bin .lss (.t x11x) (.t x10x)) .nil)) (.seq (.cond (.t x12x) .skip (.exit 0)) 
  (.seq (.block 1 (.seq (.reg (.cons (some x13x) none (.mv (.t x11x)) (.cons (some x14x) none (.ixs 1 (.t x9x) (.t x11x)) (.cons (some x15x) none (.ld 1 false (.t x14x)) (.cons 
  (some x5x) none (.mv (.t x13x)) (.cons (some x6x) none (.mv (.t x15x)) .nil)))))) (.seq (.seq (.reg (.cons (some x16x) none (.mv (.t x5x)) (.cons (some x17x) none (.mv (.t x1x)) 
  (.cons (some x18x) none (.len (.t x17x)) (.cons (some x19x) none (.bin .geq (.t x16x) (.t x18x)) .nil))))) (.cond (.t x19x) (.seq (.reg (.cons (some x4x) none (.mv (.c (.n 1))) 
  .nil)) .ret) .skip)) (.seq (.reg (.cons (some x20x) none (.mv (.t x1x)) (.cons (some x21x) none (.mv (.t x5x)) (.cons (some x22x) none (.ixs 1 (.t x20x) (.t x21x)) (.cons (some 
  x23x) none (.ld 1 false (.t x22x)) (.cons (some x7x) none (.mv (.t x23x)) .nil)))))) (.seq (.reg (.cons (some x24x) none (.mv (.t x6x)) (.cons (some x25x) none (.mv (.t x7x)) 
  (.cons (some x26x) none (.call 57 (.cons (.t x24x) (.cons (.t x25x) .nil))) (.cons (some x8x) none (.mv (.t x26x)) .nil))))) (.seq (.reg (.cons (some x27x) none (.mv (.t x8x)) 
  (.cons (some x28x) none (.bin .neq (.t x27x) (.c (.n 0))) .nil))) (.cond (.t x28x) (.seq (.reg (.cons (some x29x) none (.mv (.t x8x)) (.cons (some x4x) none (.mv (.t x29x)) 
  .nil))) .ret) .skip))))))) (.reg (.cons (some x30x) none (.bin .add (.t x11x) (.c (.n 1))) (.cons (some x11x) none (.mv (.t x30x)) .nil))))))))) (.seq (.seq (.reg (.cons (some 
  x31x) none (.mv (.t x0x)) (.cons (some x32x) none (.len (.t x31x)) (.cons (some x33x) none (.mv (.t x1x)) (.cons (some x34x) none (.len (.t x33x)) (.cons (some x35x) none (.bin 
  .lss (.t x32x) (.t x34x)) .nil)))))) (.cond (.t x35x) (.seq (.reg (.cons (some x4x) none (.mv (.c (.i .i64 (.negSucc 0)))) .nil)) .ret) .skip)) (.seq (.reg (.cons (some x4x) none 
  (.mv (.c (.n 0))) .nil)) .ret)))) [(.tmp x4x)])
theorem cc41 : compF Try.prog drops true true Try.f41 = some i41 := by kernel_rfl
noncomputable def i42 : FnI := (.mk true true (.seq (.reg (.cons (some x2x) none (.box 40 (.t x0x)) (.cons (some x4x) none (.mv (.c (.b false))) .nil))) (.seq (.seq (.reg (.cons (some x8x) none (.mv (.t x1x)) 
  (.cons (some x9x) none (.mv (.c (.n 0))) .nil))) (.block 0 (.loop (.seq (.reg (.cons (some x10x) none (.bin .lss (.t x9x) (.t x8x)) .nil)) (.seq (.cond (.t x10x) .skip (.exit 0)) 
  (.seq (.block 1 (.seq (.reg (.cons (some x11x) none (.mv (.t x9x)) (.cons (some x5x) none (.mv (.t x11x)) .nil))) (.seq (.reg (.cons (some x12x) none (.mv (.t x1x)) (.cons (some 
  x13x) none (.mv (.c (.n 0))) .nil))) (.block 2 (.loop (.seq (.reg (.cons (some x14x) none (.bin .lss (.t x13x) (.t x12x)) .nil)) (.seq (.cond (.t x14x) .skip (.exit 2)) (.seq 
  (.block 3 (.seq (.reg (.cons (some x15x) none (.mv (.t x13x)) (.cons (some x6x) none (.mv (.t x15x)) .nil))) (.seq (.reg (.cons (some x16x) none (.mv (.t x1x)) (.cons (some x17x) 
  none (.mv (.c (.n 0))) .nil))) (.block 4 (.loop (.seq (.reg (.cons (some x18x) none (.bin .lss (.t x17x) (.t x16x)) .nil)) (.seq (.cond (.t x18x) .skip (.exit 4)) (.seq (.block 5 
  (.seq (.reg (.cons (some x19x) none (.mv (.t x17x)) (.cons (some x7x) none (.mv (.t x19x)) .nil))) (.seq (.reg (.cons (some x20x) none (.mv (.t x5x)) (.cons (some x21x) none (.mv 
  (.t x6x)) (.cons (some x22x) none (.bin .neq (.t x20x) (.t x21x)) (.cons (some x23x) none (.mv (.t x22x)) (.cons (some x24x) (some (.mk x23x true)) (.mv (.t x6x)) (.cons (some 
  x25x) (some (.mk x23x true)) (.mv (.t x7x)) (.cons (some x26x) (some (.mk x23x true)) (.bin .neq (.t x24x) (.t x25x)) (.cons (some x27x) none (.pick (.t x23x) (.t x26x) (.c (.b 
  false))) (.cons (some x28x) none (.mv (.t x27x)) (.cons (some x29x) (some (.mk x28x true)) (.mv (.t x5x)) (.cons (some x30x) (some (.mk x28x true)) (.mv (.t x6x)) (.cons (some 
  x31x) (some (.mk x28x true)) (.ixa 8 8 (.t x2x) (.t x29x)) (.cons (some x32x) (some (.mk x28x true)) (.ixa 8 1 (.t x31x) (.t x30x)) (.cons (some x33x) (some (.mk x28x true)) (.ld 
  1 false (.t x32x)) (.cons (some x34x) (some (.mk x28x true)) (.not (.t x33x)) (.cons (some x35x) none (.pick (.t x28x) (.t x34x) (.c (.b false))) (.cons (some x36x) none (.mv (.t 
  x35x)) (.cons (some x37x) (some (.mk x36x true)) (.mv (.t x6x)) (.cons (some x38x) (some (.mk x36x true)) (.mv (.t x7x)) (.cons (some x39x) (some (.mk x36x true)) (.ixa 8 8 (.t 
  x2x) (.t x37x)) (.cons (some x40x) (some (.mk x36x true)) (.ixa 8 1 (.t x39x) (.t x38x)) (.cons (some x41x) (some (.mk x36x true)) (.ld 1 false (.t x40x)) (.cons (some x42x) 
  (some (.mk x36x true)) (.not (.t x41x)) (.cons (some x43x) none (.pick (.t x36x) (.t x42x) (.c (.b false))) (.cons (some x44x) none (.mv (.t x43x)) (.cons (some x45x) (some (.mk 
  x44x true)) (.mv (.t x5x)) (.cons (some x46x) (some (.mk x44x true)) (.mv (.t x7x)) (.cons (some x47x) (some (.mk x44x true)) (.ixa 8 8 (.t x2x) (.t x45x)) (.cons (some x48x) 
  (some (.mk x44x true)) (.ixa 8 1 (.t x47x) (.t x46x)) (.cons (some x49x) (some (.mk x44x true)) (.ld 1 false (.t x48x)) (.cons (some x50x) none (.pick (.t x44x) (.t x49x) (.c (.b 
  false))) .nil)))))))))))))))))))))))))))))))) (.cond (.t x50x) (.seq (.reg (.cons (some x4x) none (.mv (.c (.b false))) .nil)) .ret) .skip)))) (.reg (.cons (some x51x) none (.bin 
  .add (.t x17x) (.c (.n 1))) (.cons (some x17x) none (.mv (.t x51x)) .nil))))))))))) (.reg (.cons (some x52x) none (.bin .add (.t x13x) (.c (.n 1))) (.cons (some x13x) none (.mv 
  (.t x52x)) .nil))))))))))) (.reg (.cons (some x53x) none (.bin .add (.t x9x) (.c (.n 1))) (.cons (some x9x) none (.mv (.t x53x)) .nil))))))))) (.seq (.reg (.cons (some x4x) none 
  (.mv (.c (.b true))) .nil)) .ret))) [(.tmp x4x)])
theorem cc42 : compF Try.prog drops true true Try.f42 = some i42 := by kernel_rfl
noncomputable def i43 : FnI := (.mk true true (.seq (.reg (.cons (some x2x) none (.mv (.c (.n 0))) .nil)) (.seq (.seq (.reg (.cons (some x5x) none (.mv (.t x0x)) (.cons (some x6x) none (.len (.t x5x)) (.cons 
  (some x7x) none (.bin .lss (.t x6x) (.c (.n 1))) .nil)))) (.cond (.t x7x) (.reg (.cons (some x8x) none (.mki 9 (.c (.s [115, 108, 105, 99, 101, 115, 46, 77, 97, 120, 58, 32, 101, 
  109, 112, 116, 121, 32, 108, 105, 115, 116]))) (.cons none none .nope .nil))) .skip)) (.seq (.reg (.cons (some x9x) none (.mv (.t x0x)) (.cons (some x10x) none (.ixs 1 (.t x9x) 
  (.c (.n 0))) (.cons (some x11x) none (.ld 1 false (.t x10x)) (.cons (some x3x) none (.mv (.t x11x)) .nil))))) (.seq (.seq (.reg (.cons (some x4x) none (.mv (.c (.n 1))) .nil)) 
  (.block 0 (.loop (.seq (.seq (.reg (.cons (some x12x) none (.mv (.t x4x)) (.cons (some x13x) none (.mv (.t x0x)) (.cons (some x14x) none (.len (.t x13x)) (.cons (some x15x) none 
  (.bin .lss (.t x12x) (.t x14x)) .nil))))) (.cond (.t x15x) .skip (.exit 0))) (.seq (.block 1 (.reg (.cons (some x18x) none (.mv (.t x3x)) (.cons (some x19x) none (.mv (.t x0x)) 
  (.cons (some x20x) none (.mv (.t x4x)) (.cons (some x21x) none (.ixs 1 (.t x19x) (.t x20x)) (.cons (some x22x) none (.ld 1 false (.t x21x)) (.cons (some x23x) none (.mm true (.t 
  x18x) (.cons (.t x22x) .nil)) (.cons (some x3x) none (.mv (.t x23x)) .nil))))))))) (.reg (.cons (some x16x) none (.mv (.t x4x)) (.cons (some x17x) none (.bin .add (.t x16x) (.c 
  (.n 1))) (.cons (some x4x) none (.mv (.t x17x)) .nil))))))))) (.seq (.reg (.cons (some x24x) none (.mv (.t x3x)) (.cons (some x2x) none (.mv (.t x24x)) .nil))) .ret))))) [(.tmp 
  x2x)])
theorem cc43 : compF Try.prog drops true true Try.f43 = some i43 := by kernel_rfl
noncomputable def i44 : FnI := (.mk true true (.seq (.reg (.cons (some x2x) none (.mv (.c (.n 0))) .nil)) (.seq (.seq (.reg (.cons (some x5x) none (.mv (.t x0x)) (.cons (some x6x) none (.len (.t x5x)) (.cons 
  (some x7x) none (.bin .lss (.t x6x) (.c (.n 1))) .nil)))) (.cond (.t x7x) (.reg (.cons (some x8x) none (.mki 9 (.c (.s [115, 108, 105, 99, 101, 115, 46, 77, 105, 110, 58, 32, 
  101, 109, 112, 116, 121, 32, 108, 105, 115, 116]))) (.cons none none .nope .nil))) .skip)) (.seq (.reg (.cons (some x9x) none (.mv (.t x0x)) (.cons (some x10x) none (.ixs 1 (.t 
  x9x) (.c (.n 0))) (.cons (some x11x) none (.ld 1 false (.t x10x)) (.cons (some x3x) none (.mv (.t x11x)) .nil))))) (.seq (.seq (.reg (.cons (some x4x) none (.mv (.c (.n 1))) 
  .nil)) (.block 0 (.loop (.seq (.seq (.reg (.cons (some x12x) none (.mv (.t x4x)) (.cons (some x13x) none (.mv (.t x0x)) (.cons (some x14x) none (.len (.t x13x)) (.cons (some 
  x15x) none (.bin .lss (.t x12x) (.t x14x)) .nil))))) (.cond (.t x15x) .skip (.exit 0))) (.seq (.block 1 (.reg (.cons (some x18x) none (.mv (.t x3x)) (.cons (some x19x) none (.mv 
  (.t x0x)) (.cons (some x20x) none (.mv (.t x4x)) (.cons (some x21x) none (.ixs 1 (.t x19x) (.t x20x)) (.cons (some x22x) none (.ld 1 false (.t x21x)) (.cons (some x23x) none (.mm 
  false (.t x18x) (.cons (.t x22x) .nil)) (.cons (some x3x) none (.mv (.t x23x)) .nil))))))))) (.reg (.cons (some x16x) none (.mv (.t x4x)) (.cons (some x17x) none (.bin .add (.t 
  x16x) (.c (.n 1))) (.cons (some x4x) none (.mv (.t x17x)) .nil))))))))) (.seq (.reg (.cons (some x24x) none (.mv (.t x3x)) (.cons (some x2x) none (.mv (.t x24x)) .nil))) 
  .ret))))) [(.tmp x2x)])
theorem cc44 : compF Try.prog drops true true Try.f44 = some i44 := by kernel_rfl
noncomputable def i45 : FnI := (.mk true true (.seq (.reg (.cons (some x1x) none (.box 27 (.t x0x)) (.cons (some x2x) none (.alloc 61 (.cons (.n 0) (.cons (.b false) (.cons (.b false) (.cons (.b false) (.cons 
  (.b false) (.cons (.b false) (.cons (.b false) (.cons (.b false) (.cons (.b false) (.cons (.b false) (.cons (.b false) (.cons (.b false) (.cons (.b false) (.cons (.b false) 
  (.cons (.b false) (.cons (.b false) (.cons (.b false) (.cons (.b false) (.cons (.b false) (.cons (.b false) (.cons (.b false) (.cons (.b false) (.cons (.b false) (.cons (.b 
  false) (.cons (.b false) (.cons (.b false) (.cons (.b false) (.cons (.b false) (.cons (.b false) (.cons (.b false) (.cons (.b false) (.cons (.b false) (.cons (.b false) (.cons 
  (.b false) (.cons (.b false) (.cons (.b false) (.cons (.b false) (.cons (.b false) (.cons (.b false) (.cons (.b false) (.cons (.b false) (.cons (.b false) (.cons (.b false) 
  (.cons (.b false) (.cons (.b false) (.cons (.b false) (.cons (.b false) (.cons (.b false) (.cons (.b false) (.cons (.b false) (.cons (.b false) (.cons (.b false) (.cons (.b 
  false) (.cons (.b false) (.cons (.b false) (.cons (.b false) (.cons (.b false) (.cons (.b false) (.cons (.b false) (.cons (.b false) (.cons (.b false) (.cons (.b false) (.cons 
  (.b false) (.cons (.b false) (.cons (.b false) .nil))))))))))))))))))))))))))))))))))))))))))))))))))))))))))))))))) 65) .nil))) (.seq (.reg (.cons (some x6x) none (.fad 0 (.t 
  x1x)) (.cons (some x7x) none (.ld 1 false (.t x6x)) (.cons (some x8x) none (.build (.cons (.n 0) (.cons (.b false) (.cons (.b false) (.cons (.b false) (.cons (.b false) (.cons 
  (.b false) (.cons (.b false) (.cons (.b false) (.cons (.b false) (.cons (.b false) (.cons (.b false) (.cons (.b false) (.cons (.b false) (.cons (.b false) (.cons (.b false) 
  (.cons (.b false) (.cons (.b false) (.cons (.b false) (.cons (.b false) (.cons (.b false) (.cons (.b false) (.cons (.b false) (.cons (.b false) (.cons (.b false) (.cons (.b 
  false) (.cons (.b false) (.cons (.b false) (.cons (.b false) (.cons (.b false) (.cons (.b false) (.cons (.b false) (.cons (.b false) (.cons (.b false) (.cons (.b false) (.cons 
  (.b false) (.cons (.b false) (.cons (.b false) (.cons (.b false) (.cons (.b false) (.cons (.b false) (.cons (.b false) (.cons (.b false) (.cons (.b false) (.cons (.b false) 
  (.cons (.b false) (.cons (.b false) (.cons (.b false) (.cons (.b false) (.cons (.b false) (.cons (.b false) (.cons (.b false) (.cons (.b false) (.cons (.b false) (.cons (.b 
  false) (.cons (.b false) (.cons (.b false) (.cons (.b false) (.cons (.b false) (.cons (.b false) (.cons (.b false) (.cons (.b false) (.cons (.b false) (.cons (.b false) (.cons 
  (.b false) (.cons (.b false) .nil))))))))))))))))))))))))))))))))))))))))))))))))))))))))))))))))) (.cons 0 1 (.t x7x) .nil)) (.cons (some x3x) none (.alloc 61 (.cons (.n 0) 
  (.cons (.b false) (.cons (.b false) (.cons (.b false) (.cons (.b false) (.cons (.b false) (.cons (.b false) (.cons (.b false) (.cons (.b false) (.cons (.b false) (.cons (.b 
  false) (.cons (.b false) (.cons (.b false) (.cons (.b false) (.cons (.b false) (.cons (.b false) (.cons (.b false) (.cons (.b false) (.cons (.b false) (.cons (.b false) (.cons 
  (.b false) (.cons (.b false) (.cons (.b false) (.cons (.b false) (.cons (.b false) (.cons (.b false) (.cons (.b false) (.cons (.b false) (.cons (.b false) (.cons (.b false) 
  (.cons (.b false) (.cons (.b false) (.cons (.b false) (.cons (.b false) (.cons (.b false) (.cons (.b false) (.cons (.b false) (.cons (.b false) (.cons (.b false) (.cons (.b 
  false) (.cons (.b false) (.cons (.b false) (.cons (.b false) (.cons (.b false) (.cons (.b false) (.cons (.b false) (.cons (.b false) (.cons (.b false) (.cons (.b false) (.cons 
  (.b false) (.cons (.b false) (.cons (.b false) (.cons (.b false) (.cons (.b false) (.cons (.b false) (.cons (.b false) (.cons (.b false) (.cons (.b false) (.cons (.b false) 
  (.cons (.b false) (.cons (.b false) (.cons (.b false) (.cons (.b false) (.cons (.b false) (.cons (.b false) .nil))))))))))))))))))))))))))))))))))))))))))))))))))))))))))))))))) 
  65) (.cons none none (.st 65 (.t x3x) (.t x8x)) .nil)))))) (.seq (.seq (.reg (.cons (some x9x) none (.fad 1 (.t x1x)) (.cons (some x10x) none (.ld 1 false (.t x9x)) (.cons (some 
  x11x) none (.len (.t x10x)) (.cons (some x12x) none (.mv (.c (.n 0))) .nil))))) (.block 0 (.loop (.seq (.reg (.cons (some x13x) none (.bin .lss (.t x12x) (.t x11x)) .nil)) (.seq 
  (.cond (.t x13x) .skip (.exit 0)) (.seq (.block 1 (.seq (.reg (.cons (some x14x) none (.ixs 2 (.t x10x) (.t x12x)) (.cons (some x15x) none (.ld 2 true (.t x14x)) (.cons (some 
  x5x) none (.alloc 66 (.cons (.n 0) (.cons (.n 0) .nil)) 2) (.cons none none (.st 2 (.t x5x) (.t x15x)) .nil))))) (.reg (.cons (some x16x) none (.ixa 2 1 (.t x5x) (.c (.n 0))) 
  (.cons (some x17x) none (.ld 1 false (.t x16x)) (.cons (some x18x) none (.ixa 2 1 (.t x5x) (.c (.n 1))) (.cons (some x19x) none (.ld 1 false (.t x18x)) (.cons (some x20x) none 
  (.call 52 (.cons (.t x3x) (.cons (.t x17x) (.cons (.t x19x) (.cons (.c (.b true)) .nil))))) .nil)))))))) (.reg (.cons (some x21x) none (.bin .add (.t x12x) (.c (.n 1))) (.cons 
  (some x12x) none (.mv (.t x21x)) .nil))))))))) (.seq (.reg (.cons (some x22x) none (.ld 65 true (.t x3x)) (.cons none none (.st 65 (.t x2x) (.t x22x)) .nil))) .ret)))) [(.cell 
  x2x 65 true)])
theorem cc45 : compF Try.prog drops true true Try.f45 = some i45 := by kernel_rfl
noncomputable def i46 : FnI := (.mk true false (.seq (.reg (.cons (some x1x) none (.box 61 (.t x0x)) (.cons (some x2x) none (.mv (.c .ns)) .nil))) (.seq (.reg (.cons (some x3x) none (.mv (.c .ns)) .nil)) (.seq 
  (.seq (.reg (.cons (some x6x) none (.ld 65 true (.t x1x)) (.cons (some x7x) none (.call 47 (.cons (.t x6x) .nil)) (.cons (some x8x) none (.len (.t x7x)) (.cons (some x9x) none 
  (.mv (.c (.n 0))) .nil))))) (.block 0 (.loop (.seq (.reg (.cons (some x10x) none (.bin .lss (.t x9x) (.t x8x)) .nil)) (.seq (.cond (.t x10x) .skip (.exit 0)) (.seq (.block 1 
  (.seq (.reg (.cons (some x11x) none (.ixs 1 (.t x7x) (.t x9x)) (.cons (some x12x) none (.ld 1 false (.t x11x)) (.cons (some x5x) none (.mv (.t x12x)) .nil)))) (.seq (.reg (.cons 
  (some x13x) none (.mv (.t x5x)) (.cons (some x14x) none (.len (.t x13x)) (.cons (some x15x) none (.mv (.t x3x)) (.cons (some x16x) none (.len (.t x15x)) (.cons (some x17x) none 
  (.bin .gtr (.t x14x) (.t x16x)) .nil)))))) (.cond (.t x17x) (.reg (.cons (some x18x) none (.mv (.t x5x)) (.cons (some x3x) none (.mv (.t x18x)) .nil))) .skip)))) (.reg (.cons 
  (some x19x) none (.bin .add (.t x9x) (.c (.n 1))) (.cons (some x9x) none (.mv (.t x19x)) .nil))))))))) (.seq (.reg (.cons (some x20x) none (.mv (.t x3x)) (.cons (some x2x) none 
  (.mv (.t x20x)) .nil))) .ret)))) [(.tmp x2x)])
theorem cc46 : compF Try.prog drops true false Try.f46 = some i46 := by kernel_rfl
noncomputable def i47 : FnI := (.mk true false (.seq (.reg (.cons (some x1x) none (.box 61 (.t x0x)) (.cons (some x2x) none (.mv (.c .ns)) .nil))) (.seq (.reg (.cons (some x3x) none (.ld 65 true (.t x1x)) (.cons 
  (some x4x) none (.call 58 (.cons (.t x3x) (.cons (.c .ns) .nil))) (.cons (some x2x) none (.mv (.t x4x)) .nil)))) .ret)) [(.tmp x2x)])
theorem cc47 : compF Try.prog drops true false Try.f47 = some i47 := by kernel_rfl
noncomputable def i48 : FnI := (.mk true false (.seq (.reg (.cons (some x1x) none (.box 61 (.t x0x)) (.cons (some x2x) none (.mv (.c .ns)) .nil))) (.seq (.seq (.reg (.cons (some x8x) none (.ld 65 true (.t x1x)) 
  (.cons (some x9x) none (.call 46 (.cons (.t x8x) .nil)) (.cons (some x10x) none (.len (.t x9x)) (.cons (some x3x) none (.mv (.t x10x)) .nil))))) (.block 0 (.loop (.seq (.seq 
  (.reg (.cons (some x11x) none (.mv (.t x3x)) (.cons (some x12x) none (.fad 0 (.t x1x)) (.cons (some x13x) none (.ld 1 false (.t x12x)) (.cons (some x14x) none (.bin .lss (.t 
  x11x) (.t x13x)) .nil))))) (.cond (.t x14x) .skip (.exit 0))) (.seq (.block 1 (.seq (.reg (.cons (some x18x) none (.ld 65 true (.t x1x)) (.cons (some x19x) none (.mv (.t x3x)) 
  (.cons (some x20x) none (.call 59 (.cons (.t x18x) (.cons (.c .ns) (.cons (.t x19x) .nil)))) (.cons (some x17x) none (.mv (.t x20x)) (.cons (some x21x) none (.ext 0 (.t x17x)) 
  (.cons (some x22x) none (.ext 1 (.t x17x)) (.cons (some x4x) none (.mv (.t x21x)) (.cons (some x5x) none (.mv (.t x22x)) .nil))))))))) (.seq (.reg (.cons (some x23x) none (.mv 
  (.t x5x)) .nil)) (.cond (.t x23x) (.seq (.reg (.cons (some x24x) none (.mv (.t x4x)) (.cons (some x2x) none (.mv (.t x24x)) .nil))) .ret) .skip)))) (.reg (.cons (some x15x) none 
  (.mv (.t x3x)) (.cons (some x16x) none (.bin .add (.t x15x) (.c (.n 1))) (.cons (some x3x) none (.mv (.t x16x)) .nil))))))))) (.seq (.reg (.cons (some x26x) none (.ld 65 true (.t 
  x1x)) (.cons (some x27x) none (.fad 0 (.t x1x)) (.cons (some x28x) none (.ld 1 false (.t x27x)) (.cons (some x29x) none (.call 59 (.cons (.t x26x) (.cons (.c .ns) (.cons (.t 
  x28x) .nil)))) (.cons (some x25x) none (.mv (.t x29x)) (.cons (some x30x) none (.ext 0 (.t x25x)) (.cons (some x31x) none (.ext 1 (.t x25x)) (.cons (some x6x) none (.mv (.t 
  x30x)) (.cons (some x7x) none (.mv (.t x31x)) .nil)))))))))) (.seq (.reg (.cons (some x32x) none (.mv (.t x6x)) (.cons (some x2x) none (.mv (.t x32x)) .nil))) .ret)))) [(.tmp 
  x2x)])
theorem cc48 : compF Try.prog drops true false Try.f48 = some i48 := by kernel_rfl
noncomputable def i49 : FnI := (.mk true true (.seq (.reg (.cons (some x1x) none (.box 61 (.t x0x)) (.cons (some x2x) none (.alloc 83 (.cons (.n 0) (.cons (.n 0) (.cons (.n 0) .nil))) 3) (.cons (some x3x) none 
  (.mv (.c (.b false))) .nil)))) (.seq (.reg (.cons (some x4x) none (.alloc 83 (.cons (.n 0) (.cons (.n 0) (.cons (.n 0) .nil))) 3) .nil)) (.seq (.reg (.cons (some x5x) none (.mv 
  (.c (.b false))) .nil)) (.seq .skip (.seq (.seq (.reg (.cons (some x9x) none (.fad 0 (.t x1x)) (.cons (some x10x) none (.ld 1 false (.t x9x)) (.cons (some x11x) none (.mv (.c (.n 
  0))) .nil)))) (.block 0 (.loop (.seq (.reg (.cons (some x12x) none (.bin .lss (.t x11x) (.t x10x)) .nil)) (.seq (.cond (.t x12x) .skip (.exit 0)) (.seq (.block 1 (.seq (.reg 
  (.cons (some x13x) none (.mv (.t x11x)) (.cons (some x6x) none (.mv (.t x13x)) .nil))) (.seq (.reg (.cons (some x14x) none (.fad 0 (.t x1x)) (.cons (some x15x) none (.ld 1 false 
  (.t x14x)) (.cons (some x16x) none (.mv (.c (.n 0))) .nil)))) (.block 2 (.loop (.seq (.reg (.cons (some x17x) none (.bin .lss (.t x16x) (.t x15x)) .nil)) (.seq (.cond (.t x17x) 
  .skip (.exit 2)) (.seq (.block 3 (.seq (.reg (.cons (some x18x) none (.mv (.t x16x)) (.cons (some x7x) none (.mv (.t x18x)) .nil))) (.seq (.reg (.cons (some x19x) none (.fad 0 
  (.t x1x)) (.cons (some x20x) none (.ld 1 false (.t x19x)) (.cons (some x21x) none (.mv (.c (.n 0))) .nil)))) (.block 4 (.loop (.seq (.reg (.cons (some x22x) none (.bin .lss (.t 
  x21x) (.t x20x)) .nil)) (.seq (.cond (.t x22x) .skip (.exit 4)) (.seq (.block 5 (.seq (.reg (.cons (some x23x) none (.mv (.t x21x)) (.cons (some x8x) none (.mv (.t x23x)) .nil))) 
  (.seq (.reg (.cons (some x24x) none (.mv (.t x6x)) (.cons (some x25x) none (.mv (.t x8x)) (.cons (some x26x) none (.fad 1 (.t x1x)) (.cons (some x27x) none (.ixa 8 8 (.t x26x) 
  (.t x24x)) (.cons (some x28x) none (.ixa 8 1 (.t x27x) (.t x25x)) (.cons (some x29x) none (.ld 1 false (.t x28x)) (.cons (some x30x) none (.mv (.t x29x)) (.cons (some x31x) (some 
  (.mk x30x true)) (.mv (.t x6x)) (.cons (some x32x) (some (.mk x30x true)) (.mv (.t x7x)) (.cons (some x33x) (some (.mk x30x true)) (.fad 1 (.t x1x)) (.cons (some x34x) (some (.mk 
  x30x true)) (.ixa 8 8 (.t x33x) (.t x31x)) (.cons (some x35x) (some (.mk x30x true)) (.ixa 8 1 (.t x34x) (.t x32x)) (.cons (some x36x) (some (.mk x30x true)) (.ld 1 false (.t 
  x35x)) (.cons (some x37x) (some (.mk x30x true)) (.not (.t x36x)) (.cons (some x38x) none (.pick (.t x30x) (.t x37x) (.c (.b false))) (.cons (some x39x) none (.mv (.t x38x)) 
  (.cons (some x40x) (some (.mk x39x true)) (.mv (.t x7x)) (.cons (some x41x) (some (.mk x39x true)) (.mv (.t x8x)) (.cons (some x42x) (some (.mk x39x true)) (.fad 1 (.t x1x)) 
  (.cons (some x43x) (some (.mk x39x true)) (.ixa 8 8 (.t x42x) (.t x40x)) (.cons (some x44x) (some (.mk x39x true)) (.ixa 8 1 (.t x43x) (.t x41x)) (.cons (some x45x) (some (.mk 
  x39x true)) (.ld 1 false (.t x44x)) (.cons (some x46x) (some (.mk x39x true)) (.not (.t x45x)) (.cons (some x47x) none (.pick (.t x39x) (.t x46x) (.c (.b false))) 
  .nil))))))))))))))))))))))))) (.cond (.t x47x) (.seq (.reg (.cons (some x48x) none (.mv (.t x6x)) (.cons (some x49x) none (.mv (.t x7x)) (.cons (some x50x) none (.mv (.t x8x)) 
  (.cons (some x51x) none (.build (.cons (.n 0) (.cons (.n 0) (.cons (.n 0) .nil))) (.cons 0 1 (.t x48x) (.cons 1 1 (.t x49x) (.cons 2 1 (.t x50x) .nil)))) (.cons none none (.st 3 
  (.t x4x) (.t x51x)) (.cons (some x5x) none (.mv (.c (.b true))) .nil))))))) (.exit 0)) .skip)))) (.reg (.cons (some x52x) none (.bin .add (.t x21x) (.c (.n 1))) (.cons (some 
  x21x) none (.mv (.t x52x)) .nil))))))))))) (.reg (.cons (some x53x) none (.bin .add (.t x16x) (.c (.n 1))) (.cons (some x16x) none (.mv (.t x53x)) .nil))))))))))) (.reg (.cons 
  (some x54x) none (.bin .add (.t x11x) (.c (.n 1))) (.cons (some x11x) none (.mv (.t x54x)) .nil))))))))) (.seq (.reg (.cons (some x55x) none (.ld 3 true (.t x4x)) (.cons (some 
  x56x) none (.mv (.t x5x)) (.cons none none (.st 3 (.t x2x) (.t x55x)) (.cons (some x3x) none (.mv (.t x56x)) .nil))))) .ret)))))) [(.cell x2x 3 true), (.tmp x3x)])
theorem cc49 : compF Try.prog drops true true Try.f49 = some i49 := by kernel_rfl
noncomputable def i50 : FnI := (.mk true false (.seq (.reg (.cons (some x1x) none (.box 61 (.t x0x)) (.cons (some x2x) none (.mv (.c .ns)) .nil))) (.seq (.reg (.cons (some x3x) none (.mv (.c .ns)) .nil)) (.seq 
  (.seq (.reg (.cons (some x6x) none (.fad 0 (.t x1x)) (.cons (some x7x) none (.ld 1 false (.t x6x)) (.cons (some x8x) none (.mv (.c (.n 0))) .nil)))) (.block 0 (.loop (.seq (.reg 
  (.cons (some x9x) none (.bin .lss (.t x8x) (.t x7x)) .nil)) (.seq (.cond (.t x9x) .skip (.exit 0)) (.seq (.block 1 (.seq (.reg (.cons (some x10x) none (.mv (.t x8x)) (.cons (some 
  x4x) none (.mv (.t x10x)) .nil))) (.seq (.reg (.cons (some x11x) none (.ld 65 true (.t x1x)) (.cons (some x12x) none (.mv (.t x4x)) (.cons (some x13x) none (.call 60 (.cons (.t 
  x11x) (.cons (.t x12x) .nil))) (.cons (some x5x) none (.mv (.t x13x)) .nil))))) (.seq (.reg (.cons (some x14x) none (.mv (.t x5x)) (.cons (some x15x) none (.ixs 1 (.t x14x) (.c 
  (.n 0))) (.cons (some x16x) none (.ld 1 false (.t x15x)) (.cons (some x17x) none (.mv (.t x4x)) (.cons (some x18x) none (.bin .eql (.t x16x) (.t x17x)) .nil)))))) (.cond (.t 
  x18x) (.reg (.cons (some x19x) none (.mv (.t x3x)) (.cons (some x20x) none (.mv (.t x5x)) (.cons (some x21x) none (.bsl 45 1 1 (.cons .ns .nil) (.cons 0 1 (.t x20x) .nil)) (.cons 
  (some x22x) none (.app 45 1 24 (.t x19x) (.t x21x)) (.cons (some x3x) none (.mv (.t x22x)) .nil)))))) .skip))))) (.reg (.cons (some x23x) none (.bin .add (.t x8x) (.c (.n 1))) 
  (.cons (some x8x) none (.mv (.t x23x)) .nil))))))))) (.seq (.reg (.cons (some x24x) none (.mv (.t x3x)) (.cons (some x2x) none (.mv (.t x24x)) .nil))) .ret)))) [(.tmp x2x)])
theorem cc50 : compF Try.prog drops true false Try.f50 = some i50 := by kernel_rfl
noncomputable def i51 : FnI := (.mk true true (.seq (.reg (.cons (some x2x) none (.box 61 (.t x0x)) (.cons (some x4x) none (.mv (.c (.b false))) .nil))) (.seq (.reg (.cons (some x5x) none (.mv (.t x1x)) (.cons 
  (some x6x) none (.bin .geq (.t x5x) (.c (.n 0))) (.cons (some x7x) none (.mv (.t x6x)) (.cons (some x8x) (some (.mk x7x true)) (.mv (.t x1x)) (.cons (some x9x) (some (.mk x7x 
  true)) (.fad 0 (.t x2x)) (.cons (some x10x) (some (.mk x7x true)) (.ld 1 false (.t x9x)) (.cons (some x11x) (some (.mk x7x true)) (.bin .lss (.t x8x) (.t x10x)) (.cons (some 
  x12x) none (.pick (.t x7x) (.t x11x) (.c (.b false))) (.cons (some x4x) none (.mv (.t x12x)) .nil)))))))))) .ret)) [(.tmp x4x)])
theorem cc51 : compF Try.prog drops true true Try.f51 = some i51 := by kernel_rfl
noncomputable def i52 : FnI := (.mk false false (.seq (.reg (.cons (some x8x) none (.mv (.t x0x)) (.cons (some x9x) none (.mv (.t x1x)) (.cons (some x10x) none (.mv (.t x2x)) (.cons (some x11x) none (.mv (.t 
  x3x)) (.cons (some x12x) none (.nilck (.t x8x)) (.cons (some x13x) none (.fad 1 (.t x12x)) (.cons (some x14x) none (.ixa 8 8 (.t x13x) (.t x9x)) (.cons (some x15x) none (.ixa 8 1 
  (.t x14x) (.t x10x)) (.cons none none (.st 1 (.t x15x) (.t x11x)) .nil)))))))))) (.reg (.cons (some x16x) none (.mv (.t x0x)) (.cons (some x17x) none (.mv (.t x2x)) (.cons (some 
  x18x) none (.mv (.t x1x)) (.cons (some x19x) none (.mv (.t x3x)) (.cons (some x20x) none (.nilck (.t x16x)) (.cons (some x21x) none (.fad 1 (.t x20x)) (.cons (some x22x) none 
  (.ixa 8 8 (.t x21x) (.t x17x)) (.cons (some x23x) none (.ixa 8 1 (.t x22x) (.t x18x)) (.cons none none (.st 1 (.t x23x) (.t x19x)) .nil))))))))))) [])
theorem cc52 : compF Try.prog drops false false Try.f52 = some i52 := by kernel_rfl
noncomputable def i53 : FnI := (.mk true true (.seq (.reg (.cons (some x2x) none (.box 61 (.t x0x)) (.cons (some x4x) none (.mv (.c (.n 0))) .nil))) (.seq (.reg (.cons (some x5x) none (.mv (.c (.n 0))) .nil)) 
  (.seq (.seq (.reg (.cons (some x7x) none (.fad 0 (.t x2x)) (.cons (some x8x) none (.ld 1 false (.t x7x)) (.cons (some x9x) none (.mv (.c (.n 0))) .nil)))) (.block 0 (.loop (.seq 
  (.reg (.cons (some x10x) none (.bin .lss (.t x9x) (.t x8x)) .nil)) (.seq (.cond (.t x10x) .skip (.exit 0)) (.seq (.block 1 (.seq (.reg (.cons (some x11x) none (.mv (.t x9x)) 
  (.cons (some x6x) none (.mv (.t x11x)) .nil))) (.seq (.reg (.cons (some x12x) none (.mv (.t x1x)) (.cons (some x13x) none (.mv (.t x6x)) (.cons (some x14x) none (.fad 1 (.t x2x)) 
  (.cons (some x15x) none (.ixa 8 8 (.t x14x) (.t x12x)) (.cons (some x16x) none (.ixa 8 1 (.t x15x) (.t x13x)) (.cons (some x17x) none (.ld 1 false (.t x16x)) .nil))))))) (.cond 
  (.t x17x) (.reg (.cons (some x18x) none (.mv (.t x5x)) (.cons (some x19x) none (.bin .add (.t x18x) (.c (.n 1))) (.cons (some x5x) none (.mv (.t x19x)) .nil)))) .skip)))) (.reg 
  (.cons (some x20x) none (.bin .add (.t x9x) (.c (.n 1))) (.cons (some x9x) none (.mv (.t x20x)) .nil))))))))) (.seq (.reg (.cons (some x21x) none (.mv (.t x5x)) (.cons (some x4x) 
  none (.mv (.t x21x)) .nil))) .ret)))) [(.tmp x4x)])
theorem cc53 : compF Try.prog drops true true Try.f53 = some i53 := by kernel_rfl
noncomputable def i54 : FnI := (.mk true true (.seq (.reg (.cons (some x3x) none (.box 61 (.t x0x)) (.cons (some x6x) none (.mv (.c (.n 0))) .nil))) (.seq (.block 0 (.seq (.reg (.cons (some x8x) none (.ld 65 
  true (.t x3x)) (.cons (some x9x) none (.mv (.t x1x)) (.cons (some x10x) none (.call 51 (.cons (.t x8x) (.cons (.t x9x) .nil))) (.cons (some x11x) none (.not (.t x10x)) (.cons 
  (some x12x) none (.mv (.t x11x)) (.cons (some x13x) (some (.mk x12x false)) (.ld 65 true (.t x3x)) (.cons (some x14x) (some (.mk x12x false)) (.mv (.t x2x)) (.cons (some x15x) 
  (some (.mk x12x false)) (.call 51 (.cons (.t x13x) (.cons (.t x14x) .nil))) (.cons (some x16x) (some (.mk x12x false)) (.not (.t x15x)) (.cons (some x17x) none (.pick (.t x12x) 
  (.c (.b true)) (.t x16x)) (.cons (some x7x) none (.mv (.t x17x)) .nil)))))))))))) (.cond (.t x7x) (.seq (.reg (.cons (some x6x) none (.mv (.c (.n 2))) .nil)) .ret) (.seq (.reg 
  (.cons (some x19x) none (.mv (.t x1x)) (.cons (some x20x) none (.mv (.t x2x)) (.cons (some x21x) none (.bin .eql (.t x19x) (.t x20x)) (.cons (some x22x) none (.mv (.t x21x)) 
  (.cons (some x23x) (some (.mk x22x false)) (.mv (.t x1x)) (.cons (some x24x) (some (.mk x22x false)) (.mv (.t x2x)) (.cons (some x25x) (some (.mk x22x false)) (.fad 1 (.t x3x)) 
  (.cons (some x26x) (some (.mk x22x false)) (.ixa 8 8 (.t x25x) (.t x23x)) (.cons (some x27x) (some (.mk x22x false)) (.ixa 8 1 (.t x26x) (.t x24x)) (.cons (some x28x) (some (.mk 
  x22x false)) (.ld 1 false (.t x27x)) (.cons (some x29x) none (.pick (.t x22x) (.c (.b true)) (.t x28x)) (.cons (some x18x) none (.mv (.t x29x)) .nil))))))))))))) (.cond (.t x18x) 
  (.seq (.reg (.cons (some x6x) none (.mv (.c (.n 13))) .nil)) .ret) .skip))))) (.seq (.reg (.cons (some x6x) none (.mv (.c (.n 0))) .nil)) .ret))) [(.tmp x6x)])
theorem cc54 : compF Try.prog drops true true Try.f54 = some i54 := by kernel_rfl
noncomputable def i55 : FnI := (.mk false false (.seq (.reg (.cons (some x7x) none (.mv (.t x0x)) (.cons (some x8x) none (.nilck (.t x7x)) (.cons (some x9x) none (.fad 0 (.t x8x)) (.cons (some x10x) none (.ld 1 
  false (.t x9x)) (.cons (some x11x) none (.mv (.c (.n 0))) .nil)))))) (.block 0 (.loop (.seq (.reg (.cons (some x12x) none (.bin .lss (.t x11x) (.t x10x)) .nil)) (.seq (.cond (.t 
  x12x) .skip (.exit 0)) (.seq (.block 1 (.seq (.reg (.cons (some x13x) none (.mv (.t x11x)) (.cons (some x6x) none (.mv (.t x13x)) .nil))) (.reg (.cons (some x14x) none (.mv (.t 
  x0x)) (.cons (some x15x) none (.mv (.t x2x)) (.cons (some x16x) none (.mv (.t x6x)) (.cons (some x17x) none (.mv (.t x0x)) (.cons (some x18x) none (.mv (.t x1x)) (.cons (some 
  x19x) none (.mv (.t x6x)) (.cons (some x20x) none (.nilck (.t x17x)) (.cons (some x21x) none (.fad 1 (.t x20x)) (.cons (some x22x) none (.ixa 8 8 (.t x21x) (.t x18x)) (.cons 
  (some x23x) none (.ixa 8 1 (.t x22x) (.t x19x)) (.cons (some x24x) none (.ld 1 false (.t x23x)) (.cons (some x25x) none (.call 52 (.cons (.t x14x) (.cons (.t x15x) (.cons (.t 
  x16x) (.cons (.t x24x) .nil))))) .nil))))))))))))))) (.reg (.cons (some x26x) none (.bin .add (.t x11x) (.c (.n 1))) (.cons (some x11x) none (.mv (.t x26x)) .nil))))))))) [])
theorem cc55 : compF Try.prog drops false false Try.f55 = some i55 := by kernel_rfl
noncomputable def i56 : FnI := (.mk true false (.seq (.reg (.cons (some x1x) none (.box 61 (.t x0x)) (.cons (some x2x) none (.mv (.c .ns)) .nil))) (.seq (.reg (.cons (some x3x) none (.mv (.c .ns)) .nil)) (.seq 
  .skip (.seq (.reg (.cons (some x9x) none (.ld 65 true (.t x1x)) (.cons (some x10x) none (.call 49 (.cons (.t x9x) .nil)) (.cons (some x8x) none (.mv (.t x10x)) (.cons (some x11x) 
  none (.ext 0 (.t x8x)) (.cons (some x12x) none (.ext 1 (.t x8x)) (.cons (some x4x) none (.alloc 83 (.cons (.n 0) (.cons (.n 0) (.cons (.n 0) .nil))) 3) (.cons none none (.st 3 
  (.t x4x) (.t x11x)) (.cons (some x5x) none (.mv (.t x12x)) .nil))))))))) (.seq (.seq (.reg (.cons (some x13x) none (.mv (.t x5x)) (.cons (some x14x) none (.not (.t x13x)) .nil))) 
  (.cond (.t x14x) (.seq (.reg (.cons (some x15x) none (.mv (.t x3x)) (.cons (some x2x) none (.mv (.t x15x)) .nil))) .ret) .skip)) (.seq (.seq (.reg (.cons (some x16x) none (.ld 65 
  true (.t x1x)) (.cons (some x17x) none (.ld 3 true (.t x4x)) (.cons (some x18x) none (.call 61 (.cons (.t x16x) (.cons (.t x17x) .nil))) (.cons (some x19x) none (.len (.t x18x)) 
  (.cons (some x20x) none (.mv (.c (.n 0))) .nil)))))) (.block 0 (.loop (.seq (.reg (.cons (some x21x) none (.bin .lss (.t x20x) (.t x19x)) .nil)) (.seq (.cond (.t x21x) .skip 
  (.exit 0)) (.seq (.block 1 (.seq (.reg (.cons (some x22x) none (.ixs 2 (.t x18x) (.t x20x)) (.cons (some x23x) none (.ld 2 true (.t x22x)) (.cons (some x7x) none (.alloc 66 
  (.cons (.n 0) (.cons (.n 0) .nil)) 2) (.cons none none (.st 2 (.t x7x) (.t x23x)) .nil))))) (.seq (.reg (.cons (some x24x) none (.ixa 2 1 (.t x7x) (.c (.n 0))) (.cons (some x25x) 
  none (.ld 1 false (.t x24x)) (.cons (some x26x) none (.ixa 2 1 (.t x7x) (.c (.n 1))) (.cons (some x27x) none (.ld 1 false (.t x26x)) (.cons (some x28x) none (.call 55 (.cons (.t 
  x1x) (.cons (.t x25x) (.cons (.t x27x) .nil)))) .nil)))))) (.reg (.cons (some x29x) none (.mv (.t x3x)) (.cons (some x30x) none (.ld 2 true (.t x7x)) (.cons (some x31x) none 
  (.bsl 66 2 1 (.cons (.n 0) (.cons (.n 0) .nil)) (.cons 0 2 (.t x30x) .nil)) (.cons (some x32x) none (.app 66 2 16 (.t x29x) (.t x31x)) (.cons (some x3x) none (.mv (.t x32x)) 
  .nil))))))))) (.reg (.cons (some x33x) none (.bin .add (.t x20x) (.c (.n 1))) (.cons (some x20x) none (.mv (.t x33x)) .nil))))))))) .nope)))))) [(.tmp x2x)])
theorem cc56 : compF Try.prog drops true false Try.f56 = some i56 := by kernel_rfl
noncomputable def i57 : FnI := (.mk true true (.seq (.reg (.cons (some x4x) none (.mv (.c (.n 0))) .nil)) (.seq (.reg (.cons (some x7x) none (.mv (.t x0x)) (.cons (some x8x) none (.call 62 (.cons (.t x7x) .nil)) 
  (.cons (some x5x) none (.mv (.t x8x)) .nil)))) (.seq (.reg (.cons (some x9x) none (.mv (.t x1x)) (.cons (some x10x) none (.call 62 (.cons (.t x9x) .nil)) (.cons (some x6x) none 
  (.mv (.t x10x)) .nil)))) (.seq (.seq (.reg (.cons (some x11x) none (.mv (.t x5x)) .nil)) (.cond (.t x11x) (.seq (.seq (.reg (.cons (some x12x) none (.mv (.t x6x)) .nil)) (.cond 
  (.t x12x) (.seq (.reg (.cons (some x4x) none (.mv (.c (.n 0))) .nil)) .ret) .skip)) (.seq (.reg (.cons (some x4x) none (.mv (.c (.i .i64 (.negSucc 0)))) .nil)) .ret)) .skip)) 
  (.seq (.seq (.reg (.cons (some x13x) none (.mv (.t x6x)) .nil)) (.cond (.t x13x) (.seq (.reg (.cons (some x4x) none (.mv (.c (.n 1))) .nil)) .ret) .skip)) (.seq (.seq (.reg 
  (.cons (some x14x) none (.mv (.t x0x)) (.cons (some x15x) none (.mv (.t x1x)) (.cons (some x16x) none (.bin .lss (.t x14x) (.t x15x)) .nil)))) (.cond (.t x16x) (.seq (.reg (.cons 
  (some x4x) none (.mv (.c (.i .i64 (.negSucc 0)))) .nil)) .ret) .skip)) (.seq (.seq (.reg (.cons (some x17x) none (.mv (.t x0x)) (.cons (some x18x) none (.mv (.t x1x)) (.cons 
  (some x19x) none (.bin .gtr (.t x17x) (.t x18x)) .nil)))) (.cond (.t x19x) (.seq (.reg (.cons (some x4x) none (.mv (.c (.n 1))) .nil)) .ret) .skip)) (.seq (.reg (.cons (some x4x) 
  none (.mv (.c (.n 0))) .nil)) .ret)))))))) [(.tmp x4x)])
theorem cc57 : compF Try.prog drops true true Try.f57 = some i57 := by kernel_rfl
noncomputable def i58 : FnI := (.mk true false (.seq (.reg (.cons (some x2x) none (.box 61 (.t x0x)) (.cons (some x4x) none (.mv (.c .ns)) .nil))) (.seq (.reg (.cons (some x5x) none (.mv (.c (.n 0))) .nil)) 
  (.seq (.seq (.reg (.cons (some x11x) none (.mv (.t x1x)) (.cons (some x12x) none (.len (.t x11x)) (.cons (some x13x) none (.bin .gtr (.t x12x) (.c (.n 0))) .nil)))) (.cond (.t 
  x13x) (.reg (.cons (some x14x) none (.mv (.t x1x)) (.cons (some x15x) none (.mv (.t x1x)) (.cons (some x16x) none (.len (.t x15x)) (.cons (some x17x) none (.bin .sub (.t x16x) 
  (.c (.n 1))) (.cons (some x18x) none (.ixs 1 (.t x14x) (.t x17x)) (.cons (some x19x) none (.ld 1 false (.t x18x)) (.cons (some x20x) none (.bin .add (.t x19x) (.c (.n 1))) (.cons 
  (some x5x) none (.mv (.t x20x)) .nil))))))))) .skip)) (.seq (.reg (.cons (some x6x) none (.mv (.c .ns)) .nil)) (.seq .skip (.seq (.seq (.reg (.cons (some x21x) none (.mv (.t 
  x5x)) (.cons (some x7x) none (.mv (.t x21x)) .nil))) (.block 0 (.loop (.seq (.seq (.reg (.cons (some x22x) none (.mv (.t x7x)) (.cons (some x23x) none (.fad 0 (.t x2x)) (.cons 
  (some x24x) none (.ld 1 false (.t x23x)) (.cons (some x25x) none (.bin .lss (.t x22x) (.t x24x)) .nil))))) (.cond (.t x25x) .skip (.exit 0))) (.seq (.block 1 (.seq (.seq (.reg 
  (.cons (some x28x) none (.mv (.t x1x)) (.cons (some x29x) none (.len (.t x28x)) (.cons (some x30x) none (.mv (.c (.n 0))) .nil)))) (.block 2 (.loop (.seq (.reg (.cons (some x31x) 
  none (.bin .lss (.t x30x) (.t x29x)) .nil)) (.seq (.cond (.t x31x) .skip (.exit 2)) (.seq (.block 3 (.seq (.reg (.cons (some x32x) none (.ixs 1 (.t x28x) (.t x30x)) (.cons (some 
  x33x) none (.ld 1 false (.t x32x)) (.cons (some x9x) none (.mv (.t x33x)) .nil)))) (.seq (.reg (.cons (some x34x) none (.mv (.t x7x)) (.cons (some x35x) none (.mv (.t x9x)) 
  (.cons (some x36x) none (.fad 1 (.t x2x)) (.cons (some x37x) none (.ixa 8 8 (.t x36x) (.t x34x)) (.cons (some x38x) none (.ixa 8 1 (.t x37x) (.t x35x)) (.cons (some x39x) none 
  (.ld 1 false (.t x38x)) (.cons (some x40x) none (.not (.t x39x)) .nil)))))))) (.cond (.t x40x) (.exit 1) .skip)))) (.reg (.cons (some x41x) none (.bin .add (.t x30x) (.c (.n 1))) 
  (.cons (some x30x) none (.mv (.t x41x)) .nil))))))))) (.seq (.reg (.cons (some x42x) none (.mv (.t x1x)) (.cons (some x43x) none (.call 63 (.cons (.t x42x) .nil)) (.cons (some 
  x44x) none (.mv (.t x7x)) (.cons (some x45x) none (.bsl 3 1 1 (.cons (.n 0) .nil) (.cons 0 1 (.t x44x) .nil)) (.cons (some x46x) none (.app 3 1 8 (.t x43x) (.t x45x)) (.cons 
  (some x10x) none (.mv (.t x46x)) .nil))))))) (.seq (.reg (.cons (some x47x) none (.mv (.t x6x)) (.cons (some x48x) none (.mv (.t x10x)) (.cons (some x49x) none (.bsl 45 1 1 
  (.cons .ns .nil) (.cons 0 1 (.t x48x) .nil)) (.cons (some x50x) none (.app 45 1 24 (.t x47x) (.t x49x)) (.cons (some x6x) none (.mv (.t x50x)) .nil)))))) (.reg (.cons (some x51x) 
  none (.mv (.t x6x)) (.cons (some x52x) none (.ld 65 true (.t x2x)) (.cons (some x53x) none (.mv (.t x10x)) (.cons (some x54x) none (.call 58 (.cons (.t x52x) (.cons (.t x53x) 
  .nil))) (.cons (some x55x) none (.app 45 1 24 (.t x51x) (.t x54x)) (.cons (some x6x) none (.mv (.t x55x)) .nil))))))))))) (.reg (.cons (some x26x) none (.mv (.t x7x)) (.cons 
  (some x27x) none (.bin .add (.t x26x) (.c (.n 1))) (.cons (some x7x) none (.mv (.t x27x)) .nil))))))))) (.seq (.reg (.cons (some x56x) none (.mv (.t x6x)) (.cons (some x4x) none 
  (.mv (.t x56x)) .nil))) .ret))))))) [(.tmp x4x)])
theorem cc58 : compF Try.prog drops true false Try.f58 = some i58 := by kernel_rfl
noncomputable def i59 : FnI := (.mk true false (.seq (.reg (.cons (some x3x) none (.box 61 (.t x0x)) (.cons (some x6x) none (.mv (.c .ns)) (.cons (some x7x) none (.mv (.c (.b false))) .nil)))) (.seq (.reg (.cons 
  (some x14x) none (.mv (.t x1x)) (.cons (some x15x) none (.len (.t x14x)) (.cons (some x8x) none (.mv (.t x15x)) .nil)))) (.seq (.seq (.reg (.cons (some x16x) none (.mv (.t x8x)) 
  (.cons (some x17x) none (.fad 0 (.t x3x)) (.cons (some x18x) none (.ld 1 false (.t x17x)) (.cons (some x19x) none (.bin .eql (.t x16x) (.t x18x)) .nil))))) (.cond (.t x19x) (.seq 
  (.reg (.cons (some x20x) none (.mv (.t x1x)) (.cons (some x6x) none (.mv (.t x20x)) (.cons (some x7x) none (.mv (.c (.b true))) .nil)))) .ret) .skip)) (.seq .skip (.seq (.seq 
  (.reg (.cons (some x21x) none (.mv (.t x2x)) (.cons (some x22x) none (.mv (.c (.n 0))) .nil))) (.block 0 (.loop (.seq (.reg (.cons (some x23x) none (.bin .lss (.t x22x) (.t 
  x21x)) .nil)) (.seq (.cond (.t x23x) .skip (.exit 0)) (.seq (.block 1 (.seq (.reg (.cons (some x24x) none (.mv (.t x22x)) (.cons (some x9x) none (.mv (.t x24x)) .nil))) (.seq 
  (.seq (.reg (.cons (some x25x) none (.mv (.t x1x)) (.cons (some x26x) none (.len (.t x25x)) (.cons (some x27x) none (.mv (.c (.n 0))) .nil)))) (.block 2 (.loop (.seq (.reg (.cons 
  (some x28x) none (.bin .lss (.t x27x) (.t x26x)) .nil)) (.seq (.cond (.t x28x) .skip (.exit 2)) (.seq (.block 3 (.seq (.reg (.cons (some x29x) none (.mv (.t x27x)) (.cons (some 
  x30x) none (.ixs 1 (.t x25x) (.t x27x)) (.cons (some x31x) none (.ld 1 false (.t x30x)) (.cons (some x10x) none (.mv (.t x29x)) (.cons (some x11x) none (.mv (.t x31x)) .nil)))))) 
  (.seq (.reg (.cons (some x32x) none (.mv (.t x11x)) (.cons (some x33x) none (.mv (.t x9x)) (.cons (some x34x) none (.bin .eql (.t x32x) (.t x33x)) (.cons (some x35x) none (.mv 
  (.t x34x)) (.cons (some x36x) (some (.mk x35x true)) (.mv (.t x8x)) (.cons (some x37x) (some (.mk x35x true)) (.mv (.t x10x)) (.cons (some x38x) (some (.mk x35x true)) (.fad 1 
  (.t x3x)) (.cons (some x39x) (some (.mk x35x true)) (.ixa 8 8 (.t x38x) (.t x36x)) (.cons (some x40x) (some (.mk x35x true)) (.ixa 8 1 (.t x39x) (.t x37x)) (.cons (some x41x) 
  (some (.mk x35x true)) (.ld 1 false (.t x40x)) (.cons (some x42x) none (.pick (.t x35x) (.t x41x) (.c (.b false))) .nil)))))))))))) (.cond (.t x42x) (.exit 1) .skip)))) (.reg 
  (.cons (some x43x) none (.bin .add (.t x27x) (.c (.n 1))) (.cons (some x27x) none (.mv (.t x43x)) .nil))))))))) (.seq (.draw [(.mk (some x45x) none false [] false [] [] [x3x] 
  (.ld 65 true (.t x3x)) false [x3x] [] []), (.mk (some x46x) none true [] false [false] [] [x1x] (.mv (.t x1x)) false [] [] []), (.mk (some x47x) none false [] true [true, false] 
  [] [x46x] (.call 63 (.cons (.t x46x) .nil)) false [] [] []), (.mk (some x48x) none true [] false [false, false, false] [] [x9x] (.mv (.t x9x)) false [] [] []), (.mk (some x49x) 
  none true [] true [true, false, false, false] [] [x48x] (.bsl 3 1 1 (.cons (.n 0) .nil) (.cons 0 1 (.t x48x) .nil)) false [] [] []), (.mk (some x50x) none false [x47x, x49x] true 
  [true, true, true, true, false] [] [x47x, x49x] (.app 3 1 8 (.t x47x) (.t x49x)) false [] [x3x] []), (.mk (some x51x) none true [] false [false, false, false, false, false, 
  false] [] [x2x] (.mv (.t x2x)) false [] [] []), (.mk (some x52x) none false [] true [true, true, true, true, true, true, true] [] [x45x, x50x, x51x] (.call 59 (.cons (.t x45x) 
  (.cons (.t x50x) (.cons (.t x51x) .nil)))) false [] [] []), (.mk (some x44x) none true [] false [true, true, true, true, true, true, true, true] [] [x52x] (.mv (.t x52x)) false 
  [] [] []), (.mk (some x53x) none true [] false [true, true, true, true, true, true, true, true, true] [] [x44x] (.ext 0 (.t x44x)) false [] [] []), (.mk (some x54x) none true [] 
  false [false, true, true, true, true, true, true, true, true, true] [] [x44x] (.ext 1 (.t x44x)) false [] [] []), (.mk (some x12x) none true [] false [false, true, true, true, 
  true, true, true, true, true, true, true] [] [x53x] (.mv (.t x53x)) false [] [] []), (.mk (some x13x) none true [] false [true, true, true, true, true, true, true, true, true, 
  true, true, true] [] [x54x] (.mv (.t x54x)) false [] [] [])]) (.seq (.reg (.cons (some x55x) none (.mv (.t x13x)) .nil)) (.cond (.t x55x) (.seq (.reg (.cons (some x56x) none (.mv 
  (.t x12x)) (.cons (some x6x) none (.mv (.t x56x)) (.cons (some x7x) none (.mv (.c (.b true))) .nil)))) .ret) .skip)))))) (.reg (.cons (some x57x) none (.bin .add (.t x22x) (.c 
  (.n 1))) (.cons (some x22x) none (.mv (.t x57x)) .nil))))))))) (.seq (.reg (.cons (some x6x) none (.mv (.c .ns)) (.cons (some x7x) none (.mv (.c (.b false))) .nil))) .ret)))))) 
  [(.tmp x6x), (.tmp x7x)])
theorem cc59 : compF Try.prog drops true false Try.f59 = some i59 := by kernel_rfl
noncomputable def i60 : FnI := (.mk true false (.seq (.reg (.cons (some x2x) none (.box 61 (.t x0x)) (.cons (some x4x) none (.mv (.c .ns)) .nil))) (.seq (.reg (.cons (some x5x) none (.mv (.c .ns)) .nil)) (.seq 
  (.seq (.reg (.cons (some x7x) none (.fad 0 (.t x2x)) (.cons (some x8x) none (.ld 1 false (.t x7x)) (.cons (some x9x) none (.mv (.c (.n 0))) .nil)))) (.block 0 (.loop (.seq (.reg 
  (.cons (some x10x) none (.bin .lss (.t x9x) (.t x8x)) .nil)) (.seq (.cond (.t x10x) .skip (.exit 0)) (.seq (.block 1 (.seq (.reg (.cons (some x11x) none (.mv (.t x9x)) (.cons 
  (some x6x) none (.mv (.t x11x)) .nil))) (.seq (.reg (.cons (some x12x) none (.mv (.t x1x)) (.cons (some x13x) none (.mv (.t x6x)) (.cons (some x14x) none (.fad 1 (.t x2x)) (.cons 
  (some x15x) none (.ixa 8 8 (.t x14x) (.t x12x)) (.cons (some x16x) none (.ixa 8 1 (.t x15x) (.t x13x)) (.cons (some x17x) none (.ld 1 false (.t x16x)) (.cons (some x18x) none 
  (.not (.t x17x)) .nil)))))))) (.cond (.t x18x) (.reg (.cons (some x19x) none (.mv (.t x5x)) (.cons (some x20x) none (.mv (.t x6x)) (.cons (some x21x) none (.bsl 3 1 1 (.cons (.n 
  0) .nil) (.cons 0 1 (.t x20x) .nil)) (.cons (some x22x) none (.app 3 1 8 (.t x19x) (.t x21x)) (.cons (some x5x) none (.mv (.t x22x)) .nil)))))) .skip)))) (.reg (.cons (some x23x) 
  none (.bin .add (.t x9x) (.c (.n 1))) (.cons (some x9x) none (.mv (.t x23x)) .nil))))))))) (.seq (.reg (.cons (some x24x) none (.mv (.t x5x)) (.cons (some x4x) none (.mv (.t 
  x24x)) .nil))) .ret)))) [(.tmp x4x)])
theorem cc60 : compF Try.prog drops true false Try.f60 = some i60 := by kernel_rfl
noncomputable def i61 : FnI := (.mk true false (.seq (.reg (.cons (some x2x) none (.box 61 (.t x0x)) (.cons (some x3x) none (.box 83 (.t x1x)) (.cons (some x4x) none (.mv (.c .ns)) .nil)))) (.seq (.draw [(.mk 
  (some x8x) none true [] false [] [] [x3x] (.ixa 3 1 (.t x3x) (.c (.n 0))) false [] [] []), (.mk (some x9x) none false [] false [true] [] [x8x] (.ld 1 false (.t x8x)) false [] [] 
  []), (.mk (some x10x) none true [] false [false, false] [] [x3x] (.ixa 3 1 (.t x3x) (.c (.n 1))) false [] [] []), (.mk (some x11x) none false [] false [true, false, false] [] 
  [x10x] (.ld 1 false (.t x10x)) false [] [] []), (.mk (some x12x) none true [] false [false, false, false, false] [] [x3x] (.ixa 3 1 (.t x3x) (.c (.n 2))) false [] [] []), (.mk 
  (some x13x) none false [] false [true, false, false, false, false] [] [x12x] (.ld 1 false (.t x12x)) false [] [] []), (.mk (some x5x) none true [] false [false, false, false, 
  false, true, true] [] [x9x] (.mv (.t x9x)) false [] [] []), (.mk (some x6x) none true [] false [true, false, false, true, true, true, true] [] [x11x] (.mv (.t x11x)) false [] [] 
  []), (.mk (some x7x) none true [] false [true, true, true, true, true, true, true, true] [] [x13x] (.mv (.t x13x)) false [] [] [])]) (.seq (.block 0 (.seq (.draw [(.mk (some 
  x15x) none false [] false [] [] [x2x] (.ld 65 true (.t x2x)) false [] [] []), (.mk (some x16x) none true [] false [false] [] [x5x] (.mv (.t x5x)) false [] [] []), (.mk (some 
  x17x) none false [] false [true, true] [] [x15x, x16x] (.call 53 (.cons (.t x15x) (.cons (.t x16x) .nil))) false [] [] []), (.mk (some x18x) none false [] false [false, false, 
  false] [] [x2x] (.ld 65 true (.t x2x)) false [] [] []), (.mk (some x19x) none true [] false [false, false, false, false] [] [x6x] (.mv (.t x6x)) false [] [] []), (.mk (some x20x) 
  none false [] false [true, true, true, true, true] [] [x18x, x19x] (.call 53 (.cons (.t x18x) (.cons (.t x19x) .nil))) false [] [] []), (.mk (some x21x) none true [] false [true, 
  true, true, true, true, true] [] [x17x, x20x] (.bin .gtr (.t x17x) (.t x20x)) false [] [] []), (.mk (some x14x) none true [] false [true, true, true, true, true, true, true] [] 
  [x21x] (.mv (.t x21x)) false [] [] [])]) (.cond (.t x14x) (.seq (.reg (.cons (some x22x) none (.mv (.t x5x)) (.cons (some x23x) none (.mv (.t x6x)) (.cons (some x24x) none 
  (.build (.cons (.n 0) (.cons (.n 0) .nil)) (.cons 0 1 (.t x22x) (.cons 1 1 (.t x23x) .nil))) (.cons (some x25x) none (.bsl 66 2 1 (.cons (.n 0) (.cons (.n 0) .nil)) (.cons 0 2 
  (.t x24x) .nil)) (.cons (some x4x) none (.mv (.t x25x)) .nil)))))) .ret) (.seq (.draw [(.mk (some x27x) none false [] false [] [] [x2x] (.ld 65 true (.t x2x)) false [] [] []), 
  (.mk (some x28x) none true [] false [false] [] [x7x] (.mv (.t x7x)) false [] [] []), (.mk (some x29x) none false [] false [true, true] [] [x27x, x28x] (.call 53 (.cons (.t x27x) 
  (.cons (.t x28x) .nil))) false [] [] []), (.mk (some x30x) none false [] false [false, false, false] [] [x2x] (.ld 65 true (.t x2x)) false [] [] []), (.mk (some x31x) none true 
  [] false [false, false, false, false] [] [x6x] (.mv (.t x6x)) false [] [] []), (.mk (some x32x) none false [] false [true, true, true, true, true] [] [x30x, x31x] (.call 53 
  (.cons (.t x30x) (.cons (.t x31x) .nil))) false [] [] []), (.mk (some x33x) none true [] false [true, true, true, true, true, true] [] [x29x, x32x] (.bin .gtr (.t x29x) (.t 
  x32x)) false [] [] []), (.mk (some x26x) none true [] false [true, true, true, true, true, true, true] [] [x33x] (.mv (.t x33x)) false [] [] [])]) (.cond (.t x26x) (.seq (.reg 
  (.cons (some x34x) none (.mv (.t x7x)) (.cons (some x35x) none (.mv (.t x6x)) (.cons (some x36x) none (.build (.cons (.n 0) (.cons (.n 0) .nil)) (.cons 0 1 (.t x34x) (.cons 1 1 
  (.t x35x) .nil))) (.cons (some x37x) none (.bsl 66 2 1 (.cons (.n 0) (.cons (.n 0) .nil)) (.cons 0 2 (.t x36x) .nil)) (.cons (some x4x) none (.mv (.t x37x)) .nil)))))) .ret) 
  .skip))))) (.seq (.reg (.cons (some x38x) none (.mv (.t x6x)) (.cons (some x39x) none (.mv (.t x5x)) (.cons (some x40x) none (.build (.cons (.n 0) (.cons (.n 0) .nil)) (.cons 0 1 
  (.t x38x) (.cons 1 1 (.t x39x) .nil))) (.cons (some x41x) none (.mv (.t x6x)) (.cons (some x42x) none (.mv (.t x7x)) (.cons (some x43x) none (.build (.cons (.n 0) (.cons (.n 0) 
  .nil)) (.cons 0 1 (.t x41x) (.cons 1 1 (.t x42x) .nil))) (.cons (some x44x) none (.bsl 66 2 2 (.cons (.n 0) (.cons (.n 0) (.cons (.n 0) (.cons (.n 0) .nil)))) (.cons 0 2 (.t 
  x40x) (.cons 2 2 (.t x43x) .nil))) (.cons (some x4x) none (.mv (.t x44x)) .nil))))))))) .ret)))) [(.tmp x4x)])
theorem cc61 : compF Try.prog drops true false Try.f61 = some i61 := by kernel_rfl
noncomputable def i62 : FnI := (.mk true true (.seq (.reg (.cons (some x2x) none (.mv (.c (.b false))) .nil)) (.seq (.reg (.cons (some x3x) none (.mv (.t x0x)) (.cons (some x4x) none (.mv (.t x0x)) (.cons (some 
  x5x) none (.bin .neq (.t x3x) (.t x4x)) (.cons (some x2x) none (.mv (.t x5x)) .nil))))) .ret)) [(.tmp x2x)])
theorem cc62 : compF Try.prog drops true true Try.f62 = some i62 := by kernel_rfl
noncomputable def i63 : FnI := (.mk true false (.seq (.reg (.cons (some x2x) none (.mv (.c .ns)) .nil)) (.seq (.seq (.reg (.cons (some x3x) none (.mv (.t x0x)) (.cons (some x4x) none (.eqn false (.t x3x) (.c 
  .ns)) .nil))) (.cond (.t x4x) (.seq (.reg (.cons (some x2x) none (.mv (.c .ns)) .nil)) .ret) .skip)) (.seq (.reg (.cons (some x5x) none (.bsl 3 1 0 .nil .nil) (.cons (some x6x) 
  none (.mv (.t x0x)) (.cons (some x7x) none (.app 3 1 8 (.t x5x) (.t x6x)) (.cons (some x2x) none (.mv (.t x7x)) .nil))))) .ret))) [(.tmp x2x)])
theorem cc63 : compF Try.prog drops true false Try.f63 = some i63 := by kernel_rfl
noncomputable def fs63 : List (Nat × FnI) := (63, i63) :: []
theorem l63 : Listed Try.prog fs63 := listed_cons Try.func63 cc63 listed_nil (by decide)
noncomputable def fs62 : List (Nat × FnI) := (62, i62) :: fs63
theorem l62 : Listed Try.prog fs62 := listed_cons Try.func62 cc62 l63 (by decide)
noncomputable def fs61 : List (Nat × FnI) := (61, i61) :: fs62
theorem l61 : Listed Try.prog fs61 := listed_cons Try.func61 cc61 l62 (by decide)
noncomputable def fs60 : List (Nat × FnI) := (60, i60) :: fs61
theorem l60 : Listed Try.prog fs60 := listed_cons Try.func60 cc60 l61 (by decide)
noncomputable def fs59 : List (Nat × FnI) := (59, i59) :: fs60
theorem l59 : Listed Try.prog fs59 := listed_cons Try.func59 cc59 l60 (by decide)
noncomputable def fs58 : List (Nat × FnI) := (58, i58) :: fs59
theorem l58 : Listed Try.prog fs58 := listed_cons Try.func58 cc58 l59 (by decide)
noncomputable def fs57 : List (Nat × FnI) := (57, i57) :: fs58
theorem l57 : Listed Try.prog fs57 := listed_cons Try.func57 cc57 l58 (by decide)
noncomputable def fs56 : List (Nat × FnI) := (56, i56) :: fs57
theorem l56 : Listed Try.prog fs56 := listed_cons Try.func56 cc56 l57 (by decide)
noncomputable def fs55 : List (Nat × FnI) := (55, i55) :: fs56
theorem l55 : Listed Try.prog fs55 := listed_cons Try.func55 cc55 l56 (by decide)
noncomputable def fs54 : List (Nat × FnI) := (54, i54) :: fs55
theorem l54 : Listed Try.prog fs54 := listed_cons Try.func54 cc54 l55 (by decide)
noncomputable def fs53 : List (Nat × FnI) := (53, i53) :: fs54
theorem l53 : Listed Try.prog fs53 := listed_cons Try.func53 cc53 l54 (by decide)
noncomputable def fs52 : List (Nat × FnI) := (52, i52) :: fs53
theorem l52 : Listed Try.prog fs52 := listed_cons Try.func52 cc52 l53 (by decide)
noncomputable def fs51 : List (Nat × FnI) := (51, i51) :: fs52
theorem l51 : Listed Try.prog fs51 := listed_cons Try.func51 cc51 l52 (by decide)
noncomputable def fs50 : List (Nat × FnI) := (50, i50) :: fs51
theorem l50 : Listed Try.prog fs50 := listed_cons Try.func50 cc50 l51 (by decide)
noncomputable def fs49 : List (Nat × FnI) := (49, i49) :: fs50
theorem l49 : Listed Try.prog fs49 := listed_cons Try.func49 cc49 l50 (by decide)
noncomputable def fs48 : List (Nat × FnI) := (48, i48) :: fs49
theorem l48 : Listed Try.prog fs48 := listed_cons Try.func48 cc48 l49 (by decide)
noncomputable def fs47 : List (Nat × FnI) := (47, i47) :: fs48
theorem l47 : Listed Try.prog fs47 := listed_cons Try.func47 cc47 l48 (by decide)
noncomputable def fs46 : List (Nat × FnI) := (46, i46) :: fs47
theorem l46 : Listed Try.prog fs46 := listed_cons Try.func46 cc46 l47 (by decide)
noncomputable def fs45 : List (Nat × FnI) := (45, i45) :: fs46
theorem l45 : Listed Try.prog fs45 := listed_cons Try.func45 cc45 l46 (by decide)
noncomputable def fs44 : List (Nat × FnI) := (44, i44) :: fs45
theorem l44 : Listed Try.prog fs44 := listed_cons Try.func44 cc44 l45 (by decide)
noncomputable def fs43 : List (Nat × FnI) := (43, i43) :: fs44
theorem l43 : Listed Try.prog fs43 := listed_cons Try.func43 cc43 l44 (by decide)
noncomputable def fs42 : List (Nat × FnI) := (42, i42) :: fs43
theorem l42 : Listed Try.prog fs42 := listed_cons Try.func42 cc42 l43 (by decide)
noncomputable def fs41 : List (Nat × FnI) := (41, i41) :: fs42
theorem l41 : Listed Try.prog fs41 := listed_cons Try.func41 cc41 l42 (by decide)
noncomputable def fs40 : List (Nat × FnI) := (40, i40) :: fs41
theorem l40 : Listed Try.prog fs40 := listed_cons Try.func40 cc40 l41 (by decide)
noncomputable def fs39 : List (Nat × FnI) := (39, i39) :: fs40
theorem l39 : Listed Try.prog fs39 := listed_cons Try.func39 cc39 l40 (by decide)
noncomputable def fs38 : List (Nat × FnI) := (38, i38) :: fs39
theorem l38 : Listed Try.prog fs38 := listed_cons Try.func38 cc38 l39 (by decide)
noncomputable def fs37 : List (Nat × FnI) := (37, i37) :: fs38
theorem l37 : Listed Try.prog fs37 := listed_cons Try.func37 cc37 l38 (by decide)
noncomputable def fs36 : List (Nat × FnI) := (36, i36) :: fs37
theorem l36 : Listed Try.prog fs36 := listed_cons Try.func36 cc36 l37 (by decide)
noncomputable def fs35 : List (Nat × FnI) := (35, i35) :: fs36
theorem l35 : Listed Try.prog fs35 := listed_cons Try.func35 cc35 l36 (by decide)
noncomputable def fs34 : List (Nat × FnI) := (34, i34) :: fs35
theorem l34 : Listed Try.prog fs34 := listed_cons Try.func34 cc34 l35 (by decide)
noncomputable def fs33 : List (Nat × FnI) := (33, i33) :: fs34
theorem l33 : Listed Try.prog fs33 := listed_cons Try.func33 cc33 l34 (by decide)
noncomputable def fs32 : List (Nat × FnI) := (32, i32) :: fs33
theorem l32 : Listed Try.prog fs32 := listed_cons Try.func32 cc32 l33 (by decide)
noncomputable def fs31 : List (Nat × FnI) := (31, i31) :: fs32
theorem l31 : Listed Try.prog fs31 := listed_cons Try.func31 cc31 l32 (by decide)
noncomputable def fs30 : List (Nat × FnI) := (30, i30) :: fs31
theorem l30 : Listed Try.prog fs30 := listed_cons Try.func30 cc30 l31 (by decide)
noncomputable def fs29 : List (Nat × FnI) := (29, i29) :: fs30
theorem l29 : Listed Try.prog fs29 := listed_cons Try.func29 cc29 l30 (by decide)
noncomputable def fs28 : List (Nat × FnI) := (28, i28) :: fs29
theorem l28 : Listed Try.prog fs28 := listed_cons Try.func28 cc28 l29 (by decide)
noncomputable def fs27 : List (Nat × FnI) := (27, i27) :: fs28
theorem l27 : Listed Try.prog fs27 := listed_cons Try.func27 cc27 l28 (by decide)
noncomputable def fs26 : List (Nat × FnI) := (26, i26) :: fs27
theorem l26 : Listed Try.prog fs26 := listed_cons Try.func26 cc26 l27 (by decide)
noncomputable def fs25 : List (Nat × FnI) := (25, i25) :: fs26
theorem l25 : Listed Try.prog fs25 := listed_cons Try.func25 cc25 l26 (by decide)
noncomputable def fs24 : List (Nat × FnI) := (24, i24) :: fs25
theorem l24 : Listed Try.prog fs24 := listed_cons Try.func24 cc24 l25 (by decide)
noncomputable def fs23 : List (Nat × FnI) := (23, i23) :: fs24
theorem l23 : Listed Try.prog fs23 := listed_cons Try.func23 cc23 l24 (by decide)
noncomputable def fs22 : List (Nat × FnI) := (22, i22) :: fs23
theorem l22 : Listed Try.prog fs22 := listed_cons Try.func22 cc22 l23 (by decide)
noncomputable def fs21 : List (Nat × FnI) := (21, i21) :: fs22
theorem l21 : Listed Try.prog fs21 := listed_cons Try.func21 cc21 l22 (by decide)
noncomputable def fs20 : List (Nat × FnI) := (20, i20) :: fs21
theorem l20 : Listed Try.prog fs20 := listed_cons Try.func20 cc20 l21 (by decide)
noncomputable def fs19 : List (Nat × FnI) := (19, i19) :: fs20
theorem l19 : Listed Try.prog fs19 := listed_cons Try.func19 cc19 l20 (by decide)
noncomputable def fs18 : List (Nat × FnI) := (18, i18) :: fs19
theorem l18 : Listed Try.prog fs18 := listed_cons Try.func18 cc18 l19 (by decide)
noncomputable def fs17 : List (Nat × FnI) := (17, i17) :: fs18
theorem l17 : Listed Try.prog fs17 := listed_cons Try.func17 cc17 l18 (by decide)
noncomputable def fs16 : List (Nat × FnI) := (16, i16) :: fs17
theorem l16 : Listed Try.prog fs16 := listed_cons Try.func16 cc16 l17 (by decide)
noncomputable def fs15 : List (Nat × FnI) := (15, i15) :: fs16
theorem l15 : Listed Try.prog fs15 := listed_cons Try.func15 cc15 l16 (by decide)
noncomputable def fs14 : List (Nat × FnI) := (14, i14) :: fs15
theorem l14 : Listed Try.prog fs14 := listed_cons Try.func14 cc14 l15 (by decide)
noncomputable def fs13 : List (Nat × FnI) := (13, i13) :: fs14
theorem l13 : Listed Try.prog fs13 := listed_cons Try.func13 cc13 l14 (by decide)
noncomputable def fs12 : List (Nat × FnI) := (12, i12) :: fs13
theorem l12 : Listed Try.prog fs12 := listed_cons Try.func12 cc12 l13 (by decide)
noncomputable def fs11 : List (Nat × FnI) := (11, i11) :: fs12
theorem l11 : Listed Try.prog fs11 := listed_cons Try.func11 cc11 l12 (by decide)
noncomputable def fs10 : List (Nat × FnI) := (10, i10) :: fs11
theorem l10 : Listed Try.prog fs10 := listed_cons Try.func10 cc10 l11 (by decide)
noncomputable def fs9 : List (Nat × FnI) := (9, i9) :: fs10
theorem l9 : Listed Try.prog fs9 := listed_cons Try.func9 cc9 l10 (by decide)
noncomputable def fs8 : List (Nat × FnI) := (8, i8) :: fs9
theorem l8 : Listed Try.prog fs8 := listed_cons Try.func8 cc8 l9 (by decide)
noncomputable def fs7 : List (Nat × FnI) := (7, i7) :: fs8
theorem l7 : Listed Try.prog fs7 := listed_cons Try.func7 cc7 l8 (by decide)
noncomputable def fs6 : List (Nat × FnI) := (6, i6) :: fs7
theorem l6 : Listed Try.prog fs6 := listed_cons Try.func6 cc6 l7 (by decide)
noncomputable def fs5 : List (Nat × FnI) := (5, i5) :: fs6
theorem l5 : Listed Try.prog fs5 := listed_cons Try.func5 cc5 l6 (by decide)
noncomputable def FS : List (Nat × FnI) := fs5
theorem listed : Listed Try.prog FS := l5
noncomputable def cmp : Nat → Code → Option IC := fun N c => compC Try.prog drops N c
noncomputable def PRT : FT := FT.of FS
noncomputable def EQ (W : FF → FF) (d : Nat) : FF := evQ cmp PRT W d
noncomputable def EF (d : Nat) : FF := EQ (fun G => G) d
theorem follows : Try.prog.follows .mixedOrders = true := by kernel_rfl
theorem EQ_ok {W : FF → FF} (hM : ∀ G, FF.mono G → (W G).mono) (hW : ∀ G, FOK Try.prog G → FOK Try.prog (W G)) (d : Nat) : FOK Try.prog (EQ W d) := evQ_sound follows listed hM hW d
theorem EQ_mono {W : FF → FF} (hM : ∀ G, FF.mono G → (W G).mono) (d : Nat) : (EQ W d).mono := evQ_mono _ _ hM d
theorem EF_ok (d : Nat) : FOK Try.prog (EF d) := EQ_ok (fun _ h => h) (fun _ h => h) d
theorem EF_mono (d : Nat) : (EF d).mono := EQ_mono (fun _ h => h) d
def zs64 : List Int := [0, 1, 56, 2, 57, 49, 28, 3, 61, 58, 42, 50, 38, 29, 17, 4, 62, 47, 59, 36, 45, 43, 51, 22, 53, 39, 33, 30, 24, 18, 12, 5, 63, 55, 48, 27, 60, 41, 37, 16, 46, 35, 44, 21, 52, 32, 23, 11, 54, 26, 40, 15, 34, 20, 31, 10, 25, 14, 19, 9, 13, 8, 7, 6]
noncomputable def tbH (el : TypeId) : Hp := tabH [(1, el, kL .u8 zs64)]
end Go.Proofs.Ytkdbnhjipnnhjaa.Ev
