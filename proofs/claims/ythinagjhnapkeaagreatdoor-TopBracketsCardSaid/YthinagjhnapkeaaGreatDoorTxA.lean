/- TopBrackets: the dyes cut down; what is left is run for each tray. -/
import Derived.Test.YthinagjhnapkeaaGreatDoorTxW
namespace Go.Proofs.YthinagjhnapkeaaGreatDoor.Ev
set_option linter.unusedVariables false
set_option linter.unusedSimpArgs false
set_option maxRecDepth 100000
open Go Go.Proofs Go.RowKit
def x80x : Pos := (.i (.o (.o (.o (.i (.o .h))))))
def x81x : Pos := (.o (.i (.o (.o (.i (.o .h))))))
def x82x : Pos := (.i (.i (.o (.o (.i (.o .h))))))
def x83x : Pos := (.o (.o (.i (.o (.i (.o .h))))))
def x84x : Pos := (.i (.o (.i (.o (.i (.o .h))))))
def x85x : Pos := (.o (.i (.i (.o (.i (.o .h))))))
def x86x : Pos := (.i (.i (.i (.o (.i (.o .h))))))
def x87x : Pos := (.o (.o (.o (.i (.i (.o .h))))))
def x88x : Pos := (.i (.o (.o (.i (.i (.o .h))))))
def x89x : Pos := (.o (.i (.o (.i (.i (.o .h))))))
def x90x : Pos := (.i (.i (.o (.i (.i (.o .h))))))
def x91x : Pos := (.o (.o (.i (.i (.i (.o .h))))))
def x92x : Pos := (.i (.o (.i (.i (.i (.o .h))))))
def x93x : Pos := (.o (.i (.i (.i (.i (.o .h))))))
def x94x : Pos := (.i (.i (.i (.i (.i (.o .h))))))
def x95x : Pos := (.o (.o (.o (.o (.o (.i .h))))))
def x96x : Pos := (.i (.o (.o (.o (.o (.i .h))))))
def x97x : Pos := (.o (.i (.o (.o (.o (.i .h))))))
def x98x : Pos := (.i (.i (.o (.o (.o (.i .h))))))
def x99x : Pos := (.o (.o (.i (.o (.o (.i .h))))))
def x100x : Pos := (.i (.o (.i (.o (.o (.i .h))))))
def x101x : Pos := (.o (.i (.i (.o (.o (.i .h))))))
def x102x : Pos := (.i (.i (.i (.o (.o (.i .h))))))
def x103x : Pos := (.o (.o (.o (.i (.o (.i .h))))))
def x104x : Pos := (.i (.o (.o (.i (.o (.i .h))))))
def x105x : Pos := (.o (.i (.o (.i (.o (.i .h))))))
def x106x : Pos := (.i (.i (.o (.i (.o (.i .h))))))
def x107x : Pos := (.o (.o (.i (.i (.o (.i .h))))))
def x108x : Pos := (.i (.o (.i (.i (.o (.i .h))))))
def x109x : Pos := (.o (.i (.i (.i (.o (.i .h))))))
def x110x : Pos := (.i (.i (.i (.i (.o (.i .h))))))
def x111x : Pos := (.o (.o (.o (.o (.i (.i .h))))))
def x112x : Pos := (.i (.o (.o (.o (.i (.i .h))))))
def x113x : Pos := (.o (.i (.o (.o (.i (.i .h))))))
def x114x : Pos := (.i (.i (.o (.o (.i (.i .h))))))
def x115x : Pos := (.o (.o (.i (.o (.i (.i .h))))))
def x116x : Pos := (.i (.o (.i (.o (.i (.i .h))))))
def x117x : Pos := (.o (.i (.i (.o (.i (.i .h))))))
def x118x : Pos := (.i (.i (.i (.o (.i (.i .h))))))
def x119x : Pos := (.o (.o (.o (.i (.i (.i .h))))))
def x120x : Pos := (.i (.o (.o (.i (.i (.i .h))))))
def x121x : Pos := (.o (.i (.o (.i (.i (.i .h))))))
def x122x : Pos := (.i (.i (.o (.i (.i (.i .h))))))
def x123x : Pos := (.o (.o (.i (.i (.i (.i .h))))))
def x124x : Pos := (.i (.o (.i (.i (.i (.i .h))))))
def x125x : Pos := (.o (.i (.i (.i (.i (.i .h))))))
def x126x : Pos := (.i (.i (.i (.i (.i (.i .h))))))
def x127x : Pos := (.o (.o (.o (.o (.o (.o (.o .h)))))))
def x128x : Pos := (.i (.o (.o (.o (.o (.o (.o .h)))))))
def x129x : Pos := (.o (.i (.o (.o (.o (.o (.o .h)))))))
def x130x : Pos := (.i (.i (.o (.o (.o (.o (.o .h)))))))
def x131x : Pos := (.o (.o (.i (.o (.o (.o (.o .h)))))))
def x132x : Pos := (.i (.o (.i (.o (.o (.o (.o .h)))))))
def x133x : Pos := (.o (.i (.i (.o (.o (.o (.o .h)))))))
def x134x : Pos := (.i (.i (.i (.o (.o (.o (.o .h)))))))
def x135x : Pos := (.o (.o (.o (.i (.o (.o (.o .h)))))))
def x136x : Pos := (.i (.o (.o (.i (.o (.o (.o .h)))))))
def x137x : Pos := (.o (.i (.o (.i (.o (.o (.o .h)))))))
def x138x : Pos := (.i (.i (.o (.i (.o (.o (.o .h)))))))
def x139x : Pos := (.o (.o (.i (.i (.o (.o (.o .h)))))))
def x140x : Pos := (.i (.o (.i (.i (.o (.o (.o .h)))))))
def x141x : Pos := (.o (.i (.i (.i (.o (.o (.o .h)))))))
def x142x : Pos := (.i (.i (.i (.i (.o (.o (.o .h)))))))
def x143x : Pos := (.o (.o (.o (.o (.i (.o (.o .h)))))))
def x144x : Pos := (.i (.o (.o (.o (.i (.o (.o .h)))))))
def x145x : Pos := (.o (.i (.o (.o (.i (.o (.o .h)))))))
def x146x : Pos := (.i (.i (.o (.o (.i (.o (.o .h)))))))
def x147x : Pos := (.o (.o (.i (.o (.i (.o (.o .h)))))))
def x148x : Pos := (.i (.o (.i (.o (.i (.o (.o .h)))))))
def x149x : Pos := (.o (.i (.i (.o (.i (.o (.o .h)))))))
def x150x : Pos := (.i (.i (.i (.o (.i (.o (.o .h)))))))
def x151x : Pos := (.o (.o (.o (.i (.i (.o (.o .h)))))))
def x152x : Pos := (.i (.o (.o (.i (.i (.o (.o .h)))))))
def x153x : Pos := (.o (.i (.o (.i (.i (.o (.o .h)))))))
def x154x : Pos := (.i (.i (.o (.i (.i (.o (.o .h)))))))
def x155x : Pos := (.o (.o (.i (.i (.i (.o (.o .h)))))))
def x156x : Pos := (.i (.o (.i (.i (.i (.o (.o .h)))))))
def x157x : Pos := (.o (.i (.i (.i (.i (.o (.o .h)))))))
def x158x : Pos := (.i (.i (.i (.i (.i (.o (.o .h)))))))
def x159x : Pos := (.o (.o (.o (.o (.o (.i (.o .h)))))))
def x160x : Pos := (.i (.o (.o (.o (.o (.i (.o .h)))))))
def x161x : Pos := (.o (.i (.o (.o (.o (.i (.o .h)))))))
def x162x : Pos := (.i (.i (.o (.o (.o (.i (.o .h)))))))
def x163x : Pos := (.o (.o (.i (.o (.o (.i (.o .h)))))))
def x164x : Pos := (.i (.o (.i (.o (.o (.i (.o .h)))))))
def x165x : Pos := (.o (.i (.i (.o (.o (.i (.o .h)))))))
def x166x : Pos := (.i (.i (.i (.o (.o (.i (.o .h)))))))
def x167x : Pos := (.o (.o (.o (.i (.o (.i (.o .h)))))))
def x168x : Pos := (.i (.o (.o (.i (.o (.i (.o .h)))))))
def x169x : Pos := (.o (.i (.o (.i (.o (.i (.o .h)))))))
def x170x : Pos := (.i (.i (.o (.i (.o (.i (.o .h)))))))
def x171x : Pos := (.o (.o (.i (.i (.o (.i (.o .h)))))))
def x172x : Pos := (.i (.o (.i (.i (.o (.i (.o .h)))))))
def x173x : Pos := (.o (.i (.i (.i (.o (.i (.o .h)))))))
def x174x : Pos := (.i (.i (.i (.i (.o (.i (.o .h)))))))
def x175x : Pos := (.o (.o (.o (.o (.i (.i (.o .h)))))))
def x176x : Pos := (.i (.o (.o (.o (.i (.i (.o .h)))))))
def x177x : Pos := (.o (.i (.o (.o (.i (.i (.o .h)))))))
def x178x : Pos := (.i (.i (.o (.o (.i (.i (.o .h)))))))
def x179x : Pos := (.o (.o (.i (.o (.i (.i (.o .h)))))))
def x180x : Pos := (.i (.o (.i (.o (.i (.i (.o .h)))))))
def x181x : Pos := (.o (.i (.i (.o (.i (.i (.o .h)))))))
def x182x : Pos := (.i (.i (.i (.o (.i (.i (.o .h)))))))
def x183x : Pos := (.o (.o (.o (.i (.i (.i (.o .h)))))))
def x184x : Pos := (.i (.o (.o (.i (.i (.i (.o .h)))))))
def x185x : Pos := (.o (.i (.o (.i (.i (.i (.o .h)))))))
def x186x : Pos := (.i (.i (.o (.i (.i (.i (.o .h)))))))
def x187x : Pos := (.o (.o (.i (.i (.i (.i (.o .h)))))))
def x188x : Pos := (.i (.o (.i (.i (.i (.i (.o .h)))))))
def x189x : Pos := (.o (.i (.i (.i (.i (.i (.o .h)))))))
def x190x : Pos := (.i (.i (.i (.i (.i (.i (.o .h)))))))
def x191x : Pos := (.o (.o (.o (.o (.o (.o (.i .h)))))))
def x192x : Pos := (.i (.o (.o (.o (.o (.o (.i .h)))))))
def x193x : Pos := (.o (.i (.o (.o (.o (.o (.i .h)))))))
def x194x : Pos := (.i (.i (.o (.o (.o (.o (.i .h)))))))
def x195x : Pos := (.o (.o (.i (.o (.o (.o (.i .h)))))))
def x196x : Pos := (.i (.o (.i (.o (.o (.o (.i .h)))))))
def x197x : Pos := (.o (.i (.i (.o (.o (.o (.i .h)))))))
def x198x : Pos := (.i (.i (.i (.o (.o (.o (.i .h)))))))
def x199x : Pos := (.o (.o (.o (.i (.o (.o (.i .h)))))))
def x200x : Pos := (.i (.o (.o (.i (.o (.o (.i .h)))))))
def x201x : Pos := (.o (.i (.o (.i (.o (.o (.i .h)))))))
def x202x : Pos := (.i (.i (.o (.i (.o (.o (.i .h)))))))
def x203x : Pos := (.o (.o (.i (.i (.o (.o (.i .h)))))))
def x204x : Pos := (.i (.o (.i (.i (.o (.o (.i .h)))))))
def x205x : Pos := (.o (.i (.i (.i (.o (.o (.i .h)))))))
def x206x : Pos := (.i (.i (.i (.i (.o (.o (.i .h)))))))
def x207x : Pos := (.o (.o (.o (.o (.i (.o (.i .h)))))))
def x208x : Pos := (.i (.o (.o (.o (.i (.o (.i .h)))))))
def x209x : Pos := (.o (.i (.o (.o (.i (.o (.i .h)))))))
def x210x : Pos := (.i (.i (.o (.o (.i (.o (.i .h)))))))
def x211x : Pos := (.o (.o (.i (.o (.i (.o (.i .h)))))))
def x212x : Pos := (.i (.o (.i (.o (.i (.o (.i .h)))))))
def x213x : Pos := (.o (.i (.i (.o (.i (.o (.i .h)))))))
def x214x : Pos := (.i (.i (.i (.o (.i (.o (.i .h)))))))
def x215x : Pos := (.o (.o (.o (.i (.i (.o (.i .h)))))))
def x216x : Pos := (.i (.o (.o (.i (.i (.o (.i .h)))))))
def x217x : Pos := (.o (.i (.o (.i (.i (.o (.i .h)))))))
def x218x : Pos := (.i (.i (.o (.i (.i (.o (.i .h)))))))
def x219x : Pos := (.o (.o (.i (.i (.i (.o (.i .h)))))))
def x220x : Pos := (.i (.o (.i (.i (.i (.o (.i .h)))))))
def x221x : Pos := (.o (.i (.i (.i (.i (.o (.i .h)))))))
def x222x : Pos := (.i (.i (.i (.i (.i (.o (.i .h)))))))
def x223x : Pos := (.o (.o (.o (.o (.o (.i (.i .h)))))))
def x224x : Pos := (.i (.o (.o (.o (.o (.i (.i .h)))))))
def x225x : Pos := (.o (.i (.o (.o (.o (.i (.i .h)))))))
def x226x : Pos := (.i (.i (.o (.o (.o (.i (.i .h)))))))
def x227x : Pos := (.o (.o (.i (.o (.o (.i (.i .h)))))))
def x228x : Pos := (.i (.o (.i (.o (.o (.i (.i .h)))))))
def x229x : Pos := (.o (.i (.i (.o (.o (.i (.i .h)))))))
def x230x : Pos := (.i (.i (.i (.o (.o (.i (.i .h)))))))
def x231x : Pos := (.o (.o (.o (.i (.o (.i (.i .h)))))))
def x232x : Pos := (.i (.o (.o (.i (.o (.i (.i .h)))))))
def x233x : Pos := (.o (.i (.o (.i (.o (.i (.i .h)))))))
def x234x : Pos := (.i (.i (.o (.i (.o (.i (.i .h)))))))
def x235x : Pos := (.o (.o (.i (.i (.o (.i (.i .h)))))))
def x236x : Pos := (.i (.o (.i (.i (.o (.i (.i .h)))))))
noncomputable def i3 : FnI := (.mk true true (.seq (.reg (.cons (some x4x) none (.mv (.c (.b false))) .nil)) (.seq (.reg (.cons (some x32x) none (.mv (.t x0x)) (.cons (some x33x) none (.conv .i64 (.t x32x)) 
  (.cons (some x34x) none (.bin .rem (.t x33x) (.c (.n 6))) (.cons (some x35x) none (.bin .add (.c (.n 1)) (.t x34x)) (.cons (some x5x) none (.mv (.t x35x)) .nil)))))) (.seq (.reg 
  (.cons (some x36x) none (.mv (.t x1x)) (.cons (some x37x) none (.conv .i64 (.t x36x)) (.cons (some x38x) none (.mv (.t x5x)) (.cons (some x39x) none (.call 5 (.cons (.t x37x) 
  (.cons (.t x38x) .nil))) (.cons (some x6x) none (.mv (.t x39x)) .nil)))))) (.seq (.reg (.cons (some x7x) none (.mv (.c (.s []))) .nil)) (.seq (.seq (.reg (.cons (some x40x) none 
  (.mv (.t x5x)) (.cons (some x41x) none (.mv (.c (.n 0))) .nil))) (.block 0 (.loop (.seq (.reg (.cons (some x42x) none (.bin .lss (.t x41x) (.t x40x)) .nil)) (.seq (.cond (.t 
  x42x) .skip (.exit 0)) (.seq (.block 1 (.seq (.reg (.cons (some x43x) none (.mv (.t x41x)) (.cons (some x8x) none (.mv (.t x43x)) .nil))) (.seq (.reg (.cons (some x44x) none (.mv 
  (.t x1x)) (.cons (some x45x) none (.conv .i64 (.t x44x)) (.cons (some x46x) none (.mv (.t x8x)) (.cons (some x47x) none (.bin .shr (.t x45x) (.t x46x)) (.cons (some x48x) none 
  (.bin .and (.t x47x) (.c (.n 1))) (.cons (some x49x) none (.bin .eql (.t x48x) (.c (.n 1))) .nil))))))) (.cond (.t x49x) (.reg (.cons (some x50x) none (.mv (.t x7x)) (.cons (some 
  x51x) none (.sbi .add (.t x50x) (.c (.s [110]))) (.cons (some x7x) none (.mv (.t x51x)) .nil)))) (.reg (.cons (some x52x) none (.mv (.t x7x)) (.cons (some x53x) none (.sbi .add 
  (.t x52x) (.c (.s [99]))) (.cons (some x7x) none (.mv (.t x53x)) .nil)))))))) (.reg (.cons (some x54x) none (.bin .add (.t x41x) (.c (.n 1))) (.cons (some x41x) none (.mv (.t 
  x54x)) .nil))))))))) (.seq (.reg (.cons (some x56x) none (.mv (.t x5x)) (.cons (some x57x) none (.mv (.t x6x)) (.cons (some x58x) none (.call 6 (.cons (.t x56x) (.cons (.t x57x) 
  .nil))) (.cons (some x55x) none (.mv (.t x58x)) (.cons (some x59x) none (.ext 0 (.t x55x)) (.cons (some x60x) none (.ext 1 (.t x55x)) (.cons (some x9x) none (.mv (.t x59x)) 
  (.cons (some x10x) none (.mv (.t x60x)) .nil))))))))) (.seq (.reg (.cons (some x62x) none (.mv (.t x7x)) (.cons (some x63x) none (.call 7 (.cons (.t x62x) .nil)) (.cons (some 
  x61x) none (.mv (.t x63x)) (.cons (some x64x) none (.ext 0 (.t x61x)) (.cons (some x65x) none (.ext 1 (.t x61x)) (.cons (some x11x) none (.mv (.t x64x)) (.cons (some x12x) none 
  (.mv (.t x65x)) .nil)))))))) (.seq (.reg (.cons (some x67x) none (.mv (.t x5x)) (.cons (some x68x) none (.mv (.t x6x)) (.cons (some x69x) none (.call 8 (.cons (.t x67x) (.cons 
  (.t x68x) .nil))) (.cons (some x66x) none (.mv (.t x69x)) (.cons (some x70x) none (.ext 0 (.t x66x)) (.cons (some x71x) none (.ext 1 (.t x66x)) (.cons (some x13x) none (.mv (.t 
  x70x)) (.cons (some x14x) none (.mv (.t x71x)) .nil))))))))) (.seq (.seq (.reg (.cons (some x72x) none (.mv (.t x10x)) (.cons (some x73x) none (.bin .neq (.t x72x) (.c (.n 0))) 
  (.cons (some x74x) none (.mv (.t x73x)) (.cons (some x75x) (some (.mk x74x false)) (.mv (.t x12x)) (.cons (some x76x) (some (.mk x74x false)) (.bin .neq (.t x75x) (.c (.n 0))) 
  (.cons (some x77x) none (.pick (.t x74x) (.c (.b true)) (.t x76x)) (.cons (some x78x) none (.mv (.t x77x)) (.cons (some x79x) (some (.mk x78x false)) (.mv (.t x14x)) (.cons (some 
  x80x) (some (.mk x78x false)) (.bin .neq (.t x79x) (.c (.n 0))) (.cons (some x81x) none (.pick (.t x78x) (.c (.b true)) (.t x80x)) (.cons (some x82x) none (.mv (.t x81x)) (.cons 
  (some x83x) (some (.mk x82x false)) (.mv (.t x13x)) (.cons (some x84x) (some (.mk x82x false)) (.len (.t x83x)) (.cons (some x85x) (some (.mk x82x false)) (.mv (.t x9x)) (.cons 
  (some x86x) (some (.mk x82x false)) (.len (.t x85x)) (.cons (some x87x) (some (.mk x82x false)) (.bin .add (.t x86x) (.c (.n 1))) (.cons (some x88x) (some (.mk x82x false)) (.bin 
  .neq (.t x84x) (.t x87x)) (.cons (some x89x) none (.pick (.t x82x) (.c (.b true)) (.t x88x)) .nil))))))))))))))))))) (.cond (.t x89x) (.seq (.reg (.cons (some x4x) none (.mv (.c 
  (.b false))) .nil)) .ret) .skip)) (.seq (.reg (.cons (some x15x) none (.mv (.c (.n 0))) .nil)) (.seq (.seq (.reg (.cons (some x90x) none (.mv (.t x9x)) (.cons (some x91x) none 
  (.len (.t x90x)) (.cons (some x92x) none (.mv (.c (.n 0))) .nil)))) (.block 2 (.loop (.seq (.reg (.cons (some x93x) none (.bin .lss (.t x92x) (.t x91x)) .nil)) (.seq (.cond (.t 
  x93x) .skip (.exit 2)) (.seq (.block 3 (.seq (.reg (.cons (some x94x) none (.ixs 1 (.t x90x) (.t x92x)) (.cons (some x95x) none (.ld 1 false (.t x94x)) (.cons (some x17x) none 
  (.mv (.t x95x)) .nil)))) (.seq (.seq (.reg (.cons (some x96x) none (.mv (.t x17x)) (.cons (some x97x) none (.bin .lss (.t x96x) (.c (.n 0))) (.cons (some x98x) none (.mv (.t 
  x97x)) (.cons (some x99x) (some (.mk x98x false)) (.mv (.t x17x)) (.cons (some x100x) (some (.mk x98x false)) (.mv (.t x5x)) (.cons (some x101x) (some (.mk x98x false)) (.bin 
  .geq (.t x99x) (.t x100x)) (.cons (some x102x) none (.pick (.t x98x) (.c (.b true)) (.t x101x)) .nil)))))))) (.cond (.t x102x) (.seq (.reg (.cons (some x4x) none (.mv (.c (.b 
  false))) .nil)) .ret) .skip)) (.reg (.cons (some x103x) none (.mv (.t x15x)) (.cons (some x104x) none (.mv (.t x1x)) (.cons (some x105x) none (.conv .i64 (.t x104x)) (.cons (some 
  x106x) none (.mv (.t x17x)) (.cons (some x107x) none (.bin .shr (.t x105x) (.t x106x)) (.cons (some x108x) none (.bin .and (.t x107x) (.c (.n 1))) (.cons (some x109x) none (.bin 
  .add (.t x103x) (.t x108x)) (.cons (some x15x) none (.mv (.t x109x)) .nil)))))))))))) (.reg (.cons (some x110x) none (.bin .add (.t x92x) (.c (.n 1))) (.cons (some x92x) none 
  (.mv (.t x110x)) .nil))))))))) (.seq (.reg (.cons (some x112x) none (.mv (.t x7x)) (.cons (some x113x) none (.mv (.t x15x)) (.cons (some x114x) none (.call 9 (.cons (.t x112x) 
  (.cons (.t x113x) .nil))) (.cons (some x111x) none (.mv (.t x114x)) (.cons (some x115x) none (.ext 0 (.t x111x)) (.cons (some x116x) none (.ext 1 (.t x111x)) (.cons (some x18x) 
  none (.mv (.t x115x)) (.cons (some x10x) none (.mv (.t x116x)) .nil))))))))) (.seq (.seq (.reg (.cons (some x117x) none (.mv (.t x10x)) (.cons (some x118x) none (.bin .neq (.t 
  x117x) (.c (.n 0))) (.cons (some x119x) none (.mv (.t x118x)) (.cons (some x120x) (some (.mk x119x false)) (.mv (.t x11x)) (.cons (some x121x) (some (.mk x119x false)) (.mv (.t 
  x15x)) (.cons (some x122x) (some (.mk x119x false)) (.bin .neq (.t x120x) (.t x121x)) (.cons (some x123x) none (.pick (.t x119x) (.c (.b true)) (.t x122x)) (.cons (some x124x) 
  none (.mv (.t x123x)) (.cons (some x125x) (some (.mk x124x false)) (.mv (.t x18x)) (.cons (some x126x) (some (.mk x124x false)) (.len (.t x125x)) (.cons (some x127x) (some (.mk 
  x124x false)) (.mv (.t x5x)) (.cons (some x128x) (some (.mk x124x false)) (.bin .neq (.t x126x) (.t x127x)) (.cons (some x129x) none (.pick (.t x124x) (.c (.b true)) (.t x128x)) 
  (.cons (some x130x) none (.mv (.t x129x)) (.cons (some x131x) (some (.mk x130x false)) (.mv (.t x18x)) (.cons (some x132x) (some (.mk x130x false)) (.mv (.t x5x)) (.cons (some 
  x133x) (some (.mk x130x false)) (.bin .sub (.t x132x) (.c (.n 1))) (.cons (some x134x) (some (.mk x130x false)) (.ixs 1 (.t x131x) (.t x133x)) (.cons (some x135x) (some (.mk 
  x130x false)) (.ld 1 false (.t x134x)) (.cons (some x136x) (some (.mk x130x false)) (.mv (.t x9x)) (.cons (some x137x) (some (.mk x130x false)) (.len (.t x136x)) (.cons (some 
  x138x) (some (.mk x130x false)) (.mv (.t x15x)) (.cons (some x139x) (some (.mk x130x false)) (.bin .sub (.t x137x) (.t x138x)) (.cons (some x140x) (some (.mk x130x false)) (.bin 
  .neq (.t x135x) (.t x139x)) (.cons (some x141x) none (.pick (.t x130x) (.c (.b true)) (.t x140x)) .nil)))))))))))))))))))))))))) (.cond (.t x141x) (.seq (.reg (.cons (some x4x) 
  none (.mv (.c (.b false))) .nil)) .ret) .skip)) (.seq (.reg (.cons (some x143x) none (.mv (.t x7x)) (.cons (some x144x) none (.call 10 (.cons (.t x143x) .nil)) (.cons (some 
  x142x) none (.mv (.t x144x)) (.cons (some x145x) none (.ext 0 (.t x142x)) (.cons (some x146x) none (.ext 1 (.t x142x)) (.cons (some x19x) none (.mv (.t x145x)) (.cons (some x10x) 
  none (.mv (.t x146x)) .nil)))))))) (.seq (.seq (.reg (.cons (some x147x) none (.mv (.t x10x)) (.cons (some x148x) none (.bin .eql (.t x147x) (.c (.n 0))) (.cons (some x149x) none 
  (.mv (.t x15x)) (.cons (some x150x) none (.bin .eql (.t x149x) (.c (.n 0))) (.cons (some x151x) none (.eqb true (.t x148x) (.t x150x)) .nil)))))) (.cond (.t x151x) (.seq (.reg 
  (.cons (some x4x) none (.mv (.c (.b false))) .nil)) .ret) .skip)) (.seq (.seq (.reg (.cons (some x152x) none (.mv (.t x19x)) (.cons (some x153x) none (.len (.t x152x)) (.cons 
  (some x154x) none (.mv (.c (.n 0))) .nil)))) (.block 4 (.loop (.seq (.reg (.cons (some x155x) none (.bin .lss (.t x154x) (.t x153x)) .nil)) (.seq (.cond (.t x155x) .skip (.exit 
  4)) (.seq (.block 5 (.seq (.reg (.cons (some x156x) none (.ixs 2 (.t x152x) (.t x154x)) (.cons (some x157x) none (.ld 2 true (.t x156x)) (.cons (some x21x) none (.alloc 36 (.cons 
  (.n 0) (.cons (.n 0) .nil)) 2) (.cons none none (.st 2 (.t x21x) (.t x157x)) .nil))))) (.seq (.reg (.cons (some x158x) none (.mv (.t x9x)) (.cons (some x159x) none (.len (.t 
  x158x)) (.cons (some x160x) none (.mv (.c (.n 0))) .nil)))) (.block 6 (.loop (.seq (.reg (.cons (some x161x) none (.bin .lss (.t x160x) (.t x159x)) .nil)) (.seq (.cond (.t x161x) 
  .skip (.exit 6)) (.seq (.block 7 (.seq (.reg (.cons (some x162x) none (.ixs 1 (.t x158x) (.t x160x)) (.cons (some x163x) none (.ld 1 false (.t x162x)) (.cons (some x23x) none 
  (.mv (.t x163x)) .nil)))) (.seq (.reg (.cons (some x164x) none (.mv (.t x23x)) (.cons (some x165x) none (.ixa 2 1 (.t x21x) (.c (.n 0))) (.cons (some x166x) none (.ld 1 false (.t 
  x165x)) (.cons (some x167x) none (.bin .eql (.t x164x) (.t x166x)) (.cons (some x168x) none (.mv (.t x167x)) (.cons (some x169x) (some (.mk x168x false)) (.mv (.t x23x)) (.cons 
  (some x170x) (some (.mk x168x false)) (.ixa 2 1 (.t x21x) (.c (.n 1))) (.cons (some x171x) (some (.mk x168x false)) (.ld 1 false (.t x170x)) (.cons (some x172x) (some (.mk x168x 
  false)) (.bin .eql (.t x169x) (.t x171x)) (.cons (some x173x) none (.pick (.t x168x) (.c (.b true)) (.t x172x)) .nil))))))))))) (.cond (.t x173x) (.seq (.reg (.cons (some x4x) 
  none (.mv (.c (.b false))) .nil)) .ret) .skip)))) (.reg (.cons (some x174x) none (.bin .add (.t x160x) (.c (.n 1))) (.cons (some x160x) none (.mv (.t x174x)) .nil))))))))))) 
  (.reg (.cons (some x175x) none (.bin .add (.t x154x) (.c (.n 1))) (.cons (some x154x) none (.mv (.t x175x)) .nil))))))))) (.seq (.seq (.reg (.cons (some x176x) none (.mv (.t 
  x15x)) (.cons (some x177x) none (.bin .eql (.t x176x) (.c (.n 0))) (.cons (some x178x) none (.mv (.t x177x)) (.cons (some x179x) (some (.mk x178x true)) (.mv (.t x9x)) (.cons 
  (some x180x) (some (.mk x178x true)) (.len (.t x179x)) (.cons (some x181x) (some (.mk x178x true)) (.mv (.t x19x)) (.cons (some x182x) (some (.mk x178x true)) (.len (.t x181x)) 
  (.cons (some x183x) (some (.mk x178x true)) (.bin .mul (.c (.n 2)) (.t x182x)) (.cons (some x184x) (some (.mk x178x true)) (.bin .add (.t x180x) (.t x183x)) (.cons (some x185x) 
  (some (.mk x178x true)) (.mv (.t x5x)) (.cons (some x186x) (some (.mk x178x true)) (.bin .neq (.t x184x) (.t x185x)) (.cons (some x187x) none (.pick (.t x178x) (.t x186x) (.c (.b 
  false))) .nil))))))))))))) (.cond (.t x187x) (.seq (.reg (.cons (some x4x) none (.mv (.c (.b false))) .nil)) .ret) .skip)) (.seq (.seq (.reg (.cons (some x188x) none (.mv (.t 
  x13x)) (.cons (some x189x) none (.len (.t x188x)) (.cons (some x190x) none (.mv (.c (.n 0))) .nil)))) (.block 8 (.loop (.seq (.reg (.cons (some x191x) none (.bin .lss (.t x190x) 
  (.t x189x)) .nil)) (.seq (.cond (.t x191x) .skip (.exit 8)) (.seq (.block 9 (.seq (.reg (.cons (some x192x) none (.mv (.t x190x)) (.cons (some x193x) none (.ixs 1 (.t x188x) (.t 
  x190x)) (.cons (some x194x) none (.ld 1 false (.t x193x)) (.cons (some x24x) none (.mv (.t x192x)) (.cons (some x25x) none (.mv (.t x194x)) .nil)))))) (.seq (.reg (.cons (some 
  x195x) none (.mv (.t x7x)) (.cons (some x196x) none (.s2b 5 (.t x195x)) (.cons (some x26x) none (.mv (.t x196x)) .nil)))) (.seq (.seq (.reg (.cons (some x197x) none (.mv (.t 
  x5x)) (.cons (some x198x) none (.mv (.c (.n 0))) .nil))) (.block 10 (.loop (.seq (.reg (.cons (some x199x) none (.bin .lss (.t x198x) (.t x197x)) .nil)) (.seq (.cond (.t x199x) 
  .skip (.exit 10)) (.seq (.block 11 (.seq (.reg (.cons (some x200x) none (.mv (.t x198x)) (.cons (some x27x) none (.mv (.t x200x)) .nil))) (.reg (.cons (some x201x) none (.mv (.t 
  x26x)) (.cons (some x202x) none (.mv (.t x27x)) (.cons (some x203x) none (.ixs 1 (.t x201x) (.t x202x)) (.cons none none (.st 1 (.t x203x) (.c (.i .u8 (.ofNat 99)))) .nil))))))) 
  (.reg (.cons (some x204x) none (.bin .add (.t x198x) (.c (.n 1))) (.cons (some x198x) none (.mv (.t x204x)) .nil))))))))) (.seq (.seq (.reg (.cons (some x205x) none (.mv (.t 
  x25x)) (.cons (some x206x) none (.len (.t x205x)) (.cons (some x207x) none (.mv (.c (.n 0))) .nil)))) (.block 12 (.loop (.seq (.reg (.cons (some x208x) none (.bin .lss (.t x207x) 
  (.t x206x)) .nil)) (.seq (.cond (.t x208x) .skip (.exit 12)) (.seq (.block 13 (.seq (.reg (.cons (some x209x) none (.ixs 1 (.t x205x) (.t x207x)) (.cons (some x210x) none (.ld 1 
  false (.t x209x)) (.cons (some x29x) none (.mv (.t x210x)) .nil)))) (.seq (.seq (.reg (.cons (some x211x) none (.mv (.t x29x)) (.cons (some x212x) none (.bin .lss (.t x211x) (.c 
  (.n 0))) (.cons (some x213x) none (.mv (.t x212x)) (.cons (some x214x) (some (.mk x213x false)) (.mv (.t x29x)) (.cons (some x215x) (some (.mk x213x false)) (.mv (.t x5x)) (.cons 
  (some x216x) (some (.mk x213x false)) (.bin .geq (.t x214x) (.t x215x)) (.cons (some x217x) none (.pick (.t x213x) (.c (.b true)) (.t x216x)) .nil)))))))) (.cond (.t x217x) (.seq 
  (.reg (.cons (some x4x) none (.mv (.c (.b false))) .nil)) .ret) .skip)) (.reg (.cons (some x218x) none (.mv (.t x26x)) (.cons (some x219x) none (.mv (.t x29x)) (.cons (some 
  x220x) none (.ixs 1 (.t x218x) (.t x219x)) (.cons none none (.st 1 (.t x220x) (.c (.i .u8 (.ofNat 110)))) .nil)))))))) (.reg (.cons (some x221x) none (.bin .add (.t x207x) (.c 
  (.n 1))) (.cons (some x207x) none (.mv (.t x221x)) .nil))))))))) (.seq (.reg (.cons (some x223x) none (.mv (.t x26x)) (.cons (some x224x) none (.b2s (.t x223x)) (.cons (some 
  x225x) none (.call 7 (.cons (.t x224x) .nil)) (.cons (some x222x) none (.mv (.t x225x)) (.cons (some x226x) none (.ext 0 (.t x222x)) (.cons (some x227x) none (.ext 1 (.t x222x)) 
  (.cons (some x30x) none (.mv (.t x226x)) (.cons (some x31x) none (.mv (.t x227x)) .nil))))))))) (.seq (.reg (.cons (some x228x) none (.mv (.t x31x)) (.cons (some x229x) none 
  (.bin .neq (.t x228x) (.c (.n 0))) (.cons (some x230x) none (.mv (.t x229x)) (.cons (some x231x) (some (.mk x230x false)) (.mv (.t x30x)) (.cons (some x232x) (some (.mk x230x 
  false)) (.mv (.t x24x)) (.cons (some x233x) (some (.mk x230x false)) (.bin .neq (.t x231x) (.t x232x)) (.cons (some x234x) none (.pick (.t x230x) (.c (.b true)) (.t x233x)) 
  .nil)))))))) (.cond (.t x234x) (.seq (.reg (.cons (some x4x) none (.mv (.c (.b false))) .nil)) .ret) .skip)))))))) (.reg (.cons (some x235x) none (.bin .add (.t x190x) (.c (.n 
  1))) (.cons (some x190x) none (.mv (.t x235x)) .nil))))))))) (.seq (.reg (.cons (some x236x) none (.call 11 .nil) (.cons (some x4x) none (.mv (.t x236x)) .nil))) 
  .ret))))))))))))))))))) [(.tmp x4x)])
noncomputable def q3 : IC := i3.q
noncomputable def res3 : List RV := i3.r
noncomputable def c3c : Code := match Tryz.f3.body with | some c => c | none => .skip
theorem b3 : Tryz.f3.body = some c3c := by kernel_rfl
theorem k3 : compC Tryz.prog drops Tryz.f3.ntmps c3c = some q3 := by kernel_rfl
theorem r3 : compRVs Tryz.prog Tryz.f3.results.toList = some res3 := by kernel_rfl


noncomputable def tbs (el : Nat) : List (Nat × TypeId × L) := [(1, el, kL .u8 zs64)]
noncomputable def s3 (el : Nat) (b : V) (a : Nat) : Rs := runP (EW 40) (gK + 1) (gK + 1) (q3.pcs 2) (.nor (bind (.cons (.i .u8 (a : Int)) (.cons b .nil)) 0 .lf) (tbH el) (gK + 1))
noncomputable def l3 (b : V) (r : Nat) : List (Nat × V) := [(4, .b false), (5, .n (1 + r)), (1, b)]
theorem s3_0 : (fun el b => (List.range 256).map fun a => stg (tbs el) (gK + 1) [4, 5, 1] (s3 el b a)) = fun el b => (List.range 256).map fun a => stgIs (tbs el) (l3 b (a % 6)) := by kernel_rfl
theorem q3_s : q3 = seqs (q3.pcs 2) (q3.rst 2) := by kernel_rfl
noncomputable def tl (el r b : Nat) : Bool := finR res3 ((kC (q3.rst 2) nK).f (EW 40) (gK + 1) (mkE (l3 (.i .u8 (b : Int)) r)) (tbH el) (gK + 1))
end Go.Proofs.YthinagjhnapkeaaGreatDoor.Ev
