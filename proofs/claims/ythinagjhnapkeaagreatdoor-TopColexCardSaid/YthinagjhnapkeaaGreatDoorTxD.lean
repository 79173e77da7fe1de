/- TopColex: dyes and trays cut down; what is left is run for each number. -/
import Derived.Test.YthinagjhnapkeaaGreatDoorTxW
namespace Go.Proofs.YthinagjhnapkeaaGreatDoor.Ev
set_option linter.unusedVariables false
set_option linter.unusedSimpArgs false
set_option maxRecDepth 100000
open Go Go.Proofs Go.RowKit
def x80x : Pos := (.i (.o (.o (.o (.i (.o .h))))))
def x81x : Pos := (.o (.i (.o (.o (.i (.o .h))))))
def x82x : Pos := (.i (.i (.o (.o (.i (.o .h))))))
def x83x : Pos := (.o (.o (.i (.o (.i (.o .h))))))
def x84x : Pos := (.i (.o (.i (.o (.i (.o .h))))))
def x85x : Pos := (.o (.i (.i (.o (.i (.o .h))))))
def x86x : Pos := (.i (.i (.i (.o (.i (.o .h))))))
def x87x : Pos := (.o (.o (.o (.i (.i (.o .h))))))
def x88x : Pos := (.i (.o (.o (.i (.i (.o .h))))))
def x89x : Pos := (.o (.i (.o (.i (.i (.o .h))))))
def x90x : Pos := (.i (.i (.o (.i (.i (.o .h))))))
def x91x : Pos := (.o (.o (.i (.i (.i (.o .h))))))
def x92x : Pos := (.i (.o (.i (.i (.i (.o .h))))))
def x93x : Pos := (.o (.i (.i (.i (.i (.o .h))))))
def x94x : Pos := (.i (.i (.i (.i (.i (.o .h))))))
def x95x : Pos := (.o (.o (.o (.o (.o (.i .h))))))
def x96x : Pos := (.i (.o (.o (.o (.o (.i .h))))))
def x97x : Pos := (.o (.i (.o (.o (.o (.i .h))))))
def x98x : Pos := (.i (.i (.o (.o (.o (.i .h))))))
def x99x : Pos := (.o (.o (.i (.o (.o (.i .h))))))
def x100x : Pos := (.i (.o (.i (.o (.o (.i .h))))))
def x101x : Pos := (.o (.i (.i (.o (.o (.i .h))))))
def x102x : Pos := (.i (.i (.i (.o (.o (.i .h))))))
def x103x : Pos := (.o (.o (.o (.i (.o (.i .h))))))
def x104x : Pos := (.i (.o (.o (.i (.o (.i .h))))))
def x105x : Pos := (.o (.i (.o (.i (.o (.i .h))))))
def x106x : Pos := (.i (.i (.o (.i (.o (.i .h))))))
def x107x : Pos := (.o (.o (.i (.i (.o (.i .h))))))
def x108x : Pos := (.i (.o (.i (.i (.o (.i .h))))))
def x109x : Pos := (.o (.i (.i (.i (.o (.i .h))))))
def x110x : Pos := (.i (.i (.i (.i (.o (.i .h))))))
def x111x : Pos := (.o (.o (.o (.o (.i (.i .h))))))
def x112x : Pos := (.i (.o (.o (.o (.i (.i .h))))))
def x113x : Pos := (.o (.i (.o (.o (.i (.i .h))))))
def x114x : Pos := (.i (.i (.o (.o (.i (.i .h))))))
def x115x : Pos := (.o (.o (.i (.o (.i (.i .h))))))
def x116x : Pos := (.i (.o (.i (.o (.i (.i .h))))))
def x117x : Pos := (.o (.i (.i (.o (.i (.i .h))))))
def x118x : Pos := (.i (.i (.i (.o (.i (.i .h))))))
def x119x : Pos := (.o (.o (.o (.i (.i (.i .h))))))
def x120x : Pos := (.i (.o (.o (.i (.i (.i .h))))))
def x121x : Pos := (.o (.i (.o (.i (.i (.i .h))))))
def x122x : Pos := (.i (.i (.o (.i (.i (.i .h))))))
def x123x : Pos := (.o (.o (.i (.i (.i (.i .h))))))
def x124x : Pos := (.i (.o (.i (.i (.i (.i .h))))))
def x125x : Pos := (.o (.i (.i (.i (.i (.i .h))))))
def x126x : Pos := (.i (.i (.i (.i (.i (.i .h))))))
def x127x : Pos := (.o (.o (.o (.o (.o (.o (.o .h)))))))
def x128x : Pos := (.i (.o (.o (.o (.o (.o (.o .h)))))))
def x129x : Pos := (.o (.i (.o (.o (.o (.o (.o .h)))))))
def x130x : Pos := (.i (.i (.o (.o (.o (.o (.o .h)))))))
def x131x : Pos := (.o (.o (.i (.o (.o (.o (.o .h)))))))
noncomputable def i4 : FnI := (.mk true true (.seq (.reg (.cons (some x6x) none (.mv (.c (.b false))) .nil)) (.seq (.reg (.cons (some x19x) none (.mv (.t x0x)) (.cons (some x20x) none (.conv .i64 (.t x19x)) 
  (.cons (some x21x) none (.bin .rem (.t x20x) (.c (.n 6))) (.cons (some x22x) none (.bin .add (.c (.n 1)) (.t x21x)) (.cons (some x7x) none (.alloc 3 (.cons (.n 0) .nil) 1) (.cons 
  none none (.st 1 (.t x7x) (.t x22x)) .nil))))))) (.seq (.reg (.cons (some x23x) none (.mkf 12 .nil (.cons (.t x7x) .nil)) (.cons (some x8x) none (.mv (.t x23x)) .nil))) (.seq 
  (.reg (.cons (some x24x) none (.mv (.t x1x)) (.cons (some x25x) none (.conv .i64 (.t x24x)) (.cons (some x26x) none (.ld 1 false (.t x7x)) (.cons (some x27x) none (.call 5 (.cons 
  (.t x25x) (.cons (.t x26x) .nil))) (.cons (some x9x) none (.mv (.t x27x)) .nil)))))) (.seq (.reg (.cons (some x29x) none (.ld 1 false (.t x7x)) (.cons (some x30x) none (.mv (.t 
  x9x)) (.cons (some x31x) none (.call 13 (.cons (.t x29x) (.cons (.t x30x) .nil))) (.cons (some x28x) none (.mv (.t x31x)) (.cons (some x32x) none (.ext 0 (.t x28x)) (.cons (some 
  x33x) none (.ext 1 (.t x28x)) (.cons (some x10x) none (.mv (.t x32x)) (.cons (some x11x) none (.mv (.t x33x)) .nil))))))))) (.seq (.draw [(.mk (some x35x) none true [] false [] 
  [] [x8x] (.mv (.t x8x)) false [] [] []), (.mk (some x36x) none true [] false [false] [] [x9x] (.mv (.t x9x)) false [] [] []), (.mk (some x37x) none false [] true [true, true] [] 
  [x35x, x36x] (.callv (.t x35x) (.cons (.t x36x) .nil)) true [] [] [x1x]), (.mk (some x38x) none false [] false [false, false, false] [] [x7x] (.ld 1 false (.t x7x)) false [] [] 
  []), (.mk (some x39x) none false [] false [true, true, true, true] [] [x37x, x38x] (.call 14 (.cons (.t x37x) (.cons (.t x38x) .nil))) false [] [] []), (.mk (some x34x) none true 
  [] false [true, true, true, true, true] [] [x39x] (.mv (.t x39x)) false [] [] []), (.mk (some x40x) none true [] false [true, true, true, true, true, true] [] [x34x] (.ext 0 (.t 
  x34x)) false [] [] []), (.mk (some x41x) none true [] false [false, true, true, true, true, true, true] [] [x34x] (.ext 1 (.t x34x)) false [] [] []), (.mk (some x12x) none true 
  [] false [false, true, true, true, true, true, true, true] [] [x40x] (.mv (.t x40x)) false [] [] []), (.mk (some x13x) none true [] false [true, true, true, true, true, true, 
  true, true, true] [] [x41x] (.mv (.t x41x)) false [] [] [])]) (.seq (.reg (.cons (some x43x) none (.ld 1 false (.t x7x)) (.cons (some x44x) none (.mv (.t x9x)) (.cons (some x45x) 
  none (.len (.t x44x)) (.cons (some x46x) none (.bin .sub (.t x43x) (.t x45x)) (.cons (some x47x) none (.mv (.t x9x)) (.cons (some x48x) none (.len (.t x47x)) (.cons (some x49x) 
  none (.ld 1 false (.t x7x)) (.cons (some x50x) none (.call 15 (.cons (.t x46x) (.cons (.t x48x) (.cons (.t x49x) .nil)))) (.cons (some x42x) none (.mv (.t x50x)) (.cons (some 
  x51x) none (.ext 0 (.t x42x)) (.cons (some x52x) none (.ext 1 (.t x42x)) (.cons (some x14x) none (.mv (.t x51x)) (.cons (some x15x) none (.mv (.t x52x)) .nil)))))))))))))) (.seq 
  (.seq (.reg (.cons (some x53x) none (.mv (.t x11x)) (.cons (some x54x) none (.bin .neq (.t x53x) (.c (.n 0))) (.cons (some x55x) none (.mv (.t x54x)) (.cons (some x56x) (some 
  (.mk x55x false)) (.mv (.t x13x)) (.cons (some x57x) (some (.mk x55x false)) (.bin .neq (.t x56x) (.c (.n 0))) (.cons (some x58x) none (.pick (.t x55x) (.c (.b true)) (.t x57x)) 
  (.cons (some x59x) none (.mv (.t x58x)) (.cons (some x60x) (some (.mk x59x false)) (.mv (.t x15x)) (.cons (some x61x) (some (.mk x59x false)) (.bin .neq (.t x60x) (.c (.n 0))) 
  (.cons (some x62x) none (.pick (.t x59x) (.c (.b true)) (.t x61x)) (.cons (some x63x) none (.mv (.t x62x)) (.cons (some x64x) (some (.mk x63x false)) (.mv (.t x10x)) (.cons (some 
  x65x) (some (.mk x63x false)) (.mv (.t x12x)) (.cons (some x66x) (some (.mk x63x false)) (.bin .neq (.t x64x) (.t x65x)) (.cons (some x67x) none (.pick (.t x63x) (.c (.b true)) 
  (.t x66x)) (.cons (some x68x) none (.mv (.t x67x)) (.cons (some x69x) (some (.mk x68x false)) (.mv (.t x14x)) (.cons (some x70x) (some (.mk x68x false)) (.bin .lss (.t x69x) (.c 
  (.n 1))) (.cons (some x71x) none (.pick (.t x68x) (.c (.b true)) (.t x70x)) .nil)))))))))))))))))))) (.cond (.t x71x) (.seq (.reg (.cons (some x6x) none (.mv (.c (.b false))) 
  .nil)) .ret) .skip)) (.seq (.reg (.cons (some x72x) none (.mv (.t x2x)) (.cons (some x73x) none (.conv .i64 (.t x72x)) (.cons (some x74x) none (.mv (.t x14x)) (.cons (some x75x) 
  none (.bin .add (.t x74x) (.c (.n 1))) (.cons (some x76x) none (.bin .rem (.t x73x) (.t x75x)) (.cons (some x16x) none (.mv (.t x76x)) .nil))))))) (.seq (.reg (.cons (some x78x) 
  none (.ld 1 false (.t x7x)) (.cons (some x79x) none (.mv (.t x9x)) (.cons (some x80x) none (.len (.t x79x)) (.cons (some x81x) none (.mv (.t x16x)) (.cons (some x82x) none (.call 
  16 (.cons (.t x78x) (.cons (.t x80x) (.cons (.t x81x) .nil)))) (.cons (some x77x) none (.mv (.t x82x)) (.cons (some x83x) none (.ext 0 (.t x77x)) (.cons (some x84x) none (.ext 1 
  (.t x77x)) (.cons (some x17x) none (.mv (.t x83x)) (.cons (some x11x) none (.mv (.t x84x)) .nil))))))))))) (.seq (.reg (.cons (some x86x) none (.ld 1 false (.t x7x)) (.cons (some 
  x87x) none (.mv (.t x9x)) (.cons (some x88x) none (.len (.t x87x)) (.cons (some x89x) none (.bin .sub (.t x86x) (.t x88x)) (.cons (some x90x) none (.mv (.t x9x)) (.cons (some 
  x91x) none (.len (.t x90x)) (.cons (some x92x) none (.ld 1 false (.t x7x)) (.cons (some x93x) none (.mv (.t x16x)) (.cons (some x94x) none (.call 17 (.cons (.t x89x) (.cons (.t 
  x91x) (.cons (.t x92x) (.cons (.t x93x) .nil))))) (.cons (some x85x) none (.mv (.t x94x)) (.cons (some x95x) none (.ext 0 (.t x85x)) (.cons (some x96x) none (.ext 1 (.t x85x)) 
  (.cons (some x18x) none (.mv (.t x95x)) (.cons (some x13x) none (.mv (.t x96x)) .nil))))))))))))))) (.seq (.seq (.reg (.cons (some x97x) none (.mv (.t x16x)) (.cons (some x98x) 
  none (.mv (.t x14x)) (.cons (some x99x) none (.bin .eql (.t x97x) (.t x98x)) .nil)))) (.cond (.t x99x) (.seq (.reg (.cons (some x100x) none (.mv (.t x11x)) (.cons (some x101x) 
  none (.bin .eql (.t x100x) (.c (.n 2))) (.cons (some x102x) none (.mv (.t x101x)) (.cons (some x103x) (some (.mk x102x true)) (.mv (.t x13x)) (.cons (some x104x) (some (.mk x102x 
  true)) (.bin .eql (.t x103x) (.c (.n 1))) (.cons (some x105x) none (.pick (.t x102x) (.t x104x) (.c (.b false))) (.cons (some x106x) none (.mv (.t x105x)) (.cons (some x107x) 
  (some (.mk x106x true)) (.call 11 .nil) (.cons (some x108x) none (.pick (.t x106x) (.t x107x) (.c (.b false))) (.cons (some x6x) none (.mv (.t x108x)) .nil))))))))))) .ret) 
  .skip)) (.seq (.reg (.cons (some x109x) none (.mv (.t x11x)) (.cons (some x110x) none (.bin .eql (.t x109x) (.c (.n 0))) (.cons (some x111x) none (.mv (.t x110x)) (.cons (some 
  x112x) (some (.mk x111x true)) (.mv (.t x13x)) (.cons (some x113x) (some (.mk x111x true)) (.bin .eql (.t x112x) (.c (.n 0))) (.cons (some x114x) none (.pick (.t x111x) (.t 
  x113x) (.c (.b false))) (.cons (some x115x) none (.mv (.t x114x)) (.cons (some x116x) (some (.mk x115x true)) (.mv (.t x17x)) (.cons (some x117x) (some (.mk x115x true)) (.len 
  (.t x116x)) (.cons (some x118x) (some (.mk x115x true)) (.mv (.t x9x)) (.cons (some x119x) (some (.mk x115x true)) (.len (.t x118x)) (.cons (some x120x) (some (.mk x115x true)) 
  (.bin .eql (.t x117x) (.t x119x)) (.cons (some x121x) none (.pick (.t x115x) (.t x120x) (.c (.b false))) (.cons (some x122x) none (.mv (.t x121x)) (.cons (some x123x) (some (.mk 
  x122x true)) (.mv (.t x8x)) (.cons (some x124x) (some (.mk x122x true)) (.mv (.t x17x)) (.cons (some x125x) (some (.mk x122x true)) (.callv (.t x123x) (.cons (.t x124x) .nil)) 
  (.cons (some x126x) (some (.mk x122x true)) (.mv (.t x18x)) (.cons (some x127x) (some (.mk x122x true)) (.sbi .eql (.t x125x) (.t x126x)) (.cons (some x128x) none (.pick (.t 
  x122x) (.t x127x) (.c (.b false))) (.cons (some x129x) none (.mv (.t x128x)) (.cons (some x130x) (some (.mk x129x true)) (.call 11 .nil) (.cons (some x131x) none (.pick (.t 
  x129x) (.t x130x) (.c (.b false))) (.cons (some x6x) none (.mv (.t x131x)) .nil))))))))))))))))))))))))) .ret))))))))))))) [(.tmp x6x)])
noncomputable def q4 : IC := i4.q
noncomputable def res4 : List RV := i4.r
noncomputable def c4c : Code := match Tryz.f4.body with | some c => c | none => .skip
theorem b4 : Tryz.f4.body = some c4c := by kernel_rfl
theorem k4 : compC Tryz.prog drops Tryz.f4.ntmps c4c = some q4 := by kernel_rfl
theorem r4 : compRVs Tryz.prog Tryz.f4.results.toList = some res4 := by kernel_rfl


noncomputable def l4 (b z : V) : List (Nat × V) := [(6, .b false), (7, .p (tp 255) 0), (8, .fn 12 .nil (.cons (.p (tp 255) 0) .nil)), (1, b), (2, z)]
noncomputable def bl4 (el r : Nat) : List (Nat × Blk) := [(1, ⟨el, 64, 64, kL .u8 zs64, .lf⟩), (255, ⟨3, 1, 1, .cons (.n 0) .nil, .nd .lf (.n (1 + r)) .lf⟩)]
noncomputable def s4 (el : Nat) (b z : V) (a : Nat) : Rs := runP (EW 40) (gK + 1) 300 (q4.pcs 3) (.nor (bind (.cons (.i .u8 (a : Int)) (.cons b (.cons z .nil))) 0 .lf) (tbH el) (gK + 1))
theorem q4_s : q4 = seqs (q4.pcs 3) (q4.rst 3) := by kernel_rfl
theorem q4_s2 : q4.rst 3 = seqs ((q4.rst 3).pcs 1) (q4.rst 4) := by kernel_rfl
theorem q4_s4 : q4.rst 4 = seqs ((q4.rst 4).pcs 4) (q4.rst 8) := by kernel_rfl
theorem q4_s3 : q4.rst 8 = seqs ((q4.rst 8).pcs 1) (q4.rst 9) := by kernel_rfl
theorem s4_0 : (fun el b z => (List.range 256).map fun a => obsZ 300 [6, 7, 8, 1, 2] [1, 255] (s4 el b z a)) = fun el b z => (List.range 256).map fun a => isZ (l4 b z) (bl4 el (a % 6)) := by kernel_rfl
noncomputable def s5 (el : Nat) (z : V) (r b : Nat) : Rs := runP (EW 40) (gK + 1) 400 ((q4.rst 3).pcs 1) (.nor (mkE (l4 (.i .u8 (b : Int)) z)) (hpL (bl4 el r)) 300)
/-- How many dyes a tray has; how many trays have so many. -/
def pc (r b : Nat) : Nat := ((List.range (r + 1)).filter fun i => Nat.beq (b / 2 ^ i % 2) 1).length
def bin (n k : Nat) : Nat := Nat.rec (motive := fun _ => Nat → Nat) (fun k => Nat.rec (motive := fun _ => Nat) 1 (fun _ _ => 0) k) (fun _ ih k => Nat.rec (motive := fun _ => Nat) 1 (fun j _ => ih j + ih (j + 1)) k) n k
noncomputable def tv (k : Nat) : V := Nat.rec (motive := fun _ => V) .ns (fun j _ => .sl (tp (300 + 2 * j)) 0 1 (j + 1) none) k
noncomputable def lz5 (z : V) (r k : Nat) : List (Nat × V) := [(6, .b false), (7, .p (tp 255) 0), (8, .fn 12 .nil (.cons (.p (tp 255) 0) .nil)), (9, tv k), (14, .n (bin (r + 1) k)), (2, z)]
noncomputable def s6 (el r k z : Nat) : Rs := runP (EW 40) (gK + 1) 4000 ((q4.rst 8).pcs 1) (.nor (mkE (lz5 (.i .u8 (z : Int)) r k)) (hpL (bl4 el r)) 4000)
noncomputable def lz6 (r k a : Nat) : List (Nat × V) := [(6, .b false), (7, .p (tp 255) 0), (8, .fn 12 .nil (.cons (.p (tp 255) 0) .nil)), (9, tv k), (14, .n (bin (r + 1) k)), (16, .n a)]
noncomputable def te (el r k a : Nat) : Bool := finR res4 ((kC (q4.rst 9) nK).f (EW 40) (gK + 1) (mkE (lz6 r k a)) (hpL (bl4 el r)) 4000)
def dyesOf (r t : Nat) : List Nat := (List.range (r + 1)).filter fun i => Nat.beq (t / 2 ^ i % 2) 1
noncomputable def cellsT : List Nat → Nat → Tb := fun l => List.rec (motive := fun _ => Nat → Tb) (fun _ => .lf) (fun d _ ih j => (ih (j + 1)).setN j (.n d)) l
/-- The block of a tray's dyes. -/
noncomputable def bt (l : List Nat) : List (Nat × Blk) := List.rec (motive := fun _ => List (Nat × Blk)) [] (fun d l _ => [(300 + 2 * l.length, ⟨3, l.length + 1, 1, .cons (.n d) .nil, cellsT l 2⟩)]) l
noncomputable def bl5 (el r t : Nat) : List (Nat × Blk) := bl4 el r ++ bt (dyesOf r t)
noncomputable def lz4 (z : V) (r t : Nat) : List (Nat × V) := [(6, .b false), (7, .p (tp 255) 0), (8, .fn 12 .nil (.cons (.p (tp 255) 0) .nil)), (9, tv (pc r t)), (2, z)]
noncomputable def s7 (el : Nat) (z : V) (r t : Nat) : Rs := runP (EW 40) (gK + 1) 4000 ((q4.rst 4).pcs 4) (.nor (mkE (lz4 z r t)) (hpL (bl5 el r t)) 400)
end Go.Proofs.YthinagjhnapkeaaGreatDoor.Ev
