/- HatSmallest: the number of helpers; the sets of four helpers' colourings, one after the other. -/
import Derived.Test.YtjhgingmbklhaaaThK
import Derived.Test.YtjhgingmbklhaaaEvPl
namespace Go.Proofs.Ytjhgingmbklhaaa.Ev
set_option linter.unusedVariables false
set_option maxRecDepth 100000
open Go Go.Proofs Go.RowKit
noncomputable def i8 : FnI := (.mk true true (.seq (.reg (.cons (some x2x) none (.mv (.c (.b false))) .nil)) (.seq (.reg (.cons (some x16x) none (.mv (.t x0x)) (.cons (some x17x) none (.conv .i64 (.t x16x)) 
  (.cons (some x18x) none (.bin .rem (.t x17x) (.c (.n 4))) (.cons (some x19x) none (.bin .add (.c (.n 1)) (.t x18x)) (.cons (some x3x) none (.mv (.t x19x)) .nil)))))) (.seq (.reg 
  (.cons (some x4x) none (.mv (.c .ns)) .nil)) (.seq (.seq (.reg (.cons (some x20x) none (.mv (.t x3x)) (.cons (some x21x) none (.bin .shl (.c (.i .u64 (.ofNat 1))) (.t x20x)) 
  (.cons (some x22x) none (.bin .shl (.c (.n 1)) (.t x21x)) (.cons (some x23x) none (.mv (.c (.n 0))) .nil))))) (.block 0 (.loop (.seq (.reg (.cons (some x24x) none (.bin .lss (.t 
  x23x) (.t x22x)) .nil)) (.seq (.cond (.t x24x) .skip (.exit 0)) (.seq (.block 1 (.seq (.reg (.cons (some x25x) none (.mv (.t x23x)) (.cons (some x5x) none (.mv (.t x25x)) .nil))) 
  (.seq (.reg (.cons (some x6x) none (.mv (.c (.n 0))) .nil)) (.seq (.seq (.reg (.cons (some x26x) none (.mv (.t x5x)) (.cons (some x7x) none (.mv (.t x26x)) .nil))) (.block 2 
  (.loop (.seq (.seq (.reg (.cons (some x27x) none (.mv (.t x7x)) (.cons (some x28x) none (.bin .neq (.t x27x) (.c (.n 0))) .nil))) (.cond (.t x28x) .skip (.exit 2))) (.seq (.block 
  3 (.reg (.cons (some x33x) none (.mv (.t x6x)) (.cons (some x34x) none (.bin .add (.t x33x) (.c (.n 1))) (.cons (some x6x) none (.mv (.t x34x)) .nil))))) (.reg (.cons (some x29x) 
  none (.mv (.t x7x)) (.cons (some x30x) none (.mv (.t x7x)) (.cons (some x31x) none (.bin .sub (.t x30x) (.c (.n 1))) (.cons (some x32x) none (.bin .and (.t x29x) (.t x31x)) 
  (.cons (some x7x) none (.mv (.t x32x)) .nil))))))))))) (.seq (.seq (.reg (.cons (some x35x) none (.mv (.t x4x)) (.cons (some x36x) none (.eqn true (.t x35x) (.c .ns)) (.cons 
  (some x37x) none (.mv (.t x36x)) (.cons (some x38x) (some (.mk x37x true)) (.mv (.t x6x)) (.cons (some x39x) (some (.mk x37x true)) (.mv (.t x4x)) (.cons (some x40x) (some (.mk 
  x37x true)) (.len (.t x39x)) (.cons (some x41x) (some (.mk x37x true)) (.bin .gtr (.t x38x) (.t x40x)) (.cons (some x42x) none (.pick (.t x37x) (.t x41x) (.c (.b false))) 
  .nil))))))))) (.cond (.t x42x) (.exit 1) .skip)) (.seq (.reg (.cons (some x43x) none (.mv (.t x5x)) (.cons (some x8x) none (.mv (.t x43x)) .nil))) (.seq (.seq (.reg (.cons (some 
  x44x) none (.mv (.t x3x)) (.cons (some x45x) none (.mv (.c (.n 0))) .nil))) (.block 4 (.loop (.seq (.reg (.cons (some x46x) none (.bin .lss (.t x45x) (.t x44x)) .nil)) (.seq 
  (.cond (.t x46x) .skip (.exit 4)) (.seq (.block 5 (.seq (.reg (.cons (some x47x) none (.mv (.t x45x)) (.cons (some x9x) none (.mv (.t x47x)) .nil))) (.seq (.reg (.cons (some 
  x48x) none (.mv (.t x3x)) (.cons (some x49x) none (.bin .shl (.c (.n 1)) (.t x48x)) (.cons (some x50x) none (.mv (.c (.n 0))) .nil)))) (.block 6 (.loop (.seq (.reg (.cons (some 
  x51x) none (.bin .lss (.t x50x) (.t x49x)) .nil)) (.seq (.cond (.t x51x) .skip (.exit 6)) (.seq (.block 7 (.seq (.reg (.cons (some x52x) none (.mv (.t x50x)) (.cons (some x10x) 
  none (.mv (.t x52x)) .nil))) (.seq (.reg (.cons (some x53x) none (.mv (.t x5x)) (.cons (some x54x) none (.mv (.t x10x)) (.cons (some x55x) none (.mv (.t x9x)) (.cons (some x56x) 
  none (.bin .shl (.c (.n 1)) (.t x55x)) (.cons (some x57x) none (.bin .xor (.t x54x) (.t x56x)) (.cons (some x58x) none (.bin .shr (.t x53x) (.t x57x)) (.cons (some x59x) none 
  (.bin .and (.t x58x) (.c (.n 1))) (.cons (some x60x) none (.bin .eql (.t x59x) (.c (.n 1))) .nil))))))))) (.cond (.t x60x) (.reg (.cons (some x61x) none (.mv (.t x8x)) (.cons 
  (some x62x) none (.mv (.t x10x)) (.cons (some x63x) none (.bin .shl (.c (.n 1)) (.t x62x)) (.cons (some x64x) none (.bin .or (.t x61x) (.t x63x)) (.cons (some x8x) none (.mv (.t 
  x64x)) .nil)))))) .skip)))) (.reg (.cons (some x65x) none (.bin .add (.t x50x) (.c (.n 1))) (.cons (some x50x) none (.mv (.t x65x)) .nil))))))))))) (.reg (.cons (some x66x) none 
  (.bin .add (.t x45x) (.c (.n 1))) (.cons (some x45x) none (.mv (.t x66x)) .nil))))))))) (.seq (.seq (.reg (.cons (some x67x) none (.mv (.t x8x)) (.cons (some x68x) none (.mv (.t 
  x3x)) (.cons (some x69x) none (.bin .shl (.c (.i .u64 (.ofNat 1))) (.t x68x)) (.cons (some x70x) none (.bin .shl (.c (.n 1)) (.t x69x)) (.cons (some x71x) none (.bin .sub (.t 
  x70x) (.c (.n 1))) (.cons (some x72x) none (.bin .neq (.t x67x) (.t x71x)) .nil))))))) (.cond (.t x72x) (.exit 1) .skip)) (.seq (.reg (.cons (some x73x) none (.mv (.t x5x)) 
  (.cons (some x74x) none (.call 47 (.cons (.t x73x) .nil)) (.cons (some x11x) none (.mv (.t x74x)) .nil)))) (.seq (.reg (.cons (some x75x) none (.mv (.t x4x)) (.cons (some x76x) 
  none (.eqn false (.t x75x) (.c .ns)) (.cons (some x77x) none (.mv (.t x76x)) (.cons (some x78x) (some (.mk x77x false)) (.mv (.t x11x)) (.cons (some x79x) (some (.mk x77x false)) 
  (.len (.t x78x)) (.cons (some x80x) (some (.mk x77x false)) (.mv (.t x4x)) (.cons (some x81x) (some (.mk x77x false)) (.len (.t x80x)) (.cons (some x82x) (some (.mk x77x false)) 
  (.bin .lss (.t x79x) (.t x81x)) (.cons (some x83x) none (.pick (.t x77x) (.c (.b true)) (.t x82x)) (.cons (some x84x) none (.mv (.t x83x)) (.cons (some x85x) (some (.mk x84x 
  false)) (.mv (.t x11x)) (.cons (some x86x) (some (.mk x84x false)) (.mv (.t x4x)) (.cons (some x87x) (some (.mk x84x false)) (.call 51 (.cons (.t x85x) (.cons (.t x86x) .nil))) 
  (.cons (some x88x) (some (.mk x84x false)) (.bin .lss (.t x87x) (.c (.n 0))) (.cons (some x89x) none (.pick (.t x84x) (.c (.b true)) (.t x88x)) .nil)))))))))))))))) (.cond (.t 
  x89x) (.reg (.cons (some x90x) none (.mv (.t x11x)) (.cons (some x4x) none (.mv (.t x90x)) .nil))) .skip))))))))))) (.reg (.cons (some x91x) none (.bin .add (.t x23x) (.c (.n 
  1))) (.cons (some x23x) none (.mv (.t x91x)) .nil))))))))) (.seq (.reg (.cons (some x93x) none (.mv (.t x3x)) (.cons (some x94x) none (.call 38 (.cons (.t x93x) .nil)) (.cons 
  (some x92x) none (.mv (.t x94x)) (.cons (some x95x) none (.ext 0 (.t x92x)) (.cons (some x96x) none (.ext 1 (.t x92x)) (.cons (some x12x) none (.mv (.t x95x)) (.cons (some x13x) 
  none (.mv (.t x96x)) .nil)))))))) (.seq (.reg (.cons (some x98x) none (.mv (.t x3x)) (.cons (some x99x) none (.call 40 (.cons (.t x98x) .nil)) (.cons (some x97x) none (.mv (.t 
  x99x)) (.cons (some x100x) none (.ext 0 (.t x97x)) (.cons (some x101x) none (.ext 1 (.t x97x)) (.cons (some x14x) none (.mv (.t x100x)) (.cons (some x15x) none (.mv (.t x101x)) 
  .nil)))))))) (.seq (.reg (.cons (some x102x) none (.mv (.t x13x)) (.cons (some x103x) none (.bin .eql (.t x102x) (.c (.n 0))) (.cons (some x104x) none (.mv (.t x103x)) (.cons 
  (some x105x) (some (.mk x104x true)) (.mv (.t x15x)) (.cons (some x106x) (some (.mk x104x true)) (.bin .eql (.t x105x) (.c (.n 0))) (.cons (some x107x) none (.pick (.t x104x) (.t 
  x106x) (.c (.b false))) (.cons (some x108x) none (.mv (.t x107x)) (.cons (some x109x) (some (.mk x108x true)) (.mv (.t x12x)) (.cons (some x110x) (some (.mk x108x true)) (.mv (.t 
  x4x)) (.cons (some x111x) (some (.mk x108x true)) (.call 24 (.cons (.t x109x) (.cons (.t x110x) .nil))) (.cons (some x112x) none (.pick (.t x108x) (.t x111x) (.c (.b false))) 
  (.cons (some x113x) none (.mv (.t x112x)) (.cons (some x114x) (some (.mk x113x true)) (.mv (.t x14x)) (.cons (some x115x) (some (.mk x113x true)) (.mv (.t x3x)) (.cons (some 
  x116x) (some (.mk x113x true)) (.bin .shl (.c (.n 1)) (.t x115x)) (.cons (some x117x) (some (.mk x113x true)) (.mv (.t x4x)) (.cons (some x118x) (some (.mk x113x true)) (.len (.t 
  x117x)) (.cons (some x119x) (some (.mk x113x true)) (.bin .sub (.t x116x) (.t x118x)) (.cons (some x120x) (some (.mk x113x true)) (.bin .eql (.t x114x) (.t x119x)) (.cons (some 
  x121x) none (.pick (.t x113x) (.t x120x) (.c (.b false))) (.cons (some x122x) none (.mv (.t x121x)) (.cons (some x123x) (some (.mk x122x true)) (.call 15 .nil) (.cons (some 
  x124x) none (.pick (.t x122x) (.t x123x) (.c (.b false))) (.cons (some x2x) none (.mv (.t x124x)) .nil))))))))))))))))))))))))) .ret))))))) [(.tmp x2x)])
noncomputable def q8 : IC := i8.q
noncomputable def res8 : List RV := i8.r
noncomputable def c8c : Code := match Try.f8.body with | some c => c | none => .skip
theorem b8 : Try.f8.body = some c8c := by kernel_rfl
theorem k8 : compC Try.prog drops Try.f8.ntmps c8c = some q8 := by kernel_rfl
theorem r8 : compRVs Try.prog Try.f8.results.toList = some res8 := by kernel_rfl
theorem n8 : (Try.f8.name == "runtime.NumGoroutine") = false := by kernel_rfl
theorem q8_s : q8 = seqs (q8.pcs 3) (q8.rst 3) := by kernel_rfl
theorem hs1 : (List.range 256).map (fun a : Nat => stg [] 300 [3, 4] (runP (EW 60) 256 300 (q8.pcs 3) (.nor (bind (.cons (.i .u8 (a : Int)) .nil) 0 .lf) .lf 256))) = (List.range 256).map fun a : Nat => stgIs [] [(3, .n (a % 4 + 1)), (4, .ns)] := by kernel_rfl
noncomputable def IC.fs (q : IC) : IC := match q with | .seq a _ => a | q => q
noncomputable def IC.sn (q : IC) : IC := match q with | .seq _ b => b | q => q
noncomputable def IC.bl (q : IC) : IC := match q with | .block _ b => b | q => q
noncomputable def IC.lp (q : IC) : IC := match q with | .loop b => b | q => q
noncomputable def qA : IC := (q8.rst 3).fs.fs
noncomputable def qB : IC := (q8.rst 3).fs.sn.bl.lp
noncomputable def qC : IC := (q8.rst 3).sn
theorem q8_t : q8.rst 3 = .seq (.seq qA (.block 0 (.loop qB))) qC := by kernel_rfl
/-- Where free places begin ahead of a set's round. -/
noncomputable def nN (k : Nat) : Nat := Nat.add 1000 (Nat.mul 40 k)
/-- The best code so far: none, or where it came, how many elements, where it stands, and which ones. -/
structure Bst where
  p : Nat
  len : Nat
  xs : List Int
noncomputable def bsts : List (Nat × Bst) := [(49155, ⟨1967206, 4, [0, 1, 14, 15]⟩), (40965, ⟨1639606, 4, [0, 2, 13, 15]⟩), (24585, ⟨984406, 4, [0, 3, 13, 14]⟩), (18465, ⟨739606, 4, [0, 5, 11, 14]⟩), (10305, ⟨413206, 4, [0, 6, 11, 13]⟩), (9345, ⟨374806, 4, [0, 7, 10, 13]⟩), (6273, ⟨251926, 4, [0, 7, 11, 12]⟩), (6210, ⟨249406, 4, [1, 6, 11, 12]⟩), (5250, ⟨211006, 4, [1, 7, 10, 12]⟩), (4740, ⟨190606, 4, [2, 7, 9, 12]⟩), (4488, ⟨180526, 4, [3, 7, 8, 12]⟩), (3120, ⟨125806, 4, [4, 5, 10, 11]⟩), (2640, ⟨106606, 4, [4, 6, 9, 11]⟩), (1680, ⟨68206, 4, [4, 7, 9, 10]⟩), (1440, ⟨58606, 4, [5, 7, 8, 10]⟩), (960, ⟨39406, 4, [6, 7, 8, 9]⟩), (724, ⟨29968, 5, [2, 4, 6, 7, 9]⟩), (488, ⟨20528, 5, [3, 5, 6, 7, 8]⟩), (255, ⟨11214, 8, [0, 1, 2, 3, 4, 5, 6, 7]⟩)]
noncomputable def bst (k : Nat) : Option Bst := List.rec (motive := fun _ => Option Bst) none (fun x _ ih => Bool.rec (motive := fun _ => Option Bst) ih (some x.2) (Nat.blt x.1 k)) bsts
noncomputable def slB (o : Option Bst) : V := Option.rec (motive := fun _ => V) .ns (fun x => .sl (tp x.p) 0 1 x.len none) o
noncomputable def hpB (o : Option Bst) : List (Nat × TypeId × L) := Option.rec (motive := fun _ => List (Nat × TypeId × L)) [] (fun x => [(x.p, 3, iL x.xs)]) o
noncomputable def lS (k : Nat) : List (Nat × V) := [(3, .n 4), (4, slB (bst k)), (22, .n 65536), (23, .n k)]
noncomputable def rn (k : Nat) : Rs := (kC qB nK).f (EW 60) 256 (mkE (lS k)) (hpC (hpB (bst k))) (nN k)
noncomputable def ok (k : Nat) : Bool := rndB (nN (Nat.succ k)) (lS (Nat.succ k)) (hpB (bst (Nat.succ k))) (rn k)
end Go.Proofs.Ytjhgingmbklhaaa.Ev
