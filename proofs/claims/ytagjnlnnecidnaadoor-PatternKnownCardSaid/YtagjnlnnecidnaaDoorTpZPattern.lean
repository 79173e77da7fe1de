/- The examples of chapter 13 hold: PatternKnown returns true. No conditions beside the tables, which are tied. -/
import Derived.Test.YtagjnlnnecidnaaDoorRows
import Derived.Test.YtagjnlnnecidnaaDoorCards
import Derived.Test.YtagjnlnnecidnaaDoorTie
import Derived.Test.YtagjnlnnecidnaaDoorQ9
import Derived.WalkKit
import Derived.ProofKit
import Derived.LaidMore
import Derived.OpenShut
import Derived.Stop.Joined
import Derived.Below
import Derived.SevenTiedAt
namespace Go.Proofs.YtagjnlnnecidnaaDoor.patternKnown
open Go.ChangeShapes Go.WideShapes Go.ChangeAt Go.WideMaps Go.WideElems Go.RowKit
set_option linter.unusedVariables false

theorem own : ownKnob Tryd.prog.godebug = none := by kernel_rfl
theorem gQ : Tryd.prog.globalNamed "aigrette/pattern.quarters" = some 1 := by kernel_rfl
theorem gS : Tryd.prog.globalNamed "aigrette/pattern.steps" = some 0 := by kernel_rfl
theorem tQ : (Tryd.prog.globals[1]?).map (·.type) = some 110 := by kernel_rfl
theorem tS : (Tryd.prog.globals[0]?).map (·.type) = some 97 := by kernel_rfl
theorem uQ : Tryd.prog.underlying 110 = some (.array 3 109) := by kernel_rfl
theorem uR : Tryd.prog.underlying 109 = some (.array 3 3) := by kernel_rfl
theorem uS : Tryd.prog.underlying 97 = some (.array 4 3) := by kernel_rfl
theorem uI : Tryd.prog.underlying 3 = some (.int .i64) := by kernel_rfl
def zssQ : List (List Int) := [[2, 3, 3], [2, 0, 0], [1, 1, 0]]
theorem laidQ : ("aigrette/pattern.quarters", Ev.tab2Data .i64 zssQ) ∈ Rows.patternKnownRow.laid := List.mem_cons_self ..
theorem laidS : ("aigrette/pattern.steps", Lib.tabData .i64 Ev.zsS) ∈ Rows.patternKnownRow.laid := List.mem_cons_of_mem _ (List.mem_cons_self ..)

/-- The door's own heap meets the condition. -/
theorem door_met (os : Os) (args : Array Value) : laidMetH Tryd.prog Rows.patternKnownRow.laid ((World.doorLaid Tryd.prog 400 os).forCall (fun _ _ => 0) ⟨#[], args, []⟩).memory :=
  laidMetH_of_parts3 (fuel := 8) (laidMet_of_run' 8 (by kernel_rfl) (by kernel_rfl)) (by kernel_rfl) (by kernel_rfl)

theorem walk {w : World} (hL : laidMetH Tryd.prog Rows.patternKnownRow.laid w) :
    Calls Tryd.prog 3 #[] w fun e w' => e = .returned (.bool true) ∧ Below w.heap.size w w' := by
  obtain ⟨e1, h1⟩ := Ev.holds_tab2 (zss := zssQ) (by kernel_rfl) hL gQ tQ uQ uR uI (by kernel_rfl) (by kernel_rfl) (by kernel_rfl) (by decide) laidQ (by decide) (by decide)
  obtain ⟨e2, h2⟩ := Ev.holds_tab (by kernel_rfl) hL gS tS uS uI (by kernel_rfl) (by kernel_rfl) (by decide) laidS (by decide) (by decide)
  exact Ev.pknown_walk w e1 e2 (h1.app h2)

set_option maxRecDepth 100000 in
theorem lifted (os : Os) (started : os.Started) (H : Type) (enc : TypeId × Value → H) :
    ReturnsInHanded {} Tryd.checked os 3 .any (fun w args => (Rows.patternKnownSpec.pre enc Tryd.prog Tryd.f3 [] false w args ∧ laidMetH Tryd.prog Rows.patternKnownRow.laid w) ∧ sizedMet enc Tryd.prog Tryd.f3 (OpenSpec.ofChange Rows.patternKnownSpec) false w args)
      (Rows.patternKnownSpec.post enc Tryd.prog Tryd.f3 false true false false) := by
  refine returnsInHanded_of_change_and (C := Tryd.checked) (X := fun w _ => laidMetH Tryd.prog Rows.patternKnownRow.laid w) (fun _ _ _ hh h => h.of_heap hh) own started (by kernel_rfl) Tryd.func3
    (ChangeSpec.witness_shaped (enc := enc) (C := Tryd.checked) (os := os) (X := fun w _ => laidMetH Tryd.prog Rows.patternKnownRow.laid w) false (World.doorLaid Tryd.prog 400 os) #[] 8 rfl (World.shaped_of_RefB (by kernel_rfl) (by kernel_rfl)) (by kernel_rfl) (by kernel_rfl) (by kernel_rfl) (door_met os _)) ?_
  intro W base args ds gs before hval0 hW _ _ hL _
  have hval : ∀ (j : Nat) t v, Tryd.f3.params[j]? = some t → args[j]? = some v → Value.okWide Tryd.prog W .any base t v := hval0
  have hW' := hW
  obtain ⟨p, q, hA0, hV, rfl, hfz, hnd⟩ := hW
  have hA : DataW.TrodAll enc Tryd.prog W 0 (fun _ => true) true Tryd.f3.params.toList args.toList ds p := hA0
  rw [Tryd.params3] at hA hval
  obtain ⟨rfl, rfl, rfl⟩ := trodAll_none hA
  obtain ⟨rfl, rfl⟩ := trodVars_none hV
  clear hA0 hval0
  simp only [List.append_nil] at hW'
  refine (walk hL).mono fun e W' ⟨he, bel⟩ => ?_
  subst he
  exact ⟨_, rfl, _, _, _, [], _, [], hW', trodAll_mk1 (shut_bool Tryd.underlying4 _), trodAll_mk0, rfl, bel.frame _, fun h => by cases h⟩

theorem over : Rows.PatternKnownSaid :=
  OpenClaim.holds_of_wide 3 Tryd.f3 rfl rfl rfl rfl rfl rfl rfl ⟨rfl, rfl, rfl, rfl, rfl⟩ rfl rfl rfl rfl rfl (by kernel_rfl) Tryd.func3 (by kernel_rfl)
    (of_decide_eq_true (by kernel_rfl)) (by unfold Func.isWrapper; first | (rw [if_pos (by decide +kernel)]; kernel_rfl) | (rw [if_neg (by decide +kernel)]; exact ⟨rfl, rfl⟩))
    (fun os started H enc _ => lifted os started H enc)

theorem proved : Rows.PatternKnownCardSaid :=
  Claim7.holds_tied_plain_at .later [] [.data, .data] true (true, "f740d72a89b45fb1976bfa94a5d1fe0aa545677bd1ccfdab0151e2a512618326") true
    over (fun _ h => by cases h) (by kernel_rfl) (fun _ h => by cases h) patternKnown_row_tie rfl ⟨rfl, rfl⟩ (by kernel_rfl) rfl
    (fun f fn hf hfn => by
      obtain rfl : f = 3 := Option.some.inj ((show Tryd.prog.funcNamed "aigrette/aigrettelaw13.PatternKnown" = some 3 by kernel_rfl).symm.trans hf) |>.symm
      obtain rfl : fn = Tryd.f3 := (Option.some.inj (Tryd.func3.symm.trans hfn)).symm
      exact ⟨by kernel_rfl, fun j t ht => by
        rw [Tryd.params3] at ht
        exact absurd ht (by simp)⟩)
    (by kernel_rfl)
end Go.Proofs.YtagjnlnnecidnaaDoor.patternKnown
