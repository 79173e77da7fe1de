/- The rings of a shortest way, written as letters, make a word without a repeat; the way from all off to the last position is the smallest such word of its length: TopRuler returns true for all numbers. No conditions beside the tables, which are tied. -/
import Derived.Test.YtkbagfcklodfnaaDoorRows
import Derived.Test.YtkbagfcklodfnaaDoorCards
import Derived.Test.YtkbagfcklodfnaaDoorTie
import Derived.Test.YtkbagfcklodfnaaDoorQ8
import Derived.WalkKit
import Derived.ProofKit
import Derived.LaidMore
import Derived.OpenShut
import Derived.Stop.Joined
import Derived.Below
import Derived.SevenTiedAt
import Derived.Carry
import Derived.Shelf.Vars
import Derived.Handed
namespace Go.Proofs.YtkbagfcklodfnaaDoor.topRuler
open Go.ChangeShapes Go.WideShapes Go.ChangeAt Go.WideMaps Go.WideElems Go.RowKit
set_option linter.unusedVariables false

theorem own : ownKnob Tryd.prog.godebug = none := by kernel_rfl
theorem laidOut : laidOutB Tryd.prog = true := by kernel_rfl
theorem gTab : Tryd.prog.globalNamed "math/bits.deBruijn64tab" = some 2 := by kernel_rfl
theorem tTab : (Tryd.prog.globals[2]?).map (·.type) = some 135 := by kernel_rfl
theorem uTab : Tryd.prog.underlying 135 = some (.array 64 5) := by kernel_rfl
theorem u8 : Tryd.prog.underlying 5 = some (.int .u8) := by kernel_rfl
theorem laid_mem : ("math/bits.deBruijn64tab", Lib.tabData .u8 Ev.zs64) ∈ Rows.topRulerRow.laid := List.mem_cons_of_mem _ (List.mem_cons_self ..)

/-- The cell of MaxLen stands in memory: some int. -/
theorem mx {w : World} (hS : w.ShapedOpen Tryd.prog) : ∃ m : Int, ∃ el, w.heap[0]? = some (.cells #[.int .i64 m] el (0, 0)) := by
  have h0 : ((begin Tryd.prog (fun _ _ => 0) default).world.heap[0]?).bind Obj.row? = some (#[.int .i64 0], 3) := by kernel_rfl
  have hgs : Tryd.prog.globals.size = 3 := by kernel_rfl
  have hg : 0 < Tryd.prog.globals.size := by rw [hgs]; decide
  obtain ⟨m, hm⟩ := cell_of_shapedOpen_int (k := .i64) hS hg h0 rfl (by kernel_rfl) (by kernel_rfl) Tryd.underlying3
  obtain ⟨cs, hh, hs, _⟩ := hS.1 0 _ _ hg h0
  refine ⟨m, 3, ?_⟩
  simp [World.cell?, hh] at hm
  have hs1 : cs.size = 1 := hs
  have : cs = #[.int .i64 m] := by
    apply Array.ext
    · simpa using hs1
    · intro i h1 h2
      obtain rfl : i = 0 := by omega
      obtain ⟨_, h3⟩ := Array.getElem?_eq_some_iff.1 hm
      simpa using h3
  rw [hh, this]
/-- The door's own heap meets the condition. -/
theorem door_met (os : Os) (args : Array Value) : laidMetH Tryd.prog Rows.topRulerRow.laid ((World.doorLaid Tryd.prog 400 os).forCall (fun _ _ => 0) ⟨#[], args, []⟩).memory :=
  laidMetH_of_parts3 (fuel := 8) (laidMet_of_run' 8 (by kernel_rfl) (by kernel_rfl)) (by kernel_rfl) (by kernel_rfl)

theorem tab {w : World} (hL : laidMetH Tryd.prog Rows.topRulerRow.laid w) : ∃ el, Ev.Holds w [(2, el, Ev.kL .u8 Ev.zs64)] :=
  Ev.holds_tab (by kernel_rfl) hL gTab tTab uTab u8 (by kernel_rfl) (by kernel_rfl) (by decide) laid_mem (by decide) (by decide)

theorem wf_u8 {b : Int} (h : (Lit.int .u8 b).wf = true) : ∃ a : Nat, b = a ∧ a ≤ 255 := by
  simp [Lit.wf] at h
  have h1 : IntKind.u8.min = 0 := by decide
  have h2 : IntKind.u8.max = 255 := by decide
  rw [h1, h2] at h
  exact ⟨b.toNat, by omega, by omega⟩
theorem walk (a0 : Nat) (a1 : Nat) (a2 : Nat) (w : World) (h0 : a0 ≤ 255) (h1 : a1 ≤ 255) (h2 : a2 ≤ 255) (hL : laidMetH Tryd.prog Rows.topRulerRow.laid w) (hS : w.ShapedOpen Tryd.prog) :
    Calls Tryd.prog 4 #[.int .u8 a0, .int .u8 a1, .int .u8 a2] w fun e w' => e = .returned (.bool true) ∧ Below w.heap.size w w' := by
  obtain ⟨el, hw⟩ := tab hL
  obtain ⟨m, e0, h0'⟩ := mx hS
  exact Ev.ruler_walk a0 a1 a2 h0 h1 h2 w el e0 m ⟨⟨by decide, rfl, (show (1 : Nat) ≤ Ev.maxSize by decide), _, h0', fun g => ⟨_, _, rfl, rfl, rfl⟩⟩, hw⟩

set_option maxRecDepth 100000 in
theorem lifted (os : Os) (started : os.Started) (H : Type) (enc : TypeId × Value → H) :
    ReturnsInHanded {} Tryd.checked os 4 .any (fun w args => (Rows.topRulerSpec.pre enc Tryd.prog Tryd.f4 [] false w args ∧ laidMetH Tryd.prog Rows.topRulerRow.laid w) ∧ sizedMet enc Tryd.prog Tryd.f4 (OpenSpec.ofChange Rows.topRulerSpec) false w args)
      (Rows.topRulerSpec.post enc Tryd.prog Tryd.f4 false true false false) := by
  refine returnsInHanded_of_calls own started (by kernel_rfl)
    (ChangeSpec.witness_shaped (enc := enc) (C := Tryd.checked) (os := os) (X := fun w _ => laidMetH Tryd.prog Rows.topRulerRow.laid w) false (World.doorLaid Tryd.prog 400 os) #[.int .u8 0, .int .u8 0, .int .u8 0] 8 rfl (World.shaped_of_RefB (by kernel_rfl) (by kernel_rfl)) (by kernel_rfl) (by kernel_rfl) (by kernel_rfl) (door_met os _)) ?_
  intro w0 tape inp _ hS _ hok hpre _
  obtain ⟨_, _, _, fn', hfn', _, _, _, _, hval1⟩ := hok
  obtain rfl : Tryd.f4 = fn' := Option.some.inj (Tryd.func4.symm.trans hfn')
  obtain ⟨⟨⟨ds, gs, before, hw, hc⟩, hx⟩, hz⟩ := hpre
  have hW : DataW.Whole enc Tryd.prog Tryd.f4.params.toList Rows.topRulerSpec.vars false (w0.forCall tape inp) inp.args.toList ds gs before := DataW.Whole.of_heap (w' := w0.forCall tape inp) (by rfl) hw
  have hL : laidMetH Tryd.prog Rows.topRulerRow.laid (w0.forCall tape inp) := hx.of_heap (by rfl)
  suffices key : Calls Tryd.prog 4 inp.args (w0.forCall tape inp) fun e W' => ∃ v, e = .returned v ∧ Rows.topRulerSpec.post enc Tryd.prog Tryd.f4 false true false false (w0.forCall tape inp) inp.args v W' by
    refine key.mono fun e W' ⟨v, he, hp⟩ => ?_
    subst he
    exact ChangeSpec.post_blind hp
  have hval0 := hval1
  clear hw hx hval1 hfn'
  revert hval0 hW hL hS
  generalize inp.args = args
  generalize w0.forCall tape inp = W
  generalize w0.heap.size = base
  intro hS hW hL hval0
  have hval : ∀ (j : Nat) t v, Tryd.f4.params[j]? = some t → args[j]? = some v → Value.okWide Tryd.prog W .any base t v := hval0
  have hW' := hW
  obtain ⟨p, q, hA0, hV, rfl, hfz, hnd⟩ := hW
  have hA : DataW.TrodAll enc Tryd.prog W 0 (fun _ => true) true Tryd.f4.params.toList args.toList ds p := hA0
  rw [Tryd.params4] at hA hval
  obtain ⟨v0, vs0, d0, ds0, p0, q0, hargs, rfl, rfl, k0, r0⟩ := trodAll_cons hA
  obtain ⟨v1, vs1, d1, ds1, p1, q1, rfl, rfl, rfl, k1, r1⟩ := trodAll_cons r0
  obtain ⟨v2, vs2, d2, ds2, p2, q2, rfl, rfl, rfl, k2, r2⟩ := trodAll_cons r1
  obtain ⟨rfl, rfl, rfl⟩ := trodAll_nil r2
  obtain rfl : args = #[v0, v1, v2] := by cases args; simp_all
  obtain ⟨rfl, rfl⟩ := trodVars_none hV
  obtain ⟨b0, rfl, rfl, rfl, w0⟩ := open_int Tryd.underlying5 (hval 0 5 v0 rfl rfl) k0
  obtain ⟨a0, rfl, h0⟩ := wf_u8 w0
  obtain ⟨b1, rfl, rfl, rfl, w1⟩ := open_int Tryd.underlying5 (hval 1 5 v1 rfl rfl) k1
  obtain ⟨a1, rfl, h1⟩ := wf_u8 w1
  obtain ⟨b2, rfl, rfl, rfl, w2⟩ := open_int Tryd.underlying5 (hval 2 5 v2 rfl rfl) k2
  obtain ⟨a2, rfl, h2⟩ := wf_u8 w2
  clear hA0 hval0
  refine (walk a0 a1 a2 W h0 h1 h2 hL hS).mono fun e W' ⟨he, bel⟩ => ?_
  subst he
  exact ⟨_, rfl, _, _, _, [], _, [], hW', trodAll_mk1 (shut_bool Tryd.underlying4 _), (trodAll_cons_mk (shut_int Tryd.underlying5 w0) (trodAll_cons_mk (shut_int Tryd.underlying5 w1) (trodAll_cons_mk (shut_int Tryd.underlying5 w2) trodAll_mk0))), rfl, bel.frame _, fun h => by cases h⟩

theorem over : Rows.TopRulerSaid :=
  OpenClaim.holds_of_wide 4 Tryd.f4 rfl rfl rfl rfl rfl rfl rfl ⟨rfl, rfl, rfl, rfl, rfl⟩ rfl rfl rfl rfl rfl (by kernel_rfl) Tryd.func4 (by kernel_rfl)
    (of_decide_eq_true (by kernel_rfl)) (by unfold Func.isWrapper; first | (rw [if_pos (by decide +kernel)]; kernel_rfl) | (rw [if_neg (by decide +kernel)]; exact ⟨rfl, rfl⟩))
    (fun os started H enc _ => lifted os started H enc)

theorem proved : Rows.TopRulerCardSaid :=
  Claim7.holds_tied_plain_at .later [] [.data, .data] true (true, "0ba66b96497e58c792e19795d154cd47d4881a698cb4bd3884ea149ea891db78") false
    over (fun _ h => by cases h) (by kernel_rfl) (fun _ h => by cases h) topRuler_row_tie rfl ⟨rfl, rfl⟩ (by kernel_rfl) rfl
    (fun f fn hf hfn => by
      obtain rfl : f = 4 := Option.some.inj ((show Tryd.prog.funcNamed "aigrette/aigrettetop.TopRuler" = some 4 by kernel_rfl).symm.trans hf) |>.symm
      obtain rfl : fn = Tryd.f4 := (Option.some.inj (Tryd.func4.symm.trans hfn)).symm
      exact ⟨by kernel_rfl, fun j t ht => by
        rw [Tryd.params4] at ht
        have hm : t ∈ ([5, 5, 5] : List Nat) := by simpa using Array.mem_of_getElem? ht
        have hall : (([5, 5, 5] : List Nat).all fun u => !Tryd.prog.wantsStandIn u) = true := by kernel_rfl
        exact (show Tryd.prog.wantsStandIn t = false by simpa using List.all_eq_true.1 hall t hm)⟩)
    (by kernel_rfl)
end Go.Proofs.YtkbagfcklodfnaaDoor.topRuler
