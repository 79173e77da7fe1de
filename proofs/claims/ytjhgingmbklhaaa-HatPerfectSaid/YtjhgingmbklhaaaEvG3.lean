/- Answers, by whatever does the calls. -/
import Derived.Test.YtjhgingmbklhaaaEvX
import Derived.Test.YtjhgingmbklhaaaEvG2
namespace Go.Proofs.Ytjhgingmbklhaaa.Ev
set_option linter.unusedVariables false
open Go Go.RowKit
/-- From the evaluator's answer to the call, in any world. -/
theorem ranF {P : Program} {F : FF} (hF : FOK P F) {f : Nat} {args : L} {v : V} {h' : Hp} {n' : Nat} (hr : F f args (gK + 1) .lf (gK + 1) = .ok v h' n') (hn : n' < 9223372036854775808) {vs : List Value} {u : Value}
    (ha : ∀ g, args.rel g vs) (hu : ∀ g x, v.rel g x → x = u) (w : World) : Calls P f ⟨vs⟩ w fun e w' => e = .returned u ∧ Below w.heap.size w w' := by
  have h0 : ∀ p, (Hp.get p .lf) = none := Hp.get_lf
  refine (hF.1 f args (gK + 1) .lf (gK + 1) v h' n' hr vs (g0 fun _ => 0) w (ha _) (g0_ok _) ⟨fun p q bp bq _ _ _ _ _ hp => ?_, fun p b hp => ?_⟩ (fun p b hp => ?_) (g0_fresh _ _) hn).2.mono ?_
  · have := (h0 _).symm.trans hp; cases this
  · have := (h0 _).symm.trans hp; cases this
  · have := (h0 _).symm.trans hp; cases this
  · rintro e w' ⟨x, g', rfl, hv, _, hfr⟩
    refine ⟨by rw [hu g' x hv], hfr.os, hfr.tape, hfr.output, hfr.size, fun k hk => hfr.keep k hk fun p b base tot hp => ?_⟩
    have := (h0 _).symm.trans hp; cases this

/-- The same, in a world that holds tables. -/
theorem ranTF {P : Program} {F : FF} (hF : FOK P F) (tabs : List (Nat × TypeId × L)) {f : Nat} {args : L} {v : V} {h' : Hp} {n' : Nat} (hr : F f args (gK + 1) (tabH tabs) (gK + 1) = .ok v h' n') (hn : n' < 9223372036854775808) {vs : List Value} {u : Value}
    (ha : ∀ g, args.rel g vs) (hu : ∀ g x, v.rel g x → x = u) (w : World) (hw : Holds w tabs) : Calls P f ⟨vs⟩ w fun e w' => e = .returned u ∧ Below w.heap.size w w' := by
  have num : ∀ k, k < gK → (tp k).num = k + 1 := fun k hk => num_posF 63 (k + 1) (by omega) (by unfold gK at hk; omega)
  have hg : ∀ k, k < gK → g0 (tabT tabs) (tp k) = some (k, 0, tabT tabs k) := fun k hk => by
    unfold g0; rw [num k hk, if_pos (by omega)]; simp
  refine (hF.1 f args (gK + 1) (tabH tabs) (gK + 1) v h' n' hr vs (g0 (tabT tabs)) w (ha _) (g0_ok _) ⟨fun p q bp bq r b1 t1 b2 t2 hp hq e1 e2 => ?_, fun p b hp => ?_⟩ (fun p b hp => ?_) (g0_fresh _ _) hn).2.mono ?_
  · obtain ⟨k, z, h1, rfl, _⟩ := tabH_get tabs hw p bp hp
    obtain ⟨k', z', h1', rfl, _⟩ := tabH_get tabs hw q bq hq
    rw [hg k h1] at e1
    rw [hg k' h1'] at e2
    cases e1; cases e2; rfl
  · obtain ⟨k, z, h1, rfl, h3, h4, h5, h6, vs, h7, h8⟩ := tabH_get tabs hw p b hp
    have hlen : vs.length = z.length := L.rel_length (h8 (fun _ => none))
    have hbs : b.size = z.length := by rw [h3]
    refine ⟨k, 0, tabT tabs k, ⟨vs⟩, hg k h1, .inl ⟨RowIs.of h7, Nat.zero_le _⟩, by rw [h4]; simpa using hlen, .inr (by rw [h4, hbs]; simp), by rw [hbs]; exact h6, fun j hj => ?_⟩
    obtain ⟨u, c1, c2, c3⟩ := cell_list (h8 (g0 (tabT tabs))) h5 b.el j (by rw [← hbs]; exact hj)
    refine ⟨u, by simpa using c1, c2, ?_⟩
    rw [h3]; exact c3
  · obtain ⟨k, z, h1, rfl, _⟩ := tabH_get tabs hw p b hp
    rw [num k h1]; omega
  · rintro e w' ⟨x, g', rfl, hv, _, hfr⟩
    refine ⟨by rw [hu g' x hv], hfr.os, hfr.tape, hfr.output, hfr.size, fun k hk => hfr.keep k hk fun p b base tot hp hl => ?_⟩
    obtain ⟨k', z, h1, rfl, _⟩ := tabH_get tabs hw p b hp
    rw [num k' h1] at hl; omega
theorem ranBF {P : Program} {F : FF} (hF : FOK P F) {f : Nat} {args : L} (hr : okR (F f args (gK + 1) .lf (gK + 1)) = true) {vs : List Value}
    (ha : ∀ g, args.rel g vs) (w : World) : Calls P f ⟨vs⟩ w fun e w' => e = .returned (.bool true) ∧ Below w.heap.size w w' := by
  obtain ⟨h', n', h1, h2⟩ := okR_ok hr
  exact ranF hF h1 h2 ha (fun g x hx => by simpa [V.rel] using hx) w
theorem ranTBF {P : Program} {F : FF} (hF : FOK P F) (tabs : List (Nat × TypeId × L)) {f : Nat} {args : L} (hr : okR (F f args (gK + 1) (tabH tabs) (gK + 1)) = true) {vs : List Value}
    (ha : ∀ g, args.rel g vs) (w : World) (hw : Holds w tabs) : Calls P f ⟨vs⟩ w fun e w' => e = .returned (.bool true) ∧ Below w.heap.size w w' := by
  obtain ⟨h', n', h1, h2⟩ := okR_ok hr
  exact ranTF hF tabs h1 h2 ha (fun g x hx => by simpa [V.rel] using hx) w hw

end Go.Proofs.Ytjhgingmbklhaaa.Ev
