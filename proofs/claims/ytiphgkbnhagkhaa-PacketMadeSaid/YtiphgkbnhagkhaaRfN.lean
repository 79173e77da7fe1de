/- Plain mathematics: with enough packets there is a filling just if the number can be made. -/
import Derived.Test.YtiphgkbnhagkhaaPkMath
namespace Go.Proofs.Ytiphgkbnhagkhaa.Pk

theorem upTo_some {f : Nat → Option Nat} {s n : Nat} (k : Nat) : (upTo f s n k).isSome = true ↔ ∃ p, p < k ∧ p * s ≤ n ∧ (f (n - p * s)).isSome = true := by
  induction k with
  | zero => simp [upTo]
  | succ k ih =>
    simp only [upTo]
    by_cases h : k * s ≤ n
    · rw [if_pos h]
      constructor
      · intro hh
        cases h1 : upTo f s n k with
        | some a =>
          obtain ⟨p, a1, a2, a3⟩ := ih.1 (by rw [h1]; rfl)
          exact ⟨p, by omega, a2, a3⟩
        | none =>
          rw [h1] at hh
          refine ⟨k, by omega, h, ?_⟩
          cases h2 : f (n - k * s) with
          | none => rw [h2] at hh; simp [omin] at hh
          | some u => rfl
      · rintro ⟨p, a1, a2, a3⟩
        by_cases e : p = k
        · subst e
          cases h2 : f (n - p * s) with
          | none => rw [h2] at a3; cases a3
          | some u => cases upTo f s n p <;> simp [omin]
        · have := ih.2 ⟨p, by omega, a2, a3⟩
          cases h1 : upTo f s n k with
          | none => rw [h1] at this; cases this
          | some a => cases (f (n - k * s)).map (k + ·) <;> simp [omin]
    · rw [if_neg h, ih]
      constructor
      · rintro ⟨p, a1, a2, a3⟩; exact ⟨p, by omega, a2, a3⟩
      · rintro ⟨p, a1, a2, a3⟩
        refine ⟨p, ?_, a2, a3⟩
        rcases Nat.lt_or_ge p k with h' | h'
        · exact h'
        · obtain rfl : p = k := by omega
          exact absurd a2 h
theorem R_cons {s : Nat} {P : List Nat} {n : Nat} : R (s :: P) n ↔ ∃ p, p * s ≤ n ∧ R P (n - p * s) := by
  constructor
  · rintro ⟨l, h1, rfl⟩
    induction l with
    | nil => exact ⟨0, by simp, by simpa using R_zero P⟩
    | cons x t ih =>
      obtain ⟨p, a1, a2⟩ := ih fun y hy => h1 y (by simp [hy])
      rcases List.mem_cons.1 (h1 x (by simp)) with rfl | hx
      · refine ⟨p + 1, ?_, ?_⟩
        · rw [Nat.succ_mul, List.sum_cons]; omega
        · rw [Nat.succ_mul, List.sum_cons, show x + t.sum - (p * x + x) = t.sum - p * x by omega]; exact a2
      · refine ⟨p, by rw [List.sum_cons]; omega, ?_⟩
        rw [List.sum_cons, show x + t.sum - p * s = x + (t.sum - p * s) by omega]
        exact R_add hx a2
  · rintro ⟨p, a1, l, h1, h2⟩
    refine ⟨List.replicate p s ++ l, fun x hx => ?_, ?_⟩
    · rcases List.mem_append.1 hx with h | h
      · rw [(List.mem_replicate.1 h).2]; simp
      · simp [h1 x h]
    · rw [List.sum_append, List.sum_replicate_nat, h2]; omega
theorem few_R {ps : List Nat} (hp : ∀ s ∈ ps, 0 < s) : ∀ (caps : List Nat) (n : Nat), caps.length = ps.length → (∀ i, i < ps.length → n / (ps[i]?.getD 0) ≤ caps[i]?.getD 0) → ((few (ps.zip caps) n).isSome = true ↔ R ps n) := by
  induction ps with
  | nil =>
    intro caps n _ _
    rw [R_nil]
    simp only [List.zip_nil_left, few]
    by_cases h : n = 0 <;> simp [h]
  | cons s r ih =>
    intro caps n hl hcap
    cases caps with
    | nil => simp at hl
    | cons c cs =>
      have hs := hp s (by simp)
      simp only [List.zip_cons_cons, few]
      rw [upTo_some, R_cons]
      have hsub : ∀ p, p * s ≤ n → ((few (r.zip cs) (n - p * s)).isSome = true ↔ R r (n - p * s)) := fun p hps =>
        ih (fun x hx => hp x (by simp [hx])) cs (n - p * s) (by simpa using hl) (fun i hi => by
          have := hcap (i + 1) (by simp; omega)
          simp only [List.getElem?_cons_succ] at this
          exact Nat.le_trans (Nat.div_le_div_right (by omega)) this)
      constructor
      · rintro ⟨p, _, a2, a3⟩; exact ⟨p, a2, (hsub p a2).1 a3⟩
      · rintro ⟨p, a2, a3⟩
        have h0 := hcap 0 (by simp)
        simp only [List.getElem?_cons_zero, Option.getD_some] at h0
        have : p ≤ n / s := (Nat.le_div_iff_mul_le hs).2 a2
        exact ⟨p, by omega, a2, (hsub p a2).2 a3⟩
end Go.Proofs.Ytiphgkbnhagkhaa.Pk
