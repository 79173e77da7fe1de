/- What two sizes without a common divisor give: their gaps, half of all numbers. -/
import Derived.Test.YtjcoaicpeajpnaaSyM
import Derived.Test.YtjcoaicpeajpnaaPkWa
namespace Go.Proofs.Ytjcoaicpeajpnaa
open Go.RowKit Pk

theorem two_pos {a b : Nat} (ha : 0 < a) (hb : 0 < b) : ∀ s ∈ [a, b], 0 < s := by
  intro s hs; simp at hs; rcases hs with rfl | rfl <;> assumption
theorem syl_K {a b : Nat} (ha : 0 < a) (hb : 0 < b) : a * b + 1 = (a - 1) * (b - 1) + a + b := by
  obtain ⟨a, rfl⟩ : ∃ k, a = k + 1 := ⟨a - 1, by omega⟩
  obtain ⟨b, rfl⟩ : ∃ k, b = k + 1 := ⟨b - 1, by omega⟩
  simp [Nat.add_mul, Nat.mul_add]
  omega
theorem rB_pair {a b n m : Nat} (ha : 0 < a) (hb : 0 < b) (hg : Nat.gcd a b = 1) (h : n + m + a + b = a * b) : rB [a, b] m = !rB [a, b] n := by
  have e : (n : Int) + m = (a : Int) * b - a - b := by
    have : ((n + m + a + b : Nat) : Int) = ((a * b : Nat) : Int) := by rw [h]
    rw [Int.natCast_mul] at this
    omega
  have h1 := syl_pair hb hg e
  rw [← rB_iff (two_pos ha hb), ← rB_iff (two_pos ha hb)] at h1
  cases h2 : rB [a, b] n <;> cases h3 : rB [a, b] m <;> simp [h2, h3] at h1 ⊢
theorem rB_above {a b n : Nat} (ha : 0 < a) (hb : 0 < b) (hg : Nat.gcd a b = 1) (h : a * b < n + a + b) : rB [a, b] n = true := by
  rw [rB_iff (two_pos ha hb)]
  refine syl_above hb hg ?_
  have : ((a * b : Nat) : Int) < ((n + a + b : Nat) : Int) := by omega
  rw [Int.natCast_mul] at this
  omega
theorem gapL_top {ps : List Nat} {K : Nat} (h : ∀ x, K ≤ x → rB ps x = true) : ∀ j, gapL ps (K + j) = gapL ps K
  | 0 => rfl
  | j + 1 => by rw [← Nat.add_assoc, gapL_miss (h _ (by omega)), gapL_top h j]
theorem syl_gaps {a b N : Nat} (ha : 0 < a) (hb : 0 < b) (hg : Nat.gcd a b = 1) (hN : (a - 1) * (b - 1) ≤ N) : gapL [a, b] N = gapL [a, b] ((a - 1) * (b - 1)) := by
  have hK := syl_K ha hb
  have := gapL_top (ps := [a, b]) (K := (a - 1) * (b - 1)) (fun x hx => rB_above ha hb hg (by omega)) (N - (a - 1) * (b - 1))
  rwa [show (a - 1) * (b - 1) + (N - (a - 1) * (b - 1)) = N by omega] at this
theorem syl_len {a b N : Nat} (ha : 0 < a) (hb : 0 < b) (hg : Nat.gcd a b = 1) (hN : (a - 1) * (b - 1) ≤ N) : 2 * (gapL [a, b] N).length = (a - 1) * (b - 1) := by
  have hK := syl_K ha hb
  rw [syl_gaps ha hb hg hN, gapL, List.length_map]
  refine filter_pair fun x hx => ?_
  rw [rB_pair (n := x) ha hb hg (by omega)]
theorem syl_last {a b N : Nat} (ha : 0 < a) (hb : 0 < b) (hg : Nat.gcd a b = 1) (hN : (a - 1) * (b - 1) ≤ N) (h : (gapL [a, b] N).length ≠ 0) :
    At (gapL [a, b] N) ((gapL [a, b] N).length - 1) = (a : Int) * b - a - b ∧ 1 ≤ (a - 1) * (b - 1) := by
  have hK := syl_K ha hb
  have hl := syl_len ha hb hg hN
  have h1 : 1 ≤ (a - 1) * (b - 1) := by omega
  refine ⟨?_, h1⟩
  have e : ((a * b + 1 : Nat) : Int) = (((a - 1) * (b - 1) + a + b : Nat) : Int) := by rw [hK]
  rw [Int.natCast_add, Int.natCast_mul] at e
  rw [syl_gaps ha hb hg hN]
  generalize (a - 1) * (b - 1) = K at *
  obtain ⟨K, rfl⟩ : ∃ k, K = k + 1 := ⟨K - 1, by omega⟩
  have h0 : rB [a, b] 0 = true := (rB_iff (two_pos ha hb) 0).2 (R_zero _)
  have hf : rB [a, b] K = false := by
    rw [rB_pair (n := 0) ha hb hg (by omega), h0]; rfl
  rw [gapL_hit hf]
  simp [At]
  omega
end Go.Proofs.Ytjcoaicpeajpnaa
