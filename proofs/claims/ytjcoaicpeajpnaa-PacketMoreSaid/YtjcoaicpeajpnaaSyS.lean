/- What packet answers for two sizes. -/
import Derived.Test.YtjcoaicpeajpnaaSyN
import Derived.Test.YtjcoaicpeajpnaaPkWb
namespace Go.Proofs.Ytjcoaicpeajpnaa
open Go.RowKit Pk

theorem two_natL (a b : Nat) : natL [(a : Int), (b : Int)] = [a, b] := by simp [natL]
theorem two_G (a b : Nat) : G [a, b] = Nat.gcd a b := by simp [G]
theorem two_chk {a b : Nat} (h1 : 1 ≤ a) (h2 : a < b) (h3 : b ≤ 30) : chk [(a : Int), (b : Int)] = 0 := by
  have e0 : chk1 [(a : Int), (b : Int)] 0 = 0 := by simp [chk1, At]; omega
  have e1 : chk1 [(a : Int), (b : Int)] 1 = 0 := by simp [chk1, At]; omega
  simp [chk, chkTo, e0, e1]
theorem two_K {a b : Nat} (h1 : 1 ≤ a) (h2 : a < b) (h3 : b ≤ 30) : (a - 1) * (b - 1) ≤ 901 := by
  have : (a - 1) * (b - 1) ≤ 29 * 29 := Nat.mul_le_mul (by omega) (by omega)
  omega
theorem two_over {a b : Nat} (h1 : 1 ≤ a) (h2 : a < b) (h3 : b ≤ 30) (hg : 1 < Nat.gcd a b) :
    gapE [(a : Int), (b : Int)] = 15 ∧ gapV [(a : Int), (b : Int)] = [] ∧ greE [(a : Int), (b : Int)] = 15 := by
  have hE : gapE [(a : Int), (b : Int)] = 15 := by rw [gapE, two_chk h1 h2 h3, two_natL, two_G, if_pos rfl, if_pos hg]
  exact ⟨hE, by rw [gapV, hE]; rfl, by rw [greE, hE]; rfl⟩
theorem two_gaps {a b : Nat} (h1 : 1 ≤ a) (h2 : a < b) (h3 : b ≤ 30) (hg : ¬ 1 < Nat.gcd a b) :
    gapE [(a : Int), (b : Int)] = 0 ∧ gapV [(a : Int), (b : Int)] = gapL [a, b] 901 := by
  have hE : gapE [(a : Int), (b : Int)] = 0 := by rw [gapE, two_chk h1 h2 h3, two_natL, two_G, if_pos rfl, if_neg hg]
  have hg1 : Nat.gcd a b = 1 := by have := Nat.gcd_pos_of_pos_left b h1; omega
  have hK := two_K h1 h2 h3
  refine ⟨hE, ?_⟩
  rw [gapV, hE, two_natL, if_pos rfl, syl_gaps h1 (by omega) hg1 (by omega), ← syl_gaps h1 (by omega) hg1 hK]
theorem two_rest {a b : Nat} (h1 : 1 ≤ a) (h2 : a < b) (h3 : b ≤ 30) (hg : ¬ 1 < Nat.gcd a b) :
    2 * (gapL [a, b] 901).length = (a - 1) * (b - 1) ∧ evnV [(a : Int), (b : Int)] = true ∧
    ((gapL [a, b] 901).length = 0 → greE [(a : Int), (b : Int)] = 12 ∧ (a : Int) * b - a - b < 0) ∧
    ((gapL [a, b] 901).length ≠ 0 → greE [(a : Int), (b : Int)] = 0 ∧ greV [(a : Int), (b : Int)] = (a : Int) * b - a - b ∧ At (gapL [a, b] 901) ((gapL [a, b] 901).length - 1) = (a : Int) * b - a - b) := by
  obtain ⟨hE, hV⟩ := two_gaps h1 h2 h3 hg
  have hg1 : Nat.gcd a b = 1 := by have := Nat.gcd_pos_of_pos_left b h1; omega
  have hK := two_K h1 h2 h3
  have hl := syl_len h1 (show 0 < b by omega) hg1 hK
  have hlast := fun h => syl_last h1 (show 0 < b by omega) hg1 hK h
  have hS := syl_K h1 (show 0 < b by omega)
  have e : ((a * b + 1 : Nat) : Int) = (((a - 1) * (b - 1) + a + b : Nat) : Int) := by rw [hS]
  rw [Int.natCast_add, Int.natCast_mul] at e
  refine ⟨hl, ?_, fun h => ?_, fun h => ?_⟩
  · rw [evnV, if_pos hE, hV]
    by_cases h0 : (gapL [a, b] 901).length = 0
    · simp [h0]
    · rw [(hlast h0).1]
      simp only [Bool.or_eq_true, decide_eq_true_eq, beq_iff_eq]
      right
      omega
  · refine ⟨by rw [greE, if_pos hE, hV, if_pos h], ?_⟩
    omega
  · have hR : greE [(a : Int), (b : Int)] = 0 := by rw [greE, if_pos hE, hV, if_neg h]
    exact ⟨hR, by rw [greV, if_pos hR, hV]; exact (hlast h).1, (hlast h).1⟩
end Go.Proofs.Ytjcoaicpeajpnaa
