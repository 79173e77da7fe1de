/- Turns of an order that keep one coin: as many as there are coins more. -/
import Derived.Test.YtkdbgkibifigiaaTtE
namespace Go.Proofs.Ytkdbgkibifigiaa.Ev
set_option linter.unusedVariables false
set_option linter.unusedSimpArgs false
open Go Go.Proofs
/-- The least of some numbers that follow each other. -/
def mnW (f : Nat → Int) (i : Nat) : Nat → Int
  | 0 => f i
  | m + 1 => min (mnW f i m) (f (i + m + 1))
theorem le_mnW (f : Nat → Int) (i : Nat) (z : Int) : ∀ m, z ≤ mnW f i m ↔ ∀ j, j ≤ m → z ≤ f (i + j)
  | 0 => ⟨fun h j hj => by obtain rfl : j = 0 := by omega
                           exact h, fun h => h 0 (Nat.le_refl _)⟩
  | m + 1 => by
    rw [mnW]
    constructor
    · intro h j hj
      rcases Nat.lt_or_ge m j with h1 | h1
      · obtain rfl : j = m + 1 := by omega
        have : i + (m + 1) = i + m + 1 := rfl
        rw [this]; omega
      · exact (le_mnW f i z m).1 (by omega) j h1
    · intro h
      have h1 := (le_mnW f i z m).2 fun j hj => h j (by omega)
      have h2 := h (m + 1) (Nat.le_refl _)
      have : i + (m + 1) = i + m + 1 := rfl
      rw [this] at h2; omega
def cntB (g : Nat → Bool) : Nat → Int
  | 0 => 0
  | k + 1 => cntB g k + (if g k then 1 else 0)
theorem cycle_cnt {n : Nat} {S : Nat → Int} {s : Int} (hn : 1 ≤ n) (hs : 1 ≤ s) (h1 : ∀ i, i < n → S (i + 1) ≤ S i + 1) (hp : ∀ i, i ≤ n → S (i + n) = S i + s) {g : Nat → Bool}
    (hg : ∀ i, i < n → (g i = true ↔ ∀ j, j < n → S i + 1 ≤ S (i + j + 1))) : cntB g n = s := by
  have self : ∀ i j, j ≤ n - 1 → mnW S i (n - 1) ≤ S (i + j) := fun i j hj => (le_mnW S i _ (n - 1)).1 (Int.le_refl _) j hj
  have step : ∀ i, i < n → mnW S (i + 1) (n - 1) = mnW S i (n - 1) + (if g i then 1 else 0) := fun i hi => by
    have h0 := self i 0 (by omega)
    rw [Nat.add_zero] at h0
    have up : mnW S i (n - 1) ≤ mnW S (i + 1) (n - 1) := (le_mnW S (i + 1) _ (n - 1)).2 fun j hj => by
      rcases Nat.lt_or_ge j (n - 1) with hlt | hge
      · have := self i (j + 1) (by omega)
        rwa [show i + (j + 1) = i + 1 + j by omega] at this
      · have := hp i (by omega)
        rw [show i + 1 + j = i + n by omega]; omega
    by_cases hgi : g i = true
    · rw [if_pos hgi]
      have hgd := (hg i hi).1 hgi
      have a1 : S i + 1 ≤ mnW S (i + 1) (n - 1) := (le_mnW S (i + 1) _ (n - 1)).2 fun j hj => by
        have := hgd j (by omega)
        rwa [show i + j + 1 = i + 1 + j by omega] at this
      have a2 := self (i + 1) 0 (by omega)
      rw [Nat.add_zero] at a2
      have a3 := h1 i hi
      have a4 : S i ≤ mnW S i (n - 1) := (le_mnW S i _ (n - 1)).2 fun j hj => by
        cases j with
        | zero => exact Int.le_refl _
        | succ j =>
          have := hgd j (by omega)
          rw [show i + (j + 1) = i + j + 1 by omega]; omega
      omega
    · rw [if_neg hgi]
      have a5 : mnW S (i + 1) (n - 1) ≤ S i := by
        rcases Int.lt_or_le (S i) (mnW S (i + 1) (n - 1)) with hlt | hle
        · exfalso
          refine hgi ((hg i hi).2 fun j hj => ?_)
          have := self (i + 1) j (by omega)
          rw [show i + j + 1 = i + 1 + j by omega]; omega
        · exact hle
      have a6 : mnW S (i + 1) (n - 1) ≤ mnW S i (n - 1) := (le_mnW S i _ (n - 1)).2 fun j hj => by
        cases j with
        | zero => exact a5
        | succ j =>
          have := self (i + 1) j (by omega)
          rwa [show i + 1 + j = i + (j + 1) by omega] at this
      omega
  have all : ∀ k, k ≤ n → cntB g k = mnW S k (n - 1) - mnW S 0 (n - 1) := by
    intro k
    induction k with
    | zero => intro _; simp [cntB]
    | succ k ih =>
      intro hk
      rw [cntB, ih (by omega), step k (by omega)]
      omega
  rw [all n (Nat.le_refl _)]
  have b1 : mnW S 0 (n - 1) + s ≤ mnW S n (n - 1) := (le_mnW S n _ (n - 1)).2 fun j hj => by
    have := self 0 j hj
    have h2 := hp j (by omega)
    rw [show n + j = j + n by omega, h2]
    rw [Nat.zero_add] at this; omega
  have b2 : mnW S n (n - 1) - s ≤ mnW S 0 (n - 1) := (le_mnW S 0 _ (n - 1)).2 fun j hj => by
    have := self n j hj
    have h2 := hp j (by omega)
    rw [show n + j = j + n by omega, h2] at this
    rw [Nat.zero_add]; omega
  omega
/-- Coins after some customers of an order that begins again at its end. -/
def aftC (bs : List Nat) (m : Nat) : Int := if m ≤ bs.length then aft bs 0 m else aft bs 0 bs.length + aft bs 0 (m - bs.length)
theorem byt_rot {bs : List Nat} {i j : Nat} (hi : i ≤ bs.length) (hj : j < bs.length) : byt (rot bs i) j = byt bs (if i + j < bs.length then i + j else i + j - bs.length) := by
  have e : (rot bs i).getD j 0 = bs.getD (if i + j < bs.length then i + j else i + j - bs.length) 0 := by
    unfold rot
    rw [List.getD_eq_getElem?_getD, List.getD_eq_getElem?_getD]
    by_cases h : i + j < bs.length
    · rw [if_pos h, List.getElem?_append_left (by rw [List.length_drop]; omega), List.getElem?_drop]
    · rw [if_neg h, List.getElem?_append_right (by rw [List.length_drop]; omega), List.length_drop, List.getElem?_take_of_lt (by omega)]
      congr 2; omega
  unfold byt
  rw [e]
theorem aft_rot {bs : List Nat} {i : Nat} (hi : i ≤ bs.length) : ∀ j, j ≤ bs.length → aft (rot bs i) 0 j = aftC bs (i + j) - aftC bs i
  | 0, _ => by simp [aft]
  | j + 1, hj => by
    rw [aft, aft_rot hi j (by omega), stp, byt_rot hi (by omega)]
    have e : aftC bs i = aft bs 0 i := if_pos hi
    rw [e]
    by_cases h : i + j < bs.length
    · rw [if_pos h, show aftC bs (i + j) = aft bs 0 (i + j) from if_pos (by omega), show aftC bs (i + (j + 1)) = aft bs 0 (i + j + 1) from if_pos (by omega), aft, stp]
      omega
    · rw [if_neg h]
      have e2 : aftC bs (i + (j + 1)) = aft bs 0 bs.length + aft bs 0 (i + j - bs.length + 1) := by
        rw [aftC, if_neg (by omega), show i + (j + 1) - bs.length = i + j - bs.length + 1 by omega]
      have e3 : aftC bs (i + j) = aft bs 0 bs.length + aft bs 0 (i + j - bs.length) := by
        by_cases hle : i + j ≤ bs.length
        · rw [aftC, if_pos hle, show i + j = bs.length by omega]; simp [aft]
        · rw [aftC, if_neg hle]
      rw [e2, e3, aft, stp]
      omega
theorem tuL_cnt (bs : List Nat) (z : Int) : ∀ k, ((tuL bs z k).length : Int) = cntB (keeps bs z) k
  | 0 => rfl
  | k + 1 => by
    rw [tuL, cntB, ← tuL_cnt bs z k]
    split
    · rw [List.length_append]; simp
    · simp
theorem cntB_0 {g : Nat → Bool} : ∀ {k : Nat}, (∀ i, i < k → g i = false) → cntB g k = 0
  | 0, _ => rfl
  | k + 1, h => by rw [cntB, cntB_0 fun i hi => h i (by omega), h k (by omega)]; rfl
/-- **Of an order with more coins than notes just as many turns keep one coin as there are coins more; of another order none does.** -/
theorem tuL_one (bs : List Nat) : ((tuL bs 1 bs.length).length : Int) = max 0 (aft bs 0 bs.length) := by
  rw [tuL_cnt]
  have full : ∀ i, i ≤ bs.length → aftC bs (i + bs.length) = aftC bs i + aft bs 0 bs.length := fun i hi => by
    rw [show aftC bs i = aft bs 0 i from if_pos hi]
    by_cases h0 : i = 0
    · subst h0
      rw [Nat.zero_add, show aftC bs bs.length = aft bs 0 bs.length from if_pos (Nat.le_refl _)]; simp [aft]
    · rw [aftC, if_neg (by omega), Nat.add_sub_cancel]; omega
  by_cases hn : 1 ≤ bs.length
  · by_cases hs : 1 ≤ aft bs 0 bs.length
    · rw [cycle_cnt (S := aftC bs) hn hs (fun i hi => by
        rw [show aftC bs (i + 1) = aft bs 0 (i + 1) from if_pos hi, show aftC bs i = aft bs 0 i from if_pos (by omega), aft, stp]
        split <;> omega) full (fun i hi => by
        rw [keeps_iff]
        constructor
        · intro h j hj
          have := h j hj
          rw [aft_rot (by omega) (j + 1) hj] at this
          rw [show i + j + 1 = i + (j + 1) by omega]; omega
        · intro h j hj
          have := h j hj
          rw [aft_rot (by omega) (j + 1) hj]
          rw [show i + j + 1 = i + (j + 1) by omega] at this; omega)]
      omega
    · rw [cntB_0 fun i hi => ?_]
      · omega
      · refine Bool.eq_false_iff.2 fun h => ?_
        have := keeps_iff.1 h (bs.length - 1) (by omega)
        rw [aft_rot (by omega) _ (by omega), show i + (bs.length - 1 + 1) = i + bs.length by omega, full i (by omega)] at this
        omega
  · have : bs.length = 0 := by omega
    rw [this]; simp [cntB, aft]
end Go.Proofs.Ytkdbgkibifigiaa.Ev
