/- Mathematics of more sizes and more packets: the fewest packets are no more; what a stock that has enough changes: nothing. -/
import Derived.Test.YtjcoaicpeajpnaaSyX
namespace Go.Proofs.Ytjcoaicpeajpnaa
open Go.RowKit Pk

/-- A filling of n with v packets. -/
def Fil : List (Nat × Nat) → Nat → Nat → Prop
  | [], n, v => n = 0 ∧ v = 0
  | (s, c) :: r, n, v => ∃ p, p ≤ c ∧ p * s ≤ n ∧ ∃ u, Fil r (n - p * s) u ∧ v = p + u
theorem few_fil : ∀ (l : List (Nat × Nat)) (n v : Nat), few l n = some v → Fil l n v
  | [], n, v, h => by
    simp only [few] at h; split at h
    · rename_i h0; exact ⟨h0, by simpa using h.symm⟩
    · cases h
  | (s, c) :: r, n, v, h => by
    obtain ⟨p, h1, h2, h3⟩ := upTo_hit (f := few r) (s := s) (n := n) (c + 1) v h
    cases hu : few r (n - p * s) with
    | none => rw [hu] at h3; simp at h3
    | some u =>
      rw [hu] at h3
      exact ⟨p, by omega, h2, u, few_fil r _ u hu, by simpa using h3.symm⟩
theorem upTo_min {f : Nat → Option Nat} {s n p u : Nat} (hp : p * s ≤ n) (hf : f (n - p * s) = some u) : ∀ k, p < k → ∃ v, v ≤ p + u ∧ upTo f s n k = some v
  | 0, h => by omega
  | k + 1, h => by
    simp only [upTo]
    by_cases e : p = k
    · subst e
      rw [if_pos hp, hf]
      cases upTo f s n p with
      | none => exact ⟨p + u, Nat.le_refl _, rfl⟩
      | some a => exact ⟨min a (p + u), Nat.min_le_right _ _, rfl⟩
    · obtain ⟨v, h1, h2⟩ := upTo_min hp hf k (by omega)
      split
      · rw [h2]
        cases f (n - k * s) with
        | none => exact ⟨v, h1, rfl⟩
        | some b => exact ⟨min v (k + b), Nat.le_trans (Nat.min_le_left _ _) h1, rfl⟩
      · exact ⟨v, h1, h2⟩
theorem fil_few : ∀ (l : List (Nat × Nat)) (n v : Nat), Fil l n v → ∃ v', v' ≤ v ∧ few l n = some v'
  | [], n, v, ⟨h1, h2⟩ => ⟨0, by omega, by simp [few, h1]⟩
  | (s, c) :: r, n, v, ⟨p, h1, h2, u, h3, h4⟩ => by
    obtain ⟨u', h5, h6⟩ := fil_few r _ u h3
    obtain ⟨v', h7, h8⟩ := upTo_min (k := c + 1) h2 h6 (by omega)
    exact ⟨v', by omega, h8⟩
/-- The best filling has as many packets as it is said to have. -/
theorem bestL_sum : ∀ (l : List (Nat × Nat)) (n v : Nat), few l n = some v → (bestL l n).sum = v
  | [], n, v, h => by
    simp only [few] at h; split at h
    · simpa [bestL] using h
    · cases h
  | (s, c) :: r, n, v, h => by
    have h1 := (firstP_spec h).2.1
    simp only [fits, Bool.and_eq_true, decide_eq_true_eq, beq_iff_eq] at h1
    have h2 := h1.2
    rw [h] at h2
    rw [bestL, List.sum_cons]
    cases hu : few r (n - firstP s c r n * s) with
    | none => rw [hu] at h2; simp at h2
    | some u =>
      rw [hu] at h2
      rw [bestL_sum r _ u hu]
      simpa using h2
theorem fil_sub {l l' : List (Nat × Nat)} (h : l.Sublist l') : ∀ n v, Fil l n v → Fil l' n v := by
  induction h with
  | slnil => intro n v h; exact h
  | cons a _ ih => intro n v h; exact ⟨0, Nat.zero_le _, by omega, v, by simpa using ih n v h, by omega⟩
  | cons_cons a _ ih => intro n v h; obtain ⟨p, h1, h2, u, h3, h4⟩ := h; exact ⟨p, h1, h2, u, ih _ _ h3, h4⟩
theorem sub_sorted : ∀ (ps qs : List Nat), ps.Pairwise (· < ·) → qs.Pairwise (· < ·) → (∀ x ∈ ps, x ∈ qs) → ps.Sublist qs
  | [], _, _, _, _ => List.nil_sublist _
  | a :: t, [], _, _, h => by have := h a (by simp); simp at this
  | a :: t, b :: u, hp, hq, h => by
    rw [List.pairwise_cons] at hp hq
    by_cases e : a = b
    · subst e
      refine List.Sublist.cons_cons a (sub_sorted t u hp.2 hq.2 fun x hx => ?_)
      rcases List.mem_cons.1 (h x (by simp [hx])) with rfl | hx'
      · exact absurd (hp.1 x hx) (Nat.lt_irrefl _)
      · exact hx'
    · have ha : a ∈ u := by
        rcases List.mem_cons.1 (h a (by simp)) with h | h
        · exact absurd h e
        · exact h
      have hba := hq.1 a ha
      refine List.Sublist.cons b (sub_sorted (a :: t) u (List.pairwise_cons.2 hp) hq.2 fun x hx => ?_)
      rcases List.mem_cons.1 (h x hx) with rfl | hx'
      · exfalso
        rcases List.mem_cons.1 hx with rfl | hx
        · exact e rfl
        · have := hp.1 x hx; omega
      · exact hx'
theorem fil_caps : ∀ (ps cs fs : List Nat) (n v : Nat), fs.length = cs.length → (∀ i, i < cs.length → NAt cs i ≤ NAt fs i) → Fil (ps.zip cs) n v → Fil (ps.zip fs) n v
  | [], _, _, _, _, _, _, h => by simpa using h
  | _ :: _, [], fs, _, _, hl, _, h => by
    have : fs = [] := List.eq_nil_of_length_eq_zero hl
    subst this; exact h
  | s :: t, c :: cs, [], _, _, hl, _, _ => by simp at hl
  | s :: t, c :: cs, f :: fs, n, v, hl, hc, h => by
    obtain ⟨p, h1, h2, u, h3, h4⟩ := h
    have h0 := hc 0 (by simp)
    simp [NAt] at h0
    refine ⟨p, by omega, h2, u, fil_caps t cs fs _ u (by simpa using hl) (fun i hi => ?_) h3, h4⟩
    have := hc (i + 1) (by simp; omega)
    simpa [NAt] using this
/-- Fillings with no more packets. -/
theorem few_more {l l' : List (Nat × Nat)} {n v : Nat} (h : few l n = some v) (hf : ∀ v, Fil l n v → Fil l' n v) : ∃ v', v' ≤ v ∧ few l' n = some v' ∧ (bestL l' n).sum ≤ (bestL l n).sum := by
  obtain ⟨v', h1, h2⟩ := fil_few l' n v (hf v (few_fil l n v h))
  exact ⟨v', h1, h2, by rw [bestL_sum l n v h, bestL_sum l' n v' h2]; exact h1⟩

/-! ### enough packets -/
theorem upTo_enough {f : Nat → Option Nat} {s n : Nat} (hs : 0 < s) {c : Nat} (hc : n / s ≤ c) : upTo f s n (c + 1) = upTo f s n (n / s + 1) := by
  have h : ∀ j, upTo f s n (n / s + 1 + j) = upTo f s n (n / s + 1) := by
    intro j
    induction j with
    | zero => rfl
    | succ j ih =>
      rw [← Nat.add_assoc, upTo, if_neg, ih]
      intro h
      have := (Nat.le_div_iff_mul_le hs).2 h
      omega
  have := h (c - n / s)
  rwa [show n / s + 1 + (c - n / s) = c + 1 by omega] at this
theorem upTo_congr {f g : Nat → Option Nat} {s n : Nat} (h : ∀ m, m ≤ n → f m = g m) : ∀ k, upTo f s n k = upTo g s n k
  | 0 => rfl
  | k + 1 => by simp only [upTo, upTo_congr h k, h _ (Nat.sub_le n _)]
/-- The same sizes, each in a number that is enough for N. -/
inductive Enough (N : Nat) : List (Nat × Nat) → List (Nat × Nat) → Prop
  | nil : Enough N [] []
  | cons {s c c' r r'} : 0 < s → N / s ≤ c → N / s ≤ c' → Enough N r r' → Enough N ((s, c) :: r) ((s, c') :: r')
theorem few_enough' {N : Nat} {l l' : List (Nat × Nat)} (h : Enough N l l') : ∀ m, m ≤ N → few l m = few l' m := by
  induction h with
  | nil => intro m _; rfl
  | @cons s c c' r r' hs h1 h2 _ ih =>
    intro m hm
    have hd : m / s ≤ N / s := Nat.div_le_div_right hm
    show upTo (few r) s m (c + 1) = upTo (few r') s m (c' + 1)
    rw [upTo_enough hs (by omega), upTo_enough hs (c := c') (by omega)]
    exact upTo_congr (fun k hk => ih k (by omega)) _
theorem find_enough {p : Nat → Bool} {k : Nat} (h : ∀ i, k ≤ i → p i = false) : ∀ j, (List.range (k + j)).find? p = (List.range k).find? p
  | 0 => rfl
  | j + 1 => by
    rw [← Nat.add_assoc, List.range_succ, List.find?_append, find_enough h j]
    simp [h (k + j) (by omega)]
theorem bestL_enough {N : Nat} {l l' : List (Nat × Nat)} (h : Enough N l l') : ∀ m, m ≤ N → bestL l m = bestL l' m := by
  induction h with
  | nil => intro m _; rfl
  | @cons s c c' r r' hs h1 h2 hr ih =>
    intro m hm
    have hd : m / s ≤ N / s := Nat.div_le_div_right hm
    have hfew := few_enough' (Enough.cons hs h1 h2 hr) m hm
    have hfit : fits s c r m = fits s c' r' m := by
      funext p
      simp only [fits, hfew]
      congr 1
      rw [few_enough' hr _ (Nat.le_trans (Nat.sub_le m _) hm)]
    have hno : ∀ i, m / s + 1 ≤ i → fits s c' r' m i = false := by
      intro i hi
      have : ¬ i * s ≤ m := fun h => by have := (Nat.le_div_iff_mul_le hs).2 h; omega
      simp [fits, this]
    have hfirst : firstP s c r m = firstP s c' r' m := by
      simp only [firstP, hfit]
      have e1 := find_enough hno (c - m / s)
      have e2 := find_enough hno (c' - m / s)
      rw [show m / s + 1 + (c - m / s) = c + 1 by omega] at e1
      rw [show m / s + 1 + (c' - m / s) = c' + 1 by omega] at e2
      rw [e1, e2]
    simp only [bestL, hfirst]
    rw [ih _ (Nat.le_trans (Nat.sub_le m _) hm)]
theorem enough_zip {N : Nat} {g h : Nat → Nat} : ∀ (ps : List Nat), (∀ s ∈ ps, 0 < s ∧ N / s ≤ g s ∧ N / s ≤ h s) → Enough N (ps.zip (ps.map g)) (ps.zip (ps.map h))
  | [], _ => .nil
  | s :: t, hp => by
    have h1 := hp s (by simp)
    exact .cons h1.1 h1.2.1 h1.2.2 (enough_zip t fun x hx => hp x (by simp [hx]))
end Go.Proofs.Ytjcoaicpeajpnaa
