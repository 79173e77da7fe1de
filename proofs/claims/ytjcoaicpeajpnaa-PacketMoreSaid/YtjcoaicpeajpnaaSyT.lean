/- Mathematics of remainders, second part: how many gaps, and the greatest one. -/
import Derived.Test.YtjcoaicpeajpnaaSyR
namespace Go.Proofs.Ytjcoaicpeajpnaa
open Go.RowKit Pk

def sumN (f : Nat → Nat) : Nat → Nat
  | 0 => 0
  | k + 1 => sumN f k + f k
def sumI (f : Nat → Int) : Nat → Int
  | 0 => 0
  | k + 1 => sumI f k + f k
/-- The greatest of some numbers less s, -1 at least. -/
def topI (f : Nat → Int) (s : Int) : Nat → Int
  | 0 => -1
  | k + 1 => max (topI f s k) (f k - s)
theorem sumN_add (f g : Nat → Nat) : ∀ k, sumN f k + sumN g k = sumN (fun i => f i + g i) k
  | 0 => rfl
  | k + 1 => by simp only [sumN]; rw [← sumN_add f g k]; omega
theorem sumN_congr {f g : Nat → Nat} : ∀ {k : Nat}, (∀ i, i < k → f i = g i) → sumN f k = sumN g k
  | 0, _ => rfl
  | k + 1, h => by simp only [sumN]; rw [sumN_congr (fun i hi => h i (by omega)), h k (by omega)]
theorem topI_ge {f : Nat → Int} {s : Int} : ∀ {k i : Nat}, i < k → f i - s ≤ topI f s k
  | 0, _, h => by omega
  | k + 1, i, h => by
    rw [topI]
    by_cases e : i = k
    · subst e; omega
    · have := topI_ge (f := f) (s := s) (k := k) (i := i) (by omega); omega
theorem topI_low (f : Nat → Int) (s : Int) : ∀ k, -1 ≤ topI f s k
  | 0 => by simp [topI]
  | k + 1 => by rw [topI]; have := topI_low f s k; omega
theorem topI_le {f : Nat → Int} {s B : Int} (hB : -1 ≤ B) : ∀ {k : Nat}, (∀ i, i < k → f i - s ≤ B) → topI f s k ≤ B
  | 0, _ => by simpa [topI] using hB
  | k + 1, h => by
    rw [topI]
    have h1 := topI_le hB (k := k) (fun i hi => h i (by omega))
    have h2 := h k (by omega)
    omega
theorem sumI_bound {f : Nat → Int} {B : Int} (hf : ∀ i, -B ≤ f i ∧ f i ≤ B) : ∀ k : Nat, -(k : Int) * B ≤ sumI f k ∧ sumI f k ≤ k * B
  | 0 => by simp [sumI]
  | k + 1 => by
    have h1 := sumI_bound hf k
    have h2 := hf k
    simp only [sumI, Int.natCast_add, Int.natCast_one, Int.neg_add, Int.add_mul]
    omega

theorem fm_div {s r x : Nat} (_hs : 0 < s) (_hr : r < s) (h : x % s = r) : x = r + s * (x / s) := by
  have := Nat.mod_add_div x s
  omega
theorem gap_step {ps : List Nat} {s M i : Nat} (hsP : s ∈ ps) (hp : ∀ x ∈ ps, 0 < x ∧ x ≤ 30) (hg : ¬ 1 < G ps) (hi : i < s) :
    rB ps (s * M + i) = !decide (M < (fm ps s i).toNat / s) := by
  have hs := hp s hsP
  have hm : (s * M + i) % s = i := by rw [Nat.mul_add_mod, Nat.mod_eq_of_lt hi]
  have h1 := fm_rB (n := s * M + i) hsP hp
  rw [hm] at h1
  have h2 := fm_fin hsP hp hg hi
  rcases fm_cases (r := i) hsP hp with ⟨h3, _⟩ | ⟨x, h3, h4, h5, h6, h7⟩
  · omega
  · rw [h3] at h1 ⊢
    rw [Int.toNat_natCast]
    have h8 := fm_div hs.1 hi h5
    rw [Bool.eq_iff_iff, h1]
    simp only [Bool.not_eq_true', decide_eq_false_iff_not]
    generalize x / s = j at *
    constructor
    · rintro ⟨_, h⟩ hlt
      have := Nat.mul_le_mul_left s (show M + 1 ≤ j from hlt)
      rw [Nat.mul_add] at this
      omega
    · intro h
      have := Nat.mul_le_mul_left s (show j ≤ M by omega)
      omega
theorem gap_count {ps : List Nat} {s : Nat} (hsP : s ∈ ps) (hp : ∀ x ∈ ps, 0 < x ∧ x ≤ 30) (hg : ¬ 1 < G ps) : ∀ M i : Nat, i ≤ s →
    (gapL ps (s * M + i)).length = sumN (fun r => min ((fm ps s r).toNat / s) M) s + sumN (fun r => if M < (fm ps s r).toNat / s then 1 else 0) i := by
  intro M
  induction M with
  | zero =>
    intro i
    induction i with
    | zero => intro _; simp only [Nat.mul_zero, Nat.add_zero, Nat.min_zero, sumN]; rw [sumN_congr (g := fun _ => 0) (fun _ _ => by simp)]; simp [gapL]; clear hsP hg; induction s with
      | zero => rfl
      | succ s ih => simp [sumN, ← ih]
    | succ i ih =>
      intro hi
      have h1 := gap_step (M := 0) hsP hp hg (show i < s by omega)
      have h2 := ih (by omega)
      rw [← Nat.add_assoc]
      by_cases hd : 0 < (fm ps s i).toNat / s
      · rw [decide_eq_true hd] at h1
        rw [gapL_hit h1, List.length_append, h2]
        simp only [sumN, if_pos hd, List.length_singleton]
        omega
      · rw [decide_eq_false hd] at h1
        rw [gapL_miss h1, h2]
        simp only [sumN, if_neg hd]
        omega
  | succ M ihM =>
    intro i
    induction i with
    | zero =>
      intro _
      have h := ihM s (Nat.le_refl _)
      rw [sumN_add] at h
      rw [Nat.add_zero, Nat.mul_succ, h]
      simp only [sumN, Nat.add_zero]
      exact sumN_congr fun r _ => by split <;> omega
    | succ i ih =>
      intro hi
      have h1 := gap_step (M := M + 1) hsP hp hg (show i < s by omega)
      have h2 := ih (by omega)
      rw [← Nat.add_assoc]
      by_cases hd : M + 1 < (fm ps s i).toNat / s
      · rw [decide_eq_true hd] at h1
        rw [gapL_hit h1, List.length_append, h2]
        simp only [sumN, if_pos hd, List.length_singleton]
        omega
      · rw [decide_eq_false hd] at h1
        rw [gapL_miss h1, h2]
        simp only [sumN, if_neg hd]
        omega
theorem rB_late {ps : List Nat} {s : Nat} (hsP : s ∈ ps) (hp : ∀ x ∈ ps, 0 < x ∧ x ≤ 30) (hg : ¬ 1 < G ps) {x : Nat} (hx : 900 ≤ x) : rB ps x = true := by
  have hs := hp s hsP
  have h1 := fm_fin hsP hp hg (Nat.mod_lt x hs.1)
  have h2 := fm_le (r := x % s) hsP hp
  exact (fm_rB hsP hp).2 ⟨h1, by omega⟩
theorem gapL_late {ps : List Nat} {s : Nat} (hsP : s ∈ ps) (hp : ∀ x ∈ ps, 0 < x ∧ x ≤ 30) (hg : ¬ 1 < G ps) {N : Nat} (hN : 900 ≤ N) : gapL ps N = gapL ps 900 := by
  have := gapL_top (ps := ps) (K := 900) (fun x hx => rB_late hsP hp hg hx) (N - 900)
  rwa [show 900 + (N - 900) = N by omega] at this
/-- The sum of the smallest numbers tells how many gaps there are. -/
theorem rem_count {ps : List Nat} {s N : Nat} (hsP : s ∈ ps) (hp : ∀ x ∈ ps, 0 < x ∧ x ≤ 30) (hg : ¬ 1 < G ps) (hN : 900 ≤ N) :
    2 * ((s : Int) * ((gapL ps N).length : Int)) = 2 * sumI (fm ps s) s - (s : Int) * ((s : Int) - 1) := by
  have hs := hp s hsP
  have h1 := gap_count hsP hp hg 901 0 (by omega)
  have h901 : 901 * 1 ≤ 901 * s := Nat.mul_le_mul_left 901 hs.1
  rw [Nat.add_zero, gapL_late hsP hp hg (by rw [Nat.mul_comm]; omega)] at h1
  rw [gapL_late hsP hp hg hN, h1]
  simp only [sumN, Nat.add_zero]
  have h2 : ∀ k, k ≤ s → 2 * ((s : Int) * (sumN (fun r => min ((fm ps s r).toNat / s) 901) k : Nat)) = 2 * sumI (fm ps s) k - (k : Int) * ((k : Int) - 1) := by
    intro k
    induction k with
    | zero => intro _; simp [sumN, sumI]
    | succ k ih =>
      intro hk
      have ih := ih (by omega)
      have h3 := fm_fin hsP hp hg (show k < s by omega)
      rcases fm_cases (r := k) hsP hp with ⟨h4, _⟩ | ⟨x, h4, h5, h6, h7, h8⟩
      · omega
      · have h9 := fm_div hs.1 (show k < s by omega) h6
        simp only [sumN, sumI, h4, Int.toNat_natCast]
        have hj : x / s ≤ 901 := Nat.le_trans (Nat.div_le_self _ _) (by omega)
        rw [Nat.min_eq_left hj, Int.natCast_add, Int.mul_add, Int.mul_add, ih]
        have h10 : (x : Int) = k + s * ((x / s : Nat) : Int) := by
          rw [← Int.natCast_mul, ← Int.natCast_add, ← h9]
        generalize ((x / s : Nat) : Int) = j at *
        rw [h10, Int.natCast_add, Int.natCast_one]
        simp only [Int.mul_add, Int.add_mul, Int.mul_sub]
        omega
  exact h2 s (Nat.le_refl _)
/-- The last gap is the greatest number that cannot be made. -/
theorem gapL_end {ps : List Nat} : ∀ N, (gapL ps N).length ≠ 0 → ∃ x : Nat, x < N ∧ At (gapL ps N) ((gapL ps N).length - 1) = x ∧ rB ps x = false ∧ ∀ y, x < y → y < N → rB ps y = true
  | 0, h => by simp [gapL] at h
  | N + 1, h => by
    cases hb : rB ps N with
    | false =>
      rw [gapL_hit hb]
      exact ⟨N, by omega, by simp [At], hb, fun y h1 h2 => by omega⟩
    | true =>
      rw [gapL_miss hb] at h ⊢
      obtain ⟨x, h1, h2, h3, h4⟩ := gapL_end N h
      refine ⟨x, by omega, h2, h3, fun y h5 h6 => ?_⟩
      by_cases e : y = N
      · subst e; exact hb
      · exact h4 y h5 (by omega)
theorem gapL_none {ps : List Nat} : ∀ N, (gapL ps N).length = 0 → ∀ y, y < N → rB ps y = true
  | 0, _, y, h => by omega
  | N + 1, h, y, hy => by
    cases hb : rB ps N with
    | false => rw [gapL_hit hb] at h; simp at h
    | true =>
      rw [gapL_miss hb] at h
      by_cases e : y = N
      · subst e; exact hb
      · exact gapL_none N h y (by omega)
theorem filter_half {p : Nat → Bool} {N : Nat} (h : ∀ x, x < N → p x = false → p (N - 1 - x) = true) : N ≤ 2 * ((List.range N).filter p).length := by
  have h1 : ((List.range N).filter (fun x => !p x)).length ≤ ((List.range N).filter p).length := by
    have e : (List.range N).reverse = (List.range N).map (fun x => N - 1 - x) := by
      apply List.ext_getElem (by simp)
      intro i h1 h2
      simp at h1
      simp [List.getElem_reverse]
    rw [← List.countP_eq_length_filter, ← List.countP_eq_length_filter]
    conv => rhs; rw [← List.countP_reverse, e, List.countP_map]
    refine List.countP_mono_left fun x hx hpx => ?_
    simp at hpx
    exact h x (List.mem_range.1 hx) hpx
  have h2 := List.length_eq_countP_add_countP p (l := List.range N)
  rw [List.length_range, List.countP_eq_length_filter, List.countP_eq_length_filter] at h2
  have h3 : (List.range N).filter (fun x => decide ¬p x = true) = (List.range N).filter (fun x => !p x) := by
    congr 1; funext x; simp
  rw [h3] at h2
  omega
/-- The greatest gap is the greatest of the smallest numbers less the size; half of all numbers up to it are gaps at least. -/
theorem rem_top {ps : List Nat} {s N : Nat} (hsP : s ∈ ps) (hp : ∀ x ∈ ps, 0 < x ∧ x ≤ 30) (hg : ¬ 1 < G ps) (hN : 901 ≤ N) :
    ((gapL ps N).length = 0 → topI (fm ps s) s s < 1) ∧
    ((gapL ps N).length ≠ 0 → At (gapL ps N) ((gapL ps N).length - 1) = topI (fm ps s) s s ∧ topI (fm ps s) s s + 1 ≤ 2 * ((gapL ps N).length : Int) ∧ 0 ≤ topI (fm ps s) s s ∧ topI (fm ps s) s s ≤ 900) := by
  have hs := hp s hsP
  have hpos : ∀ x ∈ ps, 0 < x := fun x hx => (hp x hx).1
  have hgap : ∀ r, r < s → 0 ≤ fm ps s r - s → ∃ y : Nat, fm ps s r - s = y ∧ y < N ∧ rB ps y = false := by
    intro r hr h
    rcases fm_cases (r := r) hsP hp with ⟨h1, h2⟩ | ⟨x, h1, h2, h3, h4, h5⟩
    · omega
    · refine ⟨x - s, by omega, by omega, h5 _ (by omega) ?_⟩
      rw [← h3, ← Nat.mod_eq_sub_mod (by omega)]
  constructor
  · intro h0
    have : topI (fm ps s) s s ≤ -1 := topI_le (by omega) fun r hr => by
      rcases Int.lt_or_le (fm ps s r - s) 0 with h | h
      · omega
      · obtain ⟨y, h1, h2, h3⟩ := hgap r hr h
        rw [gapL_none N h0 y h2] at h3
        cases h3
    omega
  · intro h0
    obtain ⟨x, h1, h2, h3, h4⟩ := gapL_end N h0
    have hle : topI (fm ps s) s s ≤ x := topI_le (by omega) fun r hr => by
      rcases Int.lt_or_le (fm ps s r - s) 0 with h | h
      · omega
      · obtain ⟨y, h5, h6, h7⟩ := hgap r hr h
        rcases Nat.lt_or_ge x y with hlt | hge
        · rw [h4 y hlt h6] at h7; cases h7
        · omega
    have hx9 : x < 900 := by
      rcases Nat.lt_or_ge x 900 with h | h
      · exact h
      · rw [rB_late hsP hp hg h] at h3; cases h3
    have hge : (x : Int) ≤ topI (fm ps s) s s := by
      have h5 := fm_fin hsP hp hg (Nat.mod_lt x hs.1)
      have h6 := topI_ge (f := fm ps s) (s := s) (Nat.mod_lt x hs.1)
      rcases fm_cases (r := x % s) hsP hp with ⟨h7, _⟩ | ⟨z, h7, h8, h9, h10, h11⟩
      · omega
      · have h12 : x < z := by
          rcases Nat.lt_or_ge x z with h | h
          · exact h
          · rw [rB_up hsP hpos h10 h h9] at h3; cases h3
        have := mod_gap (s := s) rfl h9 h12
        omega
    have e : topI (fm ps s) s s = x := by omega
    refine ⟨by rw [h2, e], ?_, by omega, by omega⟩
    rw [e]
    have hL : gapL ps N = gapL ps (x + 1) := by
      have : ∀ j, x + 1 + j ≤ N → gapL ps (x + 1 + j) = gapL ps (x + 1) := by
        intro j
        induction j with
        | zero => intro _; rfl
        | succ j ih => intro hj; rw [← Nat.add_assoc, gapL_miss (h4 _ (by omega) (by omega)), ih (by omega)]
      have := this (N - (x + 1)) (by omega)
      rwa [show x + 1 + (N - (x + 1)) = N by omega] at this
    rw [hL, gapL, List.length_map]
    have := filter_half (p := fun y => !rB ps y) (N := x + 1) fun y hy hf => by
      simp only [Bool.not_eq_false'] at hf
      cases hb : rB ps (x + 1 - 1 - y) with
      | false => rfl
      | true =>
        have h5 := R_sum ((rB_iff hpos _).1 hf) ((rB_iff hpos _).1 hb)
        rw [show y + (x + 1 - 1 - y) = x by omega] at h5
        rw [(rB_iff hpos x).2 h5] at h3
        cases h3
    omega
end Go.Proofs.Ytjcoaicpeajpnaa
