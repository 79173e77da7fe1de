/- Mathematics of remainders: the smallest numbers of remainders tell how many gaps there are and the greatest one; at least half of all numbers up to the greatest gap are gaps. -/
import Derived.Test.YtjcoaicpeajpnaaSyS
import Derived.Test.YtjcoaicpeajpnaaRfM
import Derived.Test.YtjcoaicpeajpnaaLwCommon
namespace Go.Proofs.Ytjcoaicpeajpnaa
open Go.RowKit Pk

theorem fmF_late {N : Nat} {ps : List Nat} {s r : Nat} (hsP : s ∈ ps) (hp : ∀ x ∈ ps, 0 < x ∧ x ≤ 30) (hN : 901 ≤ N) : fmF N ps s r = fm ps s r := by
  have hs := hp s hsP
  have hpos : ∀ x ∈ ps, 0 < x := fun x hx => (hp x hx).1
  rw [fm, fmF_early hsP hp]
  cases h : (List.range 901).find? (fun x => x % s == r && rB ps x) with
  | some x =>
    rw [List.find?_range_eq_some] at h
    obtain ⟨h1, h2, h3⟩ := h
    have hx := List.mem_range.1 h2
    simp only [Bool.and_eq_true, beq_iff_eq] at h1
    have hno : ∀ y, y < x → y % s = r → rB ps y = false := by
      intro y hy he
      have := h3 y hy
      simpa [he] using this
    rw [fmF_hit (N := N) (by omega) h1.1 h1.2 hno, fmF_hit (N := 901) hx h1.1 h1.2 hno]
  | none =>
    rw [List.find?_eq_none] at h
    have hno : ∀ y, y < 901 → y % s = r → rB ps y = false := by
      intro y hy he
      have := h y (List.mem_range.2 hy)
      simpa [he] using this
    rw [fmF_none (N := 901) hno, fmF_none (N := N)]
    intro y hy he
    cases hb : rB ps y with
    | false => rfl
    | true =>
      obtain ⟨z, h1, h2, h3, h4⟩ := R_early' hs.1 (fun x hx => (hp x hx).2) ((rB_iff hpos y).1 hb)
      have : (s - 1) * 30 ≤ 29 * 30 := Nat.mul_le_mul_right 30 (by omega)
      have := (rB_iff hpos z).2 h3
      rw [hno z (by omega) (by rw [h2, he])] at this
      cases this

/-- What fm says: -1, and no number with that remainder can be made; or the smallest one. -/
theorem fm_cases {ps : List Nat} {s r : Nat} (hsP : s ∈ ps) (hp : ∀ x ∈ ps, 0 < x ∧ x ≤ 30) :
    (fm ps s r = -1 ∧ ∀ y, y % s = r → rB ps y = false) ∨ ∃ x : Nat, fm ps s r = x ∧ x < 901 ∧ x % s = r ∧ rB ps x = true ∧ ∀ y, y < x → y % s = r → rB ps y = false := by
  have hs := hp s hsP
  have hpos : ∀ x ∈ ps, 0 < x := fun x hx => (hp x hx).1
  rw [fm, fmF_early hsP hp]
  cases h : (List.range 901).find? (fun x => x % s == r && rB ps x) with
  | some x =>
    rw [List.find?_range_eq_some] at h
    obtain ⟨h1, h2, h3⟩ := h
    have hx := List.mem_range.1 h2
    simp only [Bool.and_eq_true, beq_iff_eq] at h1
    have hno : ∀ y, y < x → y % s = r → rB ps y = false := by
      intro y hy he
      have := h3 y hy
      simpa [he] using this
    exact .inr ⟨x, fmF_hit (N := 901) hx h1.1 h1.2 hno, hx, h1.1, h1.2, hno⟩
  | none =>
    rw [List.find?_eq_none] at h
    have hno : ∀ y, y < 901 → y % s = r → rB ps y = false := by
      intro y hy he
      have := h y (List.mem_range.2 hy)
      simpa [he] using this
    refine .inl ⟨fmF_none (N := 901) hno, fun y he => ?_⟩
    cases hb : rB ps y with
    | false => rfl
    | true =>
      obtain ⟨z, h1, h2, h3, h4⟩ := R_early' hs.1 (fun x hx => (hp x hx).2) ((rB_iff hpos y).1 hb)
      have : (s - 1) * 30 ≤ 29 * 30 := Nat.mul_le_mul_right 30 (by omega)
      have := (rB_iff hpos z).2 h3
      rw [hno z (by omega) (by rw [h2, he])] at this
      cases this
theorem R_one {P : List Nat} {s : Nat} (h : s ∈ P) : R P s := ⟨[s], by intro x hx; rw [List.mem_singleton] at hx; subst hx; exact h, by simp⟩
theorem rB_up {ps : List Nat} {s x y : Nat} (hsP : s ∈ ps) (hpos : ∀ x ∈ ps, 0 < x) (h : rB ps x = true) (hle : x ≤ y) (hm : x % s = y % s) : rB ps y = true := by
  obtain ⟨q, hq⟩ := Nat.dvd_of_mod_eq_zero (Nat.sub_mod_eq_zero_of_mod_eq hm.symm)
  have := R_sum ((rB_iff hpos x).1 h) (R_times (R_one hsP) q)
  rw [show x + q * s = y by rw [Nat.mul_comm]; omega] at this
  exact (rB_iff hpos y).2 this
/-- A number can be made just if the smallest one with its remainder is not greater. -/
theorem fm_rB {ps : List Nat} {s n : Nat} (hsP : s ∈ ps) (hp : ∀ x ∈ ps, 0 < x ∧ x ≤ 30) : rB ps n = true ↔ 0 ≤ fm ps s (n % s) ∧ fm ps s (n % s) ≤ n := by
  have hpos : ∀ x ∈ ps, 0 < x := fun x hx => (hp x hx).1
  rcases fm_cases (r := n % s) hsP hp with ⟨h1, h2⟩ | ⟨x, h1, h2, h3, h4, h5⟩
  · rw [h1, h2 n rfl]; simp
  · rw [h1]
    constructor
    · intro h
      refine ⟨by omega, ?_⟩
      rcases Nat.lt_or_ge n x with hlt | hge
      · rw [h5 n hlt rfl] at h; cases h
      · omega
    · rintro ⟨_, h⟩
      exact rB_up hsP hpos h4 (by omega) h3
theorem fm_le {ps : List Nat} {s r : Nat} (hsP : s ∈ ps) (hp : ∀ x ∈ ps, 0 < x ∧ x ≤ 30) : -1 ≤ fm ps s r ∧ fm ps s r ≤ 900 := by
  rcases fm_cases (r := r) hsP hp with ⟨h1, h2⟩ | ⟨x, h1, h2, h3, h4, h5⟩ <;> omega
theorem fm_fin {ps : List Nat} {s : Nat} (hsP : s ∈ ps) (hp : ∀ x ∈ ps, 0 < x ∧ x ≤ 30) (hg : ¬ 1 < G ps) {r : Nat} (hr : r < s) : 0 ≤ fm ps s r := by
  have hs := hp s hsP
  have hpos : ∀ x ∈ ps, 0 < x := fun x hx => (hp x hx).1
  have hne : ps ≠ [] := by intro h; rw [h] at hsP; cases hsP
  have hG : G ps = 1 := by have := G_pos hne hpos; omega
  rcases fm_cases (r := r) hsP hp with ⟨h1, h2⟩ | ⟨x, h1, h2, h3, h4, h5⟩
  · exfalso
    have h3 := h2 (r + 900 * s) (by rw [Nat.add_mul_mod_self_right, Nat.mod_eq_of_lt hr])
    have h4 := R_all (n := r + 900 * s) hsP hs.1 (fun x hx => (hp x hx).2) hG (by
      have : (s - 1) * 30 ≤ 29 * 30 := Nat.mul_le_mul_right 30 (by omega)
      have : 900 * 1 ≤ 900 * s := Nat.mul_le_mul_left 900 hs.1
      omega)
    rw [(rB_iff hpos _).2 h4] at h3
    cases h3
  · omega
theorem R_dvd {ps : List Nat} {d n : Nat} (hd : ∀ s ∈ ps, d ∣ s) (h : R ps n) : d ∣ n := by
  obtain ⟨l, h1, rfl⟩ := h
  induction l with
  | nil => exact ⟨0, by simp⟩
  | cons a t ih =>
    rw [List.sum_cons]
    exact Nat.dvd_add (hd a (h1 a (by simp))) (ih fun x hx => h1 x (by simp [hx]))
theorem fm_inf {ps : List Nat} {s : Nat} (hsP : s ∈ ps) (hp : ∀ x ∈ ps, 0 < x ∧ x ≤ 30) (hg : 1 < G ps) : 1 < s ∧ fm ps s 1 = -1 := by
  have hs := hp s hsP
  have hpos : ∀ x ∈ ps, 0 < x := fun x hx => (hp x hx).1
  have h1 := G_dvd s hsP
  have h2 := Nat.le_of_dvd hs.1 h1
  refine ⟨by omega, ?_⟩
  rcases fm_cases (r := 1) hsP hp with ⟨h1, h2⟩ | ⟨x, h3, h4, h5, h6, h7⟩
  · exact h1
  · exfalso
    have h8 := R_dvd G_dvd ((rB_iff hpos x).1 h6)
    have h9 : G ps ∣ x % s := (Nat.dvd_mod_iff h1).2 h8
    rw [h5] at h9
    have := Nat.le_of_dvd (by omega) h9
    omega
end Go.Proofs.Ytjcoaicpeajpnaa
