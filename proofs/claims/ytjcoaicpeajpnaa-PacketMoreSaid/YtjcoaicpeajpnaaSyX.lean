/- Mathematics of scaled sizes: the fewest packets, the best filling, the smallest numbers of remainders. -/
import Derived.Test.YtjcoaicpeajpnaaSyT
import Derived.Test.YtjcoaicpeajpnaaLwRem
namespace Go.Proofs.Ytjcoaicpeajpnaa
open Go.RowKit Pk

/-! ### the best filling as a list -/
theorem bestF_from {ps cs : List Nat} {n m : Nat} (hp : ps.length = n) (hc : cs.length = n) : ∀ j i, i + j = n → bestL (dp ps cs i) (rs ps cs m i) = (List.range' i j).map (pk ps cs m) := by
  intro j
  induction j with
  | zero => intro i hi; have : i = n := by omega
            subst this; rw [dp_end hp]; rfl
  | succ j ih =>
    intro i hi
    rw [dp_step hp hc (by omega), bestL, List.range'_succ, List.map_cons]
    have := ih (i + 1) (by omega)
    rw [rs] at this
    rw [this]
    rfl
theorem bestF_list {ps cs : List Nat} {m : Nat} (hc : cs.length = ps.length) : bestF ps cs m = bestL (ps.zip cs) m := by
  have h := bestF_from (m := m) (rfl : ps.length = ps.length) hc ps.length 0 (by omega)
  rw [bestF, List.range_eq_range', ← h]
  rfl
theorem bfL_list {ps cs : List Nat} {m : Nat} (hc : cs.length = ps.length) : bfL ps cs m = if (few (ps.zip cs) m).isSome then bestL (ps.zip cs) m else [] := by
  rw [bfL, bestF_list hc]; rfl
theorem bfE_list {ps cs : List Nat} {m : Nat} : bfE ps cs m = if (few (ps.zip cs) m).isSome then 0 else 12 := rfl

/-! ### scaled -/
def scl (d : Nat) (l : List (Nat × Nat)) : List (Nat × Nat) := l.map (fun p => (d * p.1, p.2))
theorem upTo_scl {f g : Nat → Option Nat} {d s n : Nat} (hd : 0 < d) (h : ∀ m, g (d * m) = f m) : ∀ k, upTo g (d * s) (d * n) k = upTo f s n k
  | 0 => rfl
  | k + 1 => by
    have e : k * (d * s) = d * (k * s) := by rw [Nat.mul_left_comm]
    simp only [upTo, e, upTo_scl hd h k, Nat.mul_le_mul_left_iff hd, ← Nat.mul_sub, h]
theorem few_scl {d : Nat} (hd : 0 < d) : ∀ (l : List (Nat × Nat)) (n : Nat), few (scl d l) (d * n) = few l n
  | [], n => by
    simp only [scl, List.map_nil, few]
    by_cases h : n = 0
    · subst h; simp
    · rw [if_neg h, if_neg (by rw [Nat.mul_eq_zero]; omega)]
  | (s, c) :: r, n => by
    show upTo (few (scl d r)) (d * s) (d * n) (c + 1) = upTo (few r) s n (c + 1)
    exact upTo_scl hd (few_scl hd r) _
theorem fits_scl {d s c n p : Nat} {r : List (Nat × Nat)} (hd : 0 < d) : fits (d * s) c (scl d r) (d * n) p = fits s c r n p := by
  have e : p * (d * s) = d * (p * s) := by rw [Nat.mul_left_comm]
  have h1 : few ((d * s, c) :: scl d r) (d * n) = few ((s, c) :: r) n := few_scl hd ((s, c) :: r) n
  simp only [fits, e, ← Nat.mul_sub, few_scl hd, h1, Nat.mul_le_mul_left_iff hd]
theorem firstP_scl {d s c n : Nat} {r : List (Nat × Nat)} (hd : 0 < d) : firstP (d * s) c (scl d r) (d * n) = firstP s c r n := by
  have : fits (d * s) c (scl d r) (d * n) = fits s c r n := by funext p; exact fits_scl hd
  simp only [firstP, this]
theorem bestL_scl {d : Nat} (hd : 0 < d) : ∀ (l : List (Nat × Nat)) (n : Nat), bestL (scl d l) (d * n) = bestL l n
  | [], _ => rfl
  | (s, c) :: r, n => by
    show firstP (d * s) c (scl d r) (d * n) :: bestL (scl d r) (d * n - firstP (d * s) c (scl d r) (d * n) * (d * s)) = firstP s c r n :: bestL r (n - firstP s c r n * s)
    rw [firstP_scl hd, Nat.mul_left_comm, ← Nat.mul_sub, bestL_scl hd r]
theorem zip_scl {d : Nat} : ∀ (ps cs : List Nat), (ps.map (d * ·)).zip cs = scl d (ps.zip cs)
  | [], _ => by simp [scl]
  | _ :: _, [] => by simp [scl]
  | a :: t, b :: u => by simp [scl]; simpa [scl] using zip_scl t u
theorem caps_scl {d n : Nat} (hd : 0 < d) (ps : List Nat) : (ps.map (d * ·)).map (d * n / ·) = ps.map (n / ·) := by
  rw [List.map_map]
  exact List.map_congr_left fun s _ => by simp [Nat.mul_div_mul_left _ _ hd]

theorem R_scl {ps : List Nat} {d n : Nat} (hd : 0 < d) : R (ps.map (d * ·)) (d * n) ↔ R ps n := by
  constructor
  · rintro ⟨l, h1, h2⟩
    have h3 : ∀ l : List Nat, (∀ x ∈ l, x ∈ ps.map (d * ·)) → ∃ l' : List Nat, (∀ x ∈ l', x ∈ ps) ∧ l.sum = d * l'.sum := by
      intro l
      induction l with
      | nil => intro _; exact ⟨[], by simp, by simp⟩
      | cons a t ih =>
        intro h
        obtain ⟨t', h4, h5⟩ := ih fun x hx => h x (by simp [hx])
        obtain ⟨b, hb, rfl⟩ := List.mem_map.1 (h a (by simp))
        refine ⟨b :: t', fun x hx => ?_, by simp [h5, Nat.mul_add]⟩
        rcases List.mem_cons.1 hx with rfl | hx
        · exact hb
        · exact h4 x hx
    obtain ⟨l', h4, h5⟩ := h3 l h1
    exact ⟨l', h4, Nat.eq_of_mul_eq_mul_left hd (by rw [← h5, h2])⟩
  · rintro ⟨l, h1, rfl⟩
    refine ⟨l.map (d * ·), fun x hx => ?_, ?_⟩
    · obtain ⟨b, hb, rfl⟩ := List.mem_map.1 hx
      exact List.mem_map.2 ⟨b, h1 b hb, rfl⟩
    · clear h1
      induction l with
      | nil => rfl
      | cons a t ih => simp [ih, Nat.mul_add]
theorem rB_scl {ps : List Nat} {d n : Nat} (hd : 0 < d) (hp : ∀ s ∈ ps, 0 < s) : rB (ps.map (d * ·)) (d * n) = rB ps n := by
  have hp' : ∀ s ∈ ps.map (d * ·), 0 < s := fun s hs => by
    obtain ⟨b, hb, rfl⟩ := List.mem_map.1 hs; exact Nat.mul_pos hd (hp b hb)
  rw [Bool.eq_iff_iff, rB_iff hp', rB_iff hp, R_scl hd]
theorem rB_odd {ps : List Nat} {d m : Nat} (hd : 0 < d) (hp : ∀ s ∈ ps, 0 < s) (hm : ¬ d ∣ m) : rB (ps.map (d * ·)) m = false := by
  have hp' : ∀ s ∈ ps.map (d * ·), 0 < s := fun s hs => by
    obtain ⟨b, hb, rfl⟩ := List.mem_map.1 hs; exact Nat.mul_pos hd (hp b hb)
  rw [Bool.eq_false_iff]
  intro h
  refine hm (R_dvd (fun s hs => ?_) ((rB_iff hp' m).1 h))
  obtain ⟨b, hb, rfl⟩ := List.mem_map.1 hs
  exact Nat.dvd_mul_right d b
theorem fm_odd {ps : List Nat} {d s r : Nat} (hd : 0 < d) (hp : ∀ x ∈ ps, 0 < x ∧ d * x ≤ 30) (hs : s ∈ ps) (h : r % d ≠ 0) : fm (ps.map (d * ·)) (d * s) r = -1 := by
  have hsP : d * s ∈ ps.map (d * ·) := List.mem_map.2 ⟨s, hs, rfl⟩
  have hp' : ∀ x ∈ ps.map (d * ·), 0 < x ∧ x ≤ 30 := fun x hx => by
    obtain ⟨b, hb, rfl⟩ := List.mem_map.1 hx; exact ⟨Nat.mul_pos hd (hp b hb).1, (hp b hb).2⟩
  rcases fm_cases (r := r) hsP hp' with ⟨h1, _⟩ | ⟨x, h1, h2, h3, h4, h5⟩
  · exact h1
  · exfalso
    have : ¬ d ∣ x := fun hx => by
      have h6 := (Nat.dvd_mod_iff (Nat.dvd_mul_right d s)).2 hx
      rw [h3] at h6
      exact h (Nat.mod_eq_zero_of_dvd h6)
    rw [rB_odd hd (fun s hs => (hp s hs).1) this] at h4
    cases h4
theorem fm_even {ps : List Nat} {d s q : Nat} (hd : 0 < d) (hp : ∀ x ∈ ps, 0 < x ∧ d * x ≤ 30) (hs : s ∈ ps) :
    fm (ps.map (d * ·)) (d * s) (d * q) = if fm ps s q < 0 then -1 else d * fm ps s q := by
  have hsP : d * s ∈ ps.map (d * ·) := List.mem_map.2 ⟨s, hs, rfl⟩
  have hpos : ∀ s ∈ ps, 0 < s := fun s hs => (hp s hs).1
  have hp30 : ∀ x ∈ ps, 0 < x ∧ x ≤ 30 := fun x hx => ⟨(hp x hx).1, Nat.le_trans (Nat.le_mul_of_pos_left x hd) (hp x hx).2⟩
  have hp' : ∀ x ∈ ps.map (d * ·), 0 < x ∧ x ≤ 30 := fun x hx => by
    obtain ⟨b, hb, rfl⟩ := List.mem_map.1 hx; exact ⟨Nat.mul_pos hd (hp b hb).1, (hp b hb).2⟩
  rcases fm_cases (r := d * q) hsP hp' with ⟨h1, h2⟩ | ⟨x, h1, h2, h3, h4, h5⟩
  · rcases fm_cases (r := q) hs hp30 with ⟨g1, g2⟩ | ⟨y, g1, g2, g3, g4, g5⟩
    · rw [h1, g1]; rfl
    · exfalso
      have := h2 (d * y) (by rw [Nat.mul_mod_mul_left, g3])
      rw [rB_scl hd hpos, g4] at this
      cases this
  · have hdx : d ∣ x := by
      have : d ∣ x % (d * s) := by rw [h3]; exact Nat.dvd_mul_right d q
      exact (Nat.dvd_mod_iff (Nat.dvd_mul_right d s)).1 this
    obtain ⟨y, rfl⟩ := hdx
    rw [Nat.mul_mod_mul_left] at h3
    have h3 := Nat.eq_of_mul_eq_mul_left hd h3
    rw [rB_scl hd hpos] at h4
    rcases fm_cases (r := q) hs hp30 with ⟨g1, g2⟩ | ⟨y', g1, g2, g3, g4, g5⟩
    · rw [g2 y h3] at h4; cases h4
    · have e : y = y' := by
        rcases Nat.lt_trichotomy y y' with h | h | h
        · rw [g5 y h h3] at h4; cases h4
        · exact h
        · have := h5 (d * y') (Nat.mul_lt_mul_of_pos_left h hd) (by rw [Nat.mul_mod_mul_left, g3])
          rw [rB_scl hd hpos, g4] at this
          cases this
      subst e
      rw [h1, g1, if_neg (by omega)]
      simp
theorem G_scl {ps : List Nat} {d : Nat} (hne : ps ≠ []) (hd : 2 ≤ d) (hp : ∀ s ∈ ps, 0 < s) : 1 < G (ps.map (d * ·)) := by
  have h1 : d ∣ G (ps.map (d * ·)) := dvd_G fun s hs => by
    obtain ⟨b, hb, rfl⟩ := List.mem_map.1 hs; exact Nat.dvd_mul_right d b
  have h2 : 0 < G (ps.map (d * ·)) := G_pos (by simpa using hne) fun s hs => by
    obtain ⟨b, hb, rfl⟩ := List.mem_map.1 hs; exact Nat.mul_pos (by omega) (hp b hb)
  have := Nat.le_of_dvd h2 h1
  omega
/-- The answers of Make at scaled sizes. -/
theorem mak_scl {ps : List Nat} {d n : Nat} (hd : 0 < d) (h1 : chk (ps.map Int.ofNat) = 0) (h2 : chk ((ps.map (d * ·)).map Int.ofNat) = 0) (hn : d * n ≤ 1000) :
    makL ((ps.map (d * ·)).map Int.ofNat) ((d * n : Nat) : Int) = makL (ps.map Int.ofNat) (n : Int) ∧ makE ((ps.map (d * ·)).map Int.ofNat) ((d * n : Nat) : Int) = makE (ps.map Int.ofNat) (n : Int) := by
  have hn1 : n ≤ 1000 := Nat.le_trans (Nat.le_mul_of_pos_left n hd) hn
  have c1 : chkN (ps.map Int.ofNat) (n : Int) = 0 := by rw [chkN, if_pos h1, tot, if_neg (by omega)]
  have c2 : chkN ((ps.map (d * ·)).map Int.ofNat) ((d * n : Nat) : Int) = 0 := by rw [chkN, if_pos h2, tot, if_neg (by omega)]
  have e1 : enL (ps.map Int.ofNat) (n : Int) = ps.map (n / ·) := by rw [enL, natL_map, Int.toNat_natCast]
  have e2 : enL ((ps.map (d * ·)).map Int.ofNat) ((d * n : Nat) : Int) = ps.map (n / ·) := by rw [enL, natL_map, Int.toNat_natCast, caps_scl hd]
  have hl : (ps.map (n / ·)).length = ps.length := List.length_map ..
  have hl2 : (ps.map (n / ·)).length = (ps.map (d * ·)).length := by rw [List.length_map, List.length_map]
  refine ⟨?_, ?_⟩
  · rw [makL, if_pos c2, makL, if_pos c1, e1, e2, natL_map, natL_map, Int.toNat_natCast, Int.toNat_natCast, bfL_list hl2, bfL_list hl, zip_scl, few_scl hd, bestL_scl hd]
  · rw [makE, if_pos c2, makE, if_pos c1, e1, e2, natL_map, natL_map, Int.toNat_natCast, Int.toNat_natCast, bfE_list, bfE_list, zip_scl, few_scl hd]
end Go.Proofs.Ytjcoaicpeajpnaa
