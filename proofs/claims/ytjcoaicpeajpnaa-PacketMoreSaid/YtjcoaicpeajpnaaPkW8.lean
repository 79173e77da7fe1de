/- From checked lists to lists of naturals; what the exported functions return; the first of them. -/
import Derived.Test.YtjcoaicpeajpnaaPkW7
import Derived.Test.YtjcoaicpeajpnaaPkW3
namespace Go.Proofs.Ytjcoaicpeajpnaa
open Go.RowKit Pk

def natL (xs : List Int) : List Nat := xs.map Int.toNat
theorem natL_len (xs : List Int) : (natL xs).length = xs.length := by simp [natL]
theorem NAt_natL {xs : List Int} {k : Nat} : NAt (natL xs) k = (At xs k).toNat := by
  simp only [NAt, natL, At, List.getElem?_map]
  cases xs[k]? <;> simp
theorem Ints.nats {w : World} {A : Option Addr} {n : Nat} {xs : List Int} (h : Ints w A n xs) (h0 : ∀ k, k < n → 0 ≤ At xs k) : Nats w A n (natL xs) :=
  ⟨by rw [natL_len, h.1], fun k hk => by
    obtain ⟨b, off, e, hb, hc⟩ := h.2 k hk
    have e1 : ((At xs k).toNat : Int) = At xs k := Int.toNat_of_nonneg (h0 k hk)
    exact ⟨b, off, e, hb, by rw [NAt_natL, e1]; exact hc⟩⟩
theorem Nats.ints {w : World} {A : Option Addr} {n : Nat} {ps : List Nat} (h : Nats w A n ps) : Ints w A n (ps.map Int.ofNat) :=
  ⟨by rw [List.length_map, h.1], fun k hk => by
    obtain ⟨b, off, e, hb, hc⟩ := h.2 k hk
    have e1 : At (ps.map Int.ofNat) k = (NAt ps k : Int) := by
      simp only [NAt, At, List.getElem?_map]; cases ps[k]? <;> simp
    exact ⟨b, off, e, hb, by rw [e1]; exact hc⟩⟩
theorem natL_all {xs : List Int} {p : Nat → Prop} (h : ∀ k, k < xs.length → p (At xs k).toNat) : ∀ s ∈ natL xs, p s := by
  intro s hs
  obtain ⟨k, hk, rfl⟩ := List.mem_iff_getElem.1 hs
  rw [natL_len] at hk
  have := h k hk
  rw [← NAt_natL, NAt, List.getElem?_eq_getElem (by rw [natL_len]; exact hk)] at this
  exact this

theorem chkTo_ok {xs : List Int} {n : Nat} (h : chkTo xs n = 0) : ∀ k, k < n → chk1 xs k = 0 := by
  induction n with
  | zero => intro k hk; omega
  | succ n ih =>
    intro k hk
    rw [chkTo] at h
    split at h
    · rename_i h0
      by_cases e : k = n
      · subst e; exact h
      · exact ih h0 k (by omega)
    · rename_i h0; exact absurd h h0
theorem chk1_ok {xs : List Int} {k : Nat} (h : chk1 xs k = 0) : 1 ≤ At xs k ∧ At xs k ≤ 30 ∧ (0 < k → At xs (k - 1) < At xs k) := by
  rw [chk1] at h
  by_cases h1 : At xs k < 1 ∨ 30 < At xs k
  · rw [if_pos h1] at h; cases h
  · rw [if_neg h1] at h
    by_cases h2 : 0 < k ∧ At xs k ≤ At xs (k - 1)
    · rw [if_pos h2] at h; cases h
    · refine ⟨by omega, by omega, fun hk => by omega⟩
theorem chk_ok {xs : List Int} {n : Nat} (h : chk xs = 0) (hl : xs.length = n) : 1 ≤ n ∧ n ≤ 5 ∧ ∀ k, k < n → 1 ≤ At xs k ∧ At xs k ≤ 30 ∧ (0 < k → At xs (k - 1) < At xs k) := by
  rw [chk] at h
  split at h
  · cases h
  · split at h
    · cases h
    · exact ⟨by omega, by omega, fun k hk => chk1_ok (chkTo_ok h k (by omega))⟩
theorem stkTo_ok {xs : List Int} {n : Nat} (h : stkTo xs n = 0) : ∀ k, k < n → 0 ≤ At xs k ∧ At xs k ≤ 40 := by
  induction n with
  | zero => intro k hk; omega
  | succ n ih =>
    intro k hk
    rw [stkTo] at h
    split at h
    · rename_i h0
      by_cases e : k = n
      · subst e
        split at h
        · cases h
        · omega
      · exact ih h0 k (by omega)
    · rename_i h0; exact absurd h h0
theorem tot_ok {n : Int} (h : tot n = 0) : 0 ≤ n ∧ n ≤ 1000 := by
  rw [tot] at h; split at h
  · cases h
  · omega
theorem chkN_ok {xs : List Int} {n : Int} (h : chkN xs n = 0) : chk xs = 0 ∧ 0 ≤ n ∧ n ≤ 1000 := by
  rw [chkN] at h
  by_cases e : chk xs = 0
  · rw [if_pos e] at h; exact ⟨e, tot_ok h⟩
  · rw [if_neg e] at h; exact absurd h e
theorem chkS_ok {xs cs : List Int} (h : chkS xs cs = 0) : chk xs = 0 ∧ cs.length = xs.length ∧ ∀ k, k < cs.length → 0 ≤ At cs k ∧ At cs k ≤ 40 := by
  rw [chkS] at h
  by_cases e : chk xs = 0
  · rw [if_pos e] at h
    by_cases e2 : cs.length = xs.length
    · rw [if_pos e2] at h; exact ⟨e, e2, stkTo_ok h⟩
    · rw [if_neg e2] at h; cases h
  · rw [if_neg e] at h; exact absurd h e
theorem chkO_ok {xs cs : List Int} {n : Int} (h : chkO xs cs n = 0) : chkS xs cs = 0 ∧ 0 ≤ n ∧ n ≤ 1000 := by
  rw [chkO] at h
  by_cases e : chkS xs cs = 0
  · rw [if_pos e] at h; exact ⟨e, tot_ok h⟩
  · rw [if_neg e] at h; exact absurd h e

/-- Checked sizes in memory. -/
theorem Ints.sizes {w : World} {A : Option Addr} {n : Nat} {xs : List Int} (h : Ints w A n xs) (hc : chk xs = 0) :
    1 ≤ n ∧ n ≤ 5 ∧ Nats w A n (natL xs) ∧ (∀ s ∈ natL xs, 0 < s ∧ s ≤ 30) := by
  obtain ⟨h1, h2, h3⟩ := chk_ok hc h.len
  refine ⟨h1, h2, h.nats fun k hk => by have := h3 k hk; omega, natL_all fun k hk => ?_⟩
  have := h3 k (by rw [← h.len]; exact hk)
  omega
theorem Ints.stock {w : World} {A : Option Addr} {n : Nat} {cs : List Int} (h : Ints w A n cs) (hc : ∀ k, k < cs.length → 0 ≤ At cs k ∧ At cs k ≤ 40) :
    Nats w A n (natL cs) ∧ (∀ s ∈ natL cs, s ≤ 40) := by
  refine ⟨h.nats fun k hk => (hc k (by rw [h.len]; exact hk)).1, natL_all fun k hk => ?_⟩
  have := hc k hk
  omega
theorem sub1000 {ps : List Nat} (h : ∀ s ∈ ps, 0 < s ∧ s ≤ 30) : ∀ s ∈ ps, 0 < s ∧ s ≤ 1000 := fun s hs => by have := h s hs; omega

/-- A list of numbers and an error are returned. -/
def GivesE (w w' : World) (e : Ending) (xs : List Int) (er : Int) : Prop := ∃ A c, e = .returned (.tuple #[.slice A xs.length c, .int .i64 er]) ∧ Ints w' A xs.length xs ∧ Below w.heap.size w w'
theorem GivesE.nil {w w' : World} {er : Int} (h : Below w.heap.size w w') : GivesE w w' (.returned (.tuple #[.slice none 0 0, .int .i64 er])) [] er := ⟨none, 0, rfl, Ints.nil_ _ _, h⟩
theorem Gives2.toE {w w' : World} {e : Ending} {ps : List Nat} {er : Int} (h : Gives2 w w' e ps er) : GivesE w w' e (ps.map Int.ofNat) er := by
  obtain ⟨A, c, rfl, hN, hb⟩ := h
  exact ⟨A, c, by rw [List.length_map], by have := hN.ints; rwa [List.length_map], hb⟩
theorem GivesE.trans {w w1 w' : World} {e : Ending} {xs : List Int} {er : Int} (h : GivesE w1 w' e xs er) (hb : Below w.heap.size w w1) : GivesE w w' e xs er := by
  obtain ⟨A, c, rfl, hN, hb'⟩ := h
  exact ⟨A, c, rfl, hN, hb.trans (hb'.mono hb.size)⟩

def canV (xs : List Int) (n : Int) : Bool := if chkN xs n = 0 then rB (natL xs) n.toNat else false
set_option maxRecDepth 100000 in
set_option maxHeartbeats 1000000 in
theorem pk_Can (A : Option Addr) (n : Nat) (xs : List Int) (ca : Nat) (k : Int) (w : World) (hx : Ints w A n xs) (hl : n ≤ 1000000000) :
    Calls Try.prog 17 #[.slice A n ca, .int .i64 k] w fun e w' => e = .returned (.tuple #[.bool (canV xs k), .int .i64 (chkN xs k)]) ∧ Below w.heap.size w w' := by
  have hc := pk_checkNumber A n xs ca k w hx hl
  by_cases h1 : chkN xs k = 0
  · obtain ⟨h2, h3, h4⟩ := chkN_ok h1
    obtain ⟨s1, s2, hN, hp⟩ := hx.sizes h2
    have hv : canV xs k = rB (natL xs) k.toNat := by rw [canV, if_pos h1]
    have hin : inTab (rB (natL xs)) k = canV xs k := by rw [hv]; simp [inTab]; omega
    have HIN := Lib.hid hin
    rw [h1] at hc
    have H1 := Lib.hid h1
    clear h1 h2 hv hin
    go_enter Try.func17, Try.ntmps17
    go_wp2_with fail
    refine hc.mono ?_; rintro e w' ⟨rfl, rfl⟩
    go_wp2_with fail
    refine (makeable_any A n (natL xs) ca w hN (fun s h => (hp s h).1) (by omega) (fun s h => by have := hp s h; omega)).mono ?_
    rintro e w1 ⟨rfl, ⟨ct, hBt, hT⟩, hw1⟩
    go_wp2_with fail
    refine (pk_made w.heap.size ct (rB (natL xs)) k w1 hBt hT).mono ?_
    rintro e w' ⟨rfl, rfl⟩
    go_wp2_with fail
    go_ret2
    exact ⟨by rw [H1.out, ← HIN.out]; rfl, hw1⟩
  · have hb := ne0 h1
    have hv : canV xs k = false := by rw [canV, if_neg h1]
    have HV := Lib.hid hv
    clear h1 hv
    go_enter Try.func17, Try.ntmps17
    go_wp2_with fail
    refine hc.mono ?_; rintro e w' ⟨rfl, rfl⟩
    go_wp2_with fail
    go_ret2
    exact ⟨by rw [HV.out]; rfl, Below.refl _ _⟩
end Go.Proofs.Ytjcoaicpeajpnaa
