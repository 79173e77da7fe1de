/- Clasp: the checks of positions, in the program and in the reference; lists compared. -/
import Derived.Test.YtenlmjnejjdnnaaDoorKMem
import Derived.Test.YtenlmjnejjdnnaaDoorClMath
namespace Go.Proofs.YtenlmjnejjdnnaaDoor
open Go.RowKit Cl

/-- The first k places are 0 or 1. -/
def okTo (xs : List Int) (k : Nat) : Prop := ∀ j, j < k → At xs j = 0 ∨ At xs j = 1
instance (xs : List Int) (k : Nat) : Decidable (okTo xs k) := Nat.decidableBallLT k _
/-- The error of a position. -/
def pchk (xs : List Int) : Int := if xs.length = 0 then 4 else if 16 < xs.length then 3 else if okTo xs xs.length then 0 else 1
/-- What is on. -/
def onL (xs : List Int) : List Bool := xs.map fun x => decide (x = 1)
theorem onL_len (xs : List Int) : (onL xs).length = xs.length := by simp [onL]
theorem bit_onL (xs : List Int) (k : Nat) : bit (onL xs) k = decide (At xs k = 1) := by
  unfold bit onL At
  rw [List.getElem?_map]
  cases xs[k]? <;> simp

theorem pchk_hit {xs : List Int} {k n : Nat} (hl : xs.length = n) (h0 : n ≠ 0) (h2 : n ≤ 16) (hk : k < n) (h : ¬ (At xs k = 0 ∨ At xs k = 1)) : pchk xs = 1 := by
  rw [pchk, if_neg (by omega), if_neg (by omega), if_neg]
  intro e; rw [hl] at e; exact h (e k hk)
theorem pchk_pass {xs : List Int} {n : Nat} (hl : xs.length = n) (h0 : n ≠ 0) (h2 : n ≤ 16) (h : okTo xs n) : pchk xs = 0 := by
  rw [pchk, if_neg (by omega), if_neg (by omega), if_pos (by rw [hl]; exact h)]
theorem okTo_succ {xs : List Int} {k : Nat} (h : okTo xs k) (h1 : At xs k = 0 ∨ At xs k = 1) : okTo xs (k + 1) := fun j hj => by
  rcases Nat.lt_or_ge j k with h2 | h2
  · exact h j h2
  · obtain rfl : j = k := by omega
    exact h1
theorem pchk_ok {xs : List Int} {n : Nat} (hl : xs.length = n) (h : pchk xs = 0) : 0 < n ∧ n ≤ 16 ∧ okTo xs n := by
  unfold pchk at h
  split at h
  · cases h
  · split at h
    · cases h
    · split at h
      · rename_i h3; exact ⟨by omega, by omega, hl ▸ h3⟩
      · cases h
theorem pchk_val (xs : List Int) : pchk xs = 0 ∨ pchk xs = 1 ∨ pchk xs = 3 ∨ pchk xs = 4 := by
  unfold pchk; split
  · simp
  · split
    · simp
    · split <;> simp

set_option maxHeartbeats 400000 in
theorem cl_Check (A : Option Addr) (n : Nat) (xs : List Int) (ca : Nat) (w : World) (hx : Ints w A n xs) (hl : n ≤ 9223372036854775807) :
    Calls Tryd.prog 21 #[.slice A n ca] w fun e w' => e = .returned (.int .i64 (pchk xs)) ∧ w = w' := by
  have hxl := Lib.hid hx.len
  by_cases h0 : n = 0
  · subst h0
    have hb0 : (((0 : Nat) : Int) == 0) = true := rfl
    go_enter Tryd.func21, Tryd.ntmps21
    go_wp2
    go_ret
    exact ⟨ret_int (by rw [pchk, if_pos hxl.out]), rfl⟩
  by_cases h5 : 16 < n
  · have hb0 : ((n : Int) == 0) = false := by simp; omega
    go_enter Tryd.func21, Tryd.ntmps21
    go_wp2
    go_ret
    exact ⟨ret_int (by rw [pchk, if_neg (by rw [hxl.out]; exact h0), if_pos (by rw [hxl.out]; exact h5)]), rfl⟩
  have h5' : n ≤ 16 := by omega
  have hb0 : ((n : Int) == 0) = false := by simp; omega
  clear h5
  go_enter Tryd.func21, Tryd.ntmps21
  go_wp2
  go_loop [13] (fun i => ∃ k : Nat, k ≤ n ∧ i = .int .i64 k ∧ Hid (okTo xs k)) (fun i => n - (intOf i).toNat)
  case atStart => exact ⟨0, by omega, rfl, fun j hj => by omega⟩
  case round =>
    obtain ⟨k, hk, rfl, hz⟩ := hrel
    by_cases hlt : k < n
    · obtain ⟨b, off, rfl, hb, hc⟩ := hx.at_ hlt
      have hki : (0 : Int) ≤ (k : Int) := by omega
      have hkn : (k : Int) < n := by omega
      by_cases h1 : At xs k = 0
      · have e1 : (At xs k != 0) = false := by simp [h1]
        have h1' := Lib.hid h1; clear h1
        go_wp2
        go_round
        case rel => exact ⟨k + 1, by omega, by go_num, okTo_succ hz.out (.inl h1'.out)⟩
        case measure => simp [intOf]; omega
      by_cases h2 : At xs k = 1
      · have e1 : (At xs k != 0) = true := by simp [h2]
        have e2 : (At xs k != 1) = false := by simp [h2]
        have h2' := Lib.hid h2; clear h2 h1
        go_wp2
        go_round
        case rel => exact ⟨k + 1, by omega, by go_num, okTo_succ hz.out (.inr h2'.out)⟩
        case measure => simp [intOf]; omega
      · have e1 : (At xs k != 0) = true := by simp [h1]
        have e2 : (At xs k != 1) = true := by simp [h2]
        have h3 := Lib.hid (show ¬ (At xs k = 0 ∨ At xs k = 1) by omega); clear h1 h2
        go_wp2
        go_ret
        exact ⟨ret_int (by rw [pchk_hit hxl.out h0 h5' hlt h3.out]), rfl⟩
    · obtain rfl : k = n := by omega
      go_wp2
      go_ret
      exact ⟨ret_int (by rw [pchk_pass hxl.out h0 h5' hz.out]), rfl⟩
end Go.Proofs.YtenlmjnejjdnnaaDoor
