/- Clasp's reference: numbers, distances, ways that are accepted. -/
import Derived.Test.YtenlmjnejjdnnaaDoorClG
namespace Go.Proofs.YtenlmjnejjdnnaaDoor
open Go.RowKit Cl

set_option maxRecDepth 100000 in
set_option maxHeartbeats 2000000 in
theorem rc_number (A : Option Addr) (n : Nat) (xs : List Int) (ca : Nat) (w : World) (hx : Ints w A n xs) (hl : n ≤ 16) (h01 : okTo xs n) :
    Calls Tryd.prog 57 #[.slice A n ca] w fun e w' => e = .returned (.int .i64 (num (onL xs) : Nat)) ∧ w = w' := by
  have hlen : (onL xs).length = n := by rw [onL_len, hx.len]
  have hl0 : (0 : Int) ≤ (n : Int) := by omega
  have hl1 : (n : Int) ≤ 16 := by omega
  go_enter Tryd.func57, Tryd.ntmps57
  go_wp2
  go_loop [3, 4, 5] (fun a o i => ∃ (k c : Nat) (z : Int), k ≤ n ∧ z = (k : Int) - 1 ∧ c + k ≤ n ∧ a = .int .i64 (num ((onL xs).drop k) : Nat) ∧ o = .int .i64 c ∧ Hid (c % 2 = (par ((onL xs).drop k)).toNat) ∧ i = .int .i64 z) (fun _ _ i => (intOf i + 1).toNat)
  case atStart =>
    have e : (onL xs).drop n = [] := by rw [← hlen]; simp
    exact ⟨n, 0, (n : Int) - 1, by omega, rfl, by omega, by rw [e]; rfl, rfl, by rw [e]; rfl, rfl⟩
  case round =>
    obtain ⟨k, c, z, hk, hz, hck, rfl, rfl, hpar, rfl⟩ := hrel
    cases k with
    | zero =>
      have hz1 : z < 0 := by omega
      clear hz hl0 hl1
      rw [List.drop_zero]
      go_wp2
      go_ret
      exact ⟨rfl, rfl⟩
    | succ j =>
      obtain rfl : z = (j : Int) := by omega
      obtain ⟨b, off, rfl, hb, hc⟩ := hx.at_ (k := j) (by omega)
      have hn := num_drop_lt (l := onL xs) (by omega) (j + 1)
      have hN := num_drop (l := onL xs) (j := j) (by omega)
      have hP := par_drop (l := onL xs) (j := j) (by omega)
      have hbit := bit_onL xs j
      have h2 := hpar.out
      have hj0 : (0 : Int) ≤ (j : Int) := by omega
      have hj1 : (j : Int) < n := by omega
      have hc0 : (0 : Int) ≤ (c : Int) := by omega
      have hc1 : (c : Int) ≤ 16 := by omega
      have hn0 : (0 : Int) ≤ (num ((onL xs).drop (j + 1)) : Nat) := by omega
      have hn1 : ((num ((onL xs).drop (j + 1)) : Nat) : Int) < 65536 := by omega
      rcases h01 j (by omega) with hv | hv
      · rw [hv] at hc hbit
        simp at hbit
        rw [hbit] at hN hP
        simp at hN hP
        have q1 : ((c : Int)).tmod 2 = ((c % 2 : Nat) : Int) := by rw [Int.tmod_eq_emod_of_nonneg hc0]; rfl
        have q2 : (c : Int) % 2 = ((c % 2 : Nat) : Int) := rfl
        have q3 : ((c % 2 : Nat) : Int) < 2 := by omega
        rw [← h2] at hN
        have hN := Lib.hid hN
        have hP := Lib.hid hP
        have h2 := Lib.hid h2
        clear hz hl0 hl1 hbit
        generalize num ((onL xs).drop (j + 1)) = nn at *
        generalize hcm : c % 2 = cm at *
        go_wp2
        go_round
        case rel => exact ⟨j, c, (j : Int) - 1, by omega, rfl, by omega, by rw [hN.out]; go_num, rfl, by rw [hP.out, ← h2.out]; exact hcm, by go_num⟩
        case measure => simp [intOf]; try omega
      · rw [hv] at hc hbit
        simp at hbit
        rw [hbit] at hN hP
        simp at hN hP
        have q1 : ((c : Int) + 1).tmod 2 = (((c + 1) % 2 : Nat) : Int) := by rw [Int.tmod_eq_emod_of_nonneg (by omega)]; rfl
        have q2 : ((c : Int) + 1) % 2 = (((c + 1) % 2 : Nat) : Int) := rfl
        have q3 : (((c + 1) % 2 : Nat) : Int) < 2 := by omega
        have h3 : (c + 1) % 2 = (!par ((onL xs).drop (j + 1))).toNat := by
          cases hp : par ((onL xs).drop (j + 1)) <;> rw [hp] at h2 <;> simp at h2 ⊢ <;> omega
        rw [← h3] at hN
        have hN := Lib.hid hN
        have hP := Lib.hid hP
        have h2 := Lib.hid h3
        clear hz hl0 hl1 hbit h3 hpar
        generalize num ((onL xs).drop (j + 1)) = nn at *
        generalize hcm : (c + 1) % 2 = cm at *
        go_wp2
        go_round
        case rel => exact ⟨j, c + 1, (j : Int) - 1, by omega, rfl, by omega, by rw [hN.out]; go_num, by go_num, by rw [hP.out, ← h2.out]; exact hcm, by go_num⟩
        case measure => simp [intOf]; try omega

end Go.Proofs.YtenlmjnejjdnnaaDoor
