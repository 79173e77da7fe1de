/- The walk of ClaspMoves. -/
import Derived.Test.YtenlmjnejjdnnaaDoorLcA
namespace Go.Proofs.YtenlmjnejjdnnaaDoor
open Go.RowKit Cl

theorem movsL_len (xs : List Int) : (movsL xs).length ≤ 16 := by
  rw [movsL]; split
  · rename_i h
    have h1 := looseTo_len (onL xs) xs.length
    have h2 := (pchk_ok (xs := xs) rfl h).2.1
    omega
  · simp
theorem mveL_len (xs : List Int) (r : Int) : (mveL xs r).length ≤ 16 := by
  rw [mveL]; split
  · rename_i h
    rw [mveE] at h
    split at h
    · rename_i h1
      have h2 := (pchk_ok (xs := xs) rfl h1).2.1
      rw [il_len, flip_len, onL_len]; exact h2
    · rename_i h1; exact absurd h h1
  · simp

set_option maxRecDepth 100000 in
set_option maxHeartbeats 4000000 in
theorem lc_ClaspMoves (A : Option Addr) (n : Nat) (xs : List Int) (ca : Nat) (r : Int) (w : World) (ht : HasTab w) (hx : Ints w A n xs) (hca : n ≤ ca) (hca' : ca ≤ 9223372036854775807) :
    Calls Tryd.prog 3 #[.slice A n ca, .int .i64 r] w fun e w' => e = .returned (.bool true) ∧ Below w.heap.size w w' := by
  have hlg := lc_large A none none n 0 0 ca 0 0 w (by omega) (by omega) (by omega)
  by_cases h40 : 60 < n
  · rw [show decide (60 < n ∨ 60 < 0 ∨ 1200 < 0) = true by simp; omega] at hlg
    go_enter Tryd.func3, Tryd.ntmps3
    go_wp2_with fail
    refine hlg.mono ?_; rintro e w' ⟨rfl, rfl⟩
    go_wp2_with fail
    refine (lc_works _ ht).mono ?_; rintro e w1 ⟨rfl, hb⟩
    go_wp2_with fail
    go_ret
    exact ⟨rfl, hb⟩
  · rw [show decide (60 < n ∨ 60 < 0 ∨ 1200 < 0) = false by simp; omega] at hlg
    have hg1 := movsL_len xs
    have hg2 := mveL_len xs r
    go_enter Tryd.func3, Tryd.ntmps3
    go_wp2_with fail
    refine hlg.mono ?_; rintro e w' ⟨rfl, rfl⟩
    go_wp2_with fail
    refine (cl_Moves A n xs ca w hx (by omega)).mono ?_; rintro e w1 ⟨A1, c1, rfl, hI1, HB⟩
    have HX := hx.below HB
    go_wp2_with fail
    refine (rc_Moves A n xs ca w1 HX (by omega)).mono ?_; rintro e w2 ⟨A2, c2, rfl, hI2, b⟩
    replace HX := HX.below b; replace hI1 := hI1.below b; replace HB := HB.trans (b.mono HB.size); clear b
    go_wp2_with fail
    refine (cl_Move A n xs ca r w2 HX (by omega)).mono ?_; rintro e w3 ⟨A3, c3, rfl, hI3, b⟩
    replace HX := HX.below b; replace hI1 := hI1.below b; replace hI2 := hI2.below b; replace HB := HB.trans (b.mono HB.size); clear b
    go_wp2_with fail
    refine (rc_Move A n xs ca r w3 HX (by omega)).mono ?_; rintro e w4 ⟨A4, c4, rfl, hI4, b⟩
    replace HX := HX.below b; replace hI1 := hI1.below b; replace hI2 := hI2.below b; replace hI3 := hI3.below b; replace HB := HB.trans (b.mono HB.size); clear b
    go_wp2_with fail
    refine (same_refl hI1 hI2 (by omega)).mono ?_; rintro e w5 ⟨rfl, b⟩
    replace HX := HX.below b; replace hI3 := hI3.below b; replace hI4 := hI4.below b; replace HB := HB.trans (b.mono HB.size); clear b
    go_wp2_with fail
    refine (same_refl hI3 hI4 (by omega)).mono ?_; rintro e w6 ⟨rfl, b⟩
    replace HX := HX.below b; replace HB := HB.trans (b.mono HB.size); clear b
    go_wp2_with fail
    refine (cl_Check A n xs ca w6 HX (by omega)).mono ?_; rintro e w' ⟨rfl, rfl⟩
    go_wp2_with fail
    refine (rc_Check A n xs ca w6 HX (by omega)).mono ?_; rintro e w' ⟨rfl, rfl⟩
    go_wp2_with fail
    refine (lc_works _ (ht.below HB)).mono ?_; rintro e w7 ⟨rfl, b⟩
    replace HB := HB.trans (b.mono HB.size); clear b
    go_wp2_with fail
    go_ret
    exact ⟨rfl, HB⟩
end Go.Proofs.YtenlmjnejjdnnaaDoor
