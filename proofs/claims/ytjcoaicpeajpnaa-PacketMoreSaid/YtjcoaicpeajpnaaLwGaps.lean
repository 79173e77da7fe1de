/- The walk of PacketGaps. -/
import Derived.Test.YtjcoaicpeajpnaaLwA
import Derived.Test.YtjcoaicpeajpnaaRfD
namespace Go.Proofs.Ytjcoaicpeajpnaa
open Go.RowKit Pk

theorem same_refl {w : World} {A B : Option Addr} {n ca cb : Nat} {xs : List Int} (hx : Ints w A n xs) (hy : Ints w B n xs) (hl : n ≤ 1000000000) :
    Calls Try.prog 23 #[.slice A n ca, .slice B n cb] w fun e w' => e = .returned (.bool true) ∧ Below w.heap.size w w' := by
  refine (lw_same A B n n xs xs ca cb w hx hy hl hl).mono ?_
  rintro e w' ⟨rfl, j, rfl⟩
  exact ⟨by simp, bdrewN (Below.refl _ _) j⟩
theorem nedV_len (xs : List Int) : (nedV xs).length ≤ 5 := by
  rw [nedV]; split
  · rename_i h
    exact Nat.le_trans (nedL_len _ _) (chk_ok h rfl).2.1
  · simp

set_option maxRecDepth 100000 in
set_option maxHeartbeats 4000000 in
theorem lw_PacketGaps (A : Option Addr) (n : Nat) (xs : List Int) (ca : Nat) (w : World) (hx : Ints w A n xs) (hca : n ≤ ca) (hca' : ca ≤ 9223372036854775807) :
    Calls Try.prog 4 #[.slice A n ca] w fun e w' => e = .returned (.bool true) ∧ Below w.heap.size w w' := by
  have hlg := lw_large' A none none n 0 0 ca 0 0 w (by omega) (by omega) (by omega)
  by_cases h40 : 40 < n
  · rw [show decide (40 < n ∨ 40 < 0 ∨ 40 < 0) = true by simp; omega] at hlg
    go_enter Try.func4, Try.ntmps4
    go_wp2_with fail
    refine hlg.mono ?_; rintro e w' ⟨rfl, rfl⟩
    go_wp2_with fail
    refine (lw_works _).mono ?_; rintro e w1 ⟨rfl, hb⟩
    go_wp2_with fail
    go_ret
    exact ⟨rfl, hb⟩
  · rw [show decide (40 < n ∨ 40 < 0 ∨ 40 < 0) = false by simp; omega] at hlg
    have hg1 := gapV_len xs
    have hg2 := nedV_len xs
    go_enter Try.func4, Try.ntmps4
    go_wp2_with fail
    refine hlg.mono ?_; rintro e w' ⟨rfl, rfl⟩
    go_wp2_with fail
    refine (pk_Gaps A n xs ca w hx (by omega)).mono ?_; rintro e w1 ⟨A1, c1, rfl, hI1, b1⟩
    have HX := hx.below b1
    go_wp2_with fail
    refine (rf_Gaps A n xs ca w1 HX (by omega)).mono ?_; rintro e w2 ⟨A2, c2, rfl, hI2, b2⟩
    replace HX := HX.below b2; replace hI1 := hI1.below b2; have HB := b1.trans (b2.mono b1.size); clear b1 b2
    go_wp2_with fail
    refine (pk_Greatest A n xs ca w2 HX (by omega)).mono ?_; rintro e w3 ⟨rfl, b⟩
    replace HX := HX.below b; replace hI1 := hI1.below b; replace hI2 := hI2.below b; replace HB := HB.trans (b.mono HB.size); clear b
    go_wp2_with fail
    refine (rf_Greatest A n xs ca w3 HX (by omega)).mono ?_; rintro e w4 ⟨rfl, b⟩
    replace HX := HX.below b; replace hI1 := hI1.below b; replace hI2 := hI2.below b; replace HB := HB.trans (b.mono HB.size); clear b
    go_wp2_with fail
    refine (pk_Even A n xs ca w4 HX (by omega)).mono ?_; rintro e w5 ⟨rfl, b⟩
    replace HX := HX.below b; replace hI1 := hI1.below b; replace hI2 := hI2.below b; replace HB := HB.trans (b.mono HB.size); clear b
    go_wp2_with fail
    refine (rf_Even A n xs ca w5 HX (by omega)).mono ?_; rintro e w6 ⟨rfl, b⟩
    replace HX := HX.below b; replace hI1 := hI1.below b; replace hI2 := hI2.below b; replace HB := HB.trans (b.mono HB.size); clear b
    go_wp2_with fail
    refine (pk_Needed A n xs ca w6 HX (by omega) hca hca').mono ?_; rintro e w7 ⟨A3, c3, rfl, hI3, b⟩
    replace HX := HX.below b; replace hI1 := hI1.below b; replace hI2 := hI2.below b; replace HB := HB.trans (b.mono HB.size); clear b
    go_wp2_with fail
    refine (rf_Needed A n xs ca w7 HX (by omega) hca hca').mono ?_; rintro e w8 ⟨A4, c4, rfl, hI4, b⟩
    replace hI1 := hI1.below b; replace hI2 := hI2.below b; replace hI3 := hI3.below b; replace HB := HB.trans (b.mono HB.size); clear b
    go_wp2_with fail
    refine (same_refl hI1 hI2 (by omega)).mono ?_; rintro e w9 ⟨rfl, b⟩
    replace hI3 := hI3.below b; replace hI4 := hI4.below b; replace HB := HB.trans (b.mono HB.size); clear b
    go_wp2_with fail
    refine (same_refl hI3 hI4 (by omega)).mono ?_; rintro e w10 ⟨rfl, b⟩
    replace HB := HB.trans (b.mono HB.size); clear b
    go_wp2_with fail
    refine (lw_works _).mono ?_; rintro e w11 ⟨rfl, b⟩
    replace HB := HB.trans (b.mono HB.size); clear b
    go_wp2_with fail
    go_ret
    exact ⟨rfl, HB⟩
end Go.Proofs.Ytjcoaicpeajpnaa
