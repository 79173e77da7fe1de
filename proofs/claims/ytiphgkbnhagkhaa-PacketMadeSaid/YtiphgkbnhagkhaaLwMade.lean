/- The walk of PacketMade. -/
import Derived.Test.YtiphgkbnhagkhaaLwGaps
import Derived.Test.YtiphgkbnhagkhaaRfI
namespace Go.Proofs.Ytiphgkbnhagkhaa
open Go.RowKit Pk

theorem bfL_len (ps cs : List Nat) (m : Nat) : (bfL ps cs m).length ≤ ps.length := by
  rw [bfL]; split
  · simp [bestF]
  · simp
theorem makL_len (xs : List Int) (k : Int) : (makL xs k).length ≤ 5 := by
  rw [makL]; split
  · rename_i h
    rw [List.length_map]
    have := (chk_ok (chkN_ok h).1 rfl).2.1
    have h2 := bfL_len (natL xs) (enL xs k) k.toNat
    rw [natL_len] at h2
    omega
  · simp
theorem remL_len (xs : List Int) (k : Int) : (remL xs k).length ≤ 30 := by
  rw [remL]; split
  · rename_i h
    have h1 : chk xs = 0 := by
      rw [remE] at h; split at h
      · rename_i h'; exact h'
      · rename_i h'; exact absurd h h'
    have h3 := (chk_ok h1 rfl).2.2
    have : ∀ s ∈ natL xs, s ≤ 30 := natL_all fun j hj => by have := h3 j hj; omega
    have h4 := NAt_le this k.toNat
    simp [fmL]; omega
  · simp

set_option maxRecDepth 100000 in
set_option maxHeartbeats 4000000 in
theorem lw_PacketMade (A : Option Addr) (n : Nat) (xs : List Int) (ca : Nat) (q k : Int) (w : World) (hx : Ints w A n xs) (hca : n ≤ ca) (hca' : ca ≤ 9223372036854775807) :
    Calls Try.prog 3 #[.slice A n ca, .int .i64 q, .int .i64 k] w fun e w' => e = .returned (.bool true) ∧ Below w.heap.size w w' := by
  have hlg := lw_large' A none none n 0 0 ca 0 0 w (by omega) (by omega) (by omega)
  by_cases h40 : 40 < n
  · rw [show decide (40 < n ∨ 40 < 0 ∨ 40 < 0) = true by simp; omega] at hlg
    go_enter Try.func3, Try.ntmps3
    go_wp2_with fail
    refine hlg.mono ?_; rintro e w' ⟨rfl, rfl⟩
    go_wp2_with fail
    refine (lw_works _).mono ?_; rintro e w1 ⟨rfl, hb⟩
    go_wp2_with fail
    go_ret
    exact ⟨rfl, hb⟩
  · rw [show decide (40 < n ∨ 40 < 0 ∨ 40 < 0) = false by simp; omega] at hlg
    have hg1 := makL_len xs q
    have hg2 := remL_len xs k
    go_enter Try.func3, Try.ntmps3
    go_wp2_with fail
    refine hlg.mono ?_; rintro e w' ⟨rfl, rfl⟩
    go_wp2_with fail
    refine (pk_Can A n xs ca q w hx (by omega)).mono ?_; rintro e w1 ⟨rfl, HB⟩
    have HX := hx.below HB
    go_wp2_with fail
    refine (rf_Can A n xs ca q w1 HX (by omega)).mono ?_; rintro e w2 ⟨rfl, b⟩
    replace HX := HX.below b; replace HB := HB.trans (b.mono HB.size); clear b
    go_wp2_with fail
    refine (pk_Make A n xs ca q w2 HX (by omega)).mono ?_; rintro e w3 ⟨A1, c1, rfl, hI1, b⟩
    replace HX := HX.below b; replace HB := HB.trans (b.mono HB.size); clear b
    go_wp2_with fail
    refine (rf_Make A n xs ca q w3 HX (by omega)).mono ?_; rintro e w4 ⟨A2, c2, rfl, hI2, b⟩
    replace HX := HX.below b; replace hI1 := hI1.below b; replace HB := HB.trans (b.mono HB.size); clear b
    go_wp2_with fail
    refine (pk_Why A n xs ca q w4 HX (by omega)).mono ?_; rintro e w5 ⟨rfl, b⟩
    replace HX := HX.below b; replace hI1 := hI1.below b; replace hI2 := hI2.below b; replace HB := HB.trans (b.mono HB.size); clear b
    go_wp2_with fail
    refine (rf_Why A n xs ca q w5 HX (by omega)).mono ?_; rintro e w6 ⟨rfl, b⟩
    replace HX := HX.below b; replace hI1 := hI1.below b; replace hI2 := hI2.below b; replace HB := HB.trans (b.mono HB.size); clear b
    go_wp2_with fail
    refine (same_refl hI1 hI2 (by omega)).mono ?_; rintro e w7 ⟨rfl, b⟩
    replace HX := HX.below b; replace HB := HB.trans (b.mono HB.size); clear b
    go_wp2_with fail
    refine (pk_Remainders A n xs ca k w7 HX (by omega)).mono ?_; rintro e w8 ⟨A3, c3, rfl, hI3, b⟩
    replace HX := HX.below b; replace HB := HB.trans (b.mono HB.size); clear b
    go_wp2_with fail
    refine (rf_Remainders A n xs ca k w8 HX (by omega)).mono ?_; rintro e w9 ⟨A4, c4, rfl, hI4, b⟩
    replace HX := HX.below b; replace hI3 := hI3.below b; replace HB := HB.trans (b.mono HB.size); clear b
    go_wp2_with fail
    refine (same_refl hI3 hI4 (by omega)).mono ?_; rintro e w10 ⟨rfl, b⟩
    replace HX := HX.below b; replace HB := HB.trans (b.mono HB.size); clear b
    go_wp2_with fail
    refine (pk_Check A n xs ca w10 HX (by omega)).mono ?_; rintro e w' ⟨rfl, rfl⟩
    go_wp2_with fail
    refine (rf_Check A n xs ca w10 HX (by omega)).mono ?_; rintro e w' ⟨rfl, j, rfl⟩
    go_wp2_with fail
    refine (lw_works _).mono ?_; rintro e w11 ⟨rfl, b⟩
    replace HB := HB.trans ((undrewN b).mono HB.size); clear b
    go_wp2_with fail
    go_ret
    exact ⟨rfl, HB⟩
end Go.Proofs.Ytiphgkbnhagkhaa
