/- The walk of PacketTotals. -/
import Derived.Test.YtiphgkbnhagkhaaLwGaps
import Derived.Test.YtiphgkbnhagkhaaRfO
namespace Go.Proofs.Ytiphgkbnhagkhaa
open Go.RowKit Pk

theorem totV_len (xs cs : List Int) : (totV xs cs).length ≤ 1001 := by
  rw [totV]; split
  · exact totL_len _ _
  · simp

set_option maxRecDepth 100000 in
set_option maxHeartbeats 4000000 in
theorem lw_PacketTotals (A B : Option Addr) (n m : Nat) (xs cs : List Int) (ca cb : Nat) (q k : Int) (w : World) (hx : Ints w A n xs) (hy : Ints w B m cs) (h1 : n ≤ 9223372036854775807) (h2 : m ≤ 9223372036854775807) :
    Calls Try.prog 6 #[.slice A n ca, .slice B m cb, .int .i64 q, .int .i64 k] w fun e w' => e = .returned (.bool true) ∧ Below w.heap.size w w' := by
  have hlg := lw_large' A B none n m 0 ca cb 0 w h1 h2 (by omega)
  by_cases h40 : 40 < n ∨ 40 < m ∨ 40 < 0
  · rw [show decide (40 < n ∨ 40 < m ∨ 40 < 0) = true from decide_eq_true h40] at hlg
    have H := Lib.hid h40; clear h40
    go_enter Try.func6, Try.ntmps6
    go_wp2_with fail
    refine hlg.mono ?_; rintro e w' ⟨rfl, rfl⟩
    go_wp2_with fail
    refine (lw_works _).mono ?_; rintro e w1 ⟨rfl, hb⟩
    go_wp2_with fail
    go_ret
    exact ⟨rfl, hb⟩
  · rw [show decide (40 < n ∨ 40 < m ∨ 40 < 0) = false from decide_eq_false h40] at hlg
    have hg1 := totV_len xs cs
    have hn : n ≤ 40 := by omega
    have hm : m ≤ 40 := by omega
    clear h40
    go_enter Try.func6, Try.ntmps6
    go_wp2_with fail
    refine hlg.mono ?_; rintro e w' ⟨rfl, rfl⟩
    go_wp2_with fail
    refine (pk_Ways A B n m xs cs ca cb q w hx hy (by omega) (by omega)).mono ?_; rintro e w1 ⟨rfl, HB⟩
    replace hx := hx.below HB; replace hy := hy.below HB
    go_wp2_with fail
    refine (rf_Ways A B n m xs cs ca cb q w1 hx hy (by omega) (by omega)).mono ?_; rintro e w2 ⟨rfl, b⟩
    replace hx := hx.below b; replace hy := hy.below b; replace HB := HB.trans (b.mono HB.size); clear b
    go_wp2_with fail
    refine (pk_Totals A B n m xs cs ca cb w2 hx hy (by omega) (by omega)).mono ?_; rintro e w3 ⟨A1, c1, rfl, hI1, b⟩
    replace hx := hx.below b; replace hy := hy.below b; replace HB := HB.trans (b.mono HB.size); clear b
    go_wp2_with fail
    refine (rf_Totals A B n m xs cs ca cb w3 hx hy (by omega) (by omega)).mono ?_; rintro e w4 ⟨A2, c2, rfl, hI2, b⟩
    replace hx := hx.below b; replace hy := hy.below b; replace hI1 := hI1.below b; replace HB := HB.trans (b.mono HB.size); clear b
    go_wp2_with fail
    refine (pk_Least A B n m xs cs ca cb q w4 hx hy (by omega) (by omega)).mono ?_; rintro e w5 ⟨rfl, b⟩
    replace hx := hx.below b; replace hy := hy.below b; replace hI1 := hI1.below b; replace hI2 := hI2.below b; replace HB := HB.trans (b.mono HB.size); clear b
    go_wp2_with fail
    refine (rf_Least A B n m xs cs ca cb q w5 hx hy (by omega) (by omega)).mono ?_; rintro e w6 ⟨rfl, b⟩
    replace hx := hx.below b; replace hy := hy.below b; replace hI1 := hI1.below b; replace hI2 := hI2.below b; replace HB := HB.trans (b.mono HB.size); clear b
    go_wp2_with fail
    refine (same_refl hI1 hI2 (by omega)).mono ?_; rintro e w7 ⟨rfl, b⟩
    replace hx := hx.below b; replace hy := hy.below b; replace HB := HB.trans (b.mono HB.size); clear b
    go_wp2_with fail
    refine (pk_Span A B n m xs cs ca cb q k w7 hx hy (by omega) (by omega)).mono ?_; rintro e w8 ⟨rfl, b⟩
    replace hx := hx.below b; replace hy := hy.below b; replace HB := HB.trans (b.mono HB.size); clear b
    go_wp2_with fail
    refine (rf_Span A B n m xs cs ca cb q k w8 hx hy (by omega) (by omega)).mono ?_; rintro e w9 ⟨rfl, b⟩
    replace HB := HB.trans (b.mono HB.size); clear b
    go_wp2_with fail
    refine (lw_works _).mono ?_; rintro e w10 ⟨rfl, b⟩
    replace HB := HB.trans (b.mono HB.size); clear b
    go_wp2_with fail
    go_ret
    exact ⟨rfl, HB⟩
end Go.Proofs.Ytiphgkbnhagkhaa
