/- The walk of PacketFills. -/
import Derived.Test.YtiphgkbnhagkhaaLwGaps
import Derived.Test.YtiphgkbnhagkhaaRfJ
namespace Go.Proofs.Ytiphgkbnhagkhaa
open Go.RowKit Pk

theorem bfL_len' (ps cs : List Nat) (m : Nat) : (bfL ps cs m).length ≤ ps.length := by
  rw [bfL]; split
  · simp [bestF]
  · simp
theorem filL_len (xs cs : List Int) (k : Int) : (filL xs cs k).length ≤ 5 := by
  rw [filL]; split
  · rename_i h
    rw [List.length_map]
    have := (chk_ok (chkS_ok (chkO_ok h).1).1 rfl).2.1
    have h2 := bfL_len' (natL xs) (natL cs) k.toNat
    rw [natL_len] at h2
    omega
  · simp

set_option maxRecDepth 100000 in
set_option maxHeartbeats 4000000 in
theorem lw_PacketFills (A B C : Option Addr) (n m l : Nat) (xs cs fs : List Int) (ca cb cc : Nat) (q : Int) (w : World) (hx : Ints w A n xs) (hy : Ints w B m cs) (hz : Ints w C l fs) (h1 : n ≤ 9223372036854775807) (h2 : m ≤ 9223372036854775807) (h3 : l ≤ 9223372036854775807) :
    Calls Try.prog 5 #[.slice A n ca, .slice B m cb, .int .i64 q, .slice C l cc] w fun e w' => e = .returned (.bool true) ∧ Below w.heap.size w w' := by
  have hlg := lw_large' A B C n m l ca cb cc w h1 h2 h3
  by_cases h40 : 40 < n ∨ 40 < m ∨ 40 < l
  · rw [show decide (40 < n ∨ 40 < m ∨ 40 < l) = true from decide_eq_true h40] at hlg
    have H := Lib.hid h40; clear h40
    go_enter Try.func5, Try.ntmps5
    go_wp2_with fail
    refine hlg.mono ?_; rintro e w' ⟨rfl, rfl⟩
    go_wp2_with fail
    refine (lw_works _).mono ?_; rintro e w1 ⟨rfl, hb⟩
    go_wp2_with fail
    go_ret
    exact ⟨rfl, hb⟩
  · rw [show decide (40 < n ∨ 40 < m ∨ 40 < l) = false from decide_eq_false h40] at hlg
    have hg1 := filL_len xs cs q
    have hn : n ≤ 40 := by omega
    have hm : m ≤ 40 := by omega
    have hl : l ≤ 40 := by omega
    clear h40
    go_enter Try.func5, Try.ntmps5
    go_wp2_with fail
    refine hlg.mono ?_; rintro e w' ⟨rfl, rfl⟩
    go_wp2_with fail
    refine (pk_Fill A B n m xs cs ca cb q w hx hy (by omega) (by omega)).mono ?_; rintro e w1 ⟨A1, c1, rfl, hI1, HB⟩
    replace hx := hx.below HB; replace hy := hy.below HB; replace hz := hz.below HB
    go_wp2_with fail
    refine (rf_Fill A B n m xs cs ca cb q w1 hx hy (by omega) (by omega)).mono ?_; rintro e w2 ⟨A2, c2, rfl, hI2, b⟩
    replace hx := hx.below b; replace hy := hy.below b; replace hz := hz.below b; replace hI1 := hI1.below b; replace HB := HB.trans (b.mono HB.size); clear b
    go_wp2_with fail
    refine (same_refl hI1 hI2 (by omega)).mono ?_; rintro e w3 ⟨rfl, b⟩
    replace hx := hx.below b; replace hy := hy.below b; replace hz := hz.below b; replace HB := HB.trans (b.mono HB.size); clear b
    go_wp2_with fail
    refine (pk_Verify A B C n m l xs cs fs ca cb cc q w3 hx hy hz (by omega) (by omega) (by omega)).mono ?_; rintro e w' ⟨rfl, rfl⟩
    go_wp2_with fail
    refine (rf_Verify A B C n m l xs cs fs ca cb cc q w3 hx hy hz (by omega) (by omega) (by omega)).mono ?_; rintro e w' ⟨rfl, j, rfl⟩
    go_wp2_with fail
    refine (lw_works _).mono ?_; rintro e w4 ⟨rfl, b⟩
    replace HB := HB.trans ((undrewN b).mono HB.size); clear b
    go_wp2_with fail
    go_ret
    exact ⟨rfl, HB⟩
end Go.Proofs.Ytiphgkbnhagkhaa
