/- The walk of ClaspWays. -/
import Derived.Test.YtenlmjnejjdnnaaDoorClK
namespace Go.Proofs.YtenlmjnejjdnnaaDoor
open Go.RowKit Cl

theorem wayL_len (xs ys : List Int) : (wayL xs ys).length ≤ 1000 := by
  rw [wayL]; split
  · rename_i h
    rw [wayTo_len]
    rw [wayE] at h
    split at h
    · split at h
      · cases h
      · omega
    · rename_i h1; exact absurd h h1
  · simp

set_option maxRecDepth 100000 in
set_option maxHeartbeats 4000000 in
theorem lc_ClaspWays (A B C : Option Addr) (n m q : Nat) (xs ys ws : List Int) (ca cb cc : Nat) (w : World) (ht : HasTab w) (hx : Ints w A n xs) (hy : Ints w B m ys) (hz : Ints w C q ws) (hca : n ≤ ca) (hca' : ca ≤ 9223372036854775807) (hcb : m ≤ cb) (hcb' : cb ≤ 9223372036854775807) (hcc : q ≤ cc) (hcc' : cc ≤ 9223372036854775807) :
    Calls Tryd.prog 5 #[.slice A n ca, .slice B m cb, .slice C q cc] w fun e w' => e = .returned (.bool true) ∧ Below w.heap.size w w' := by
  have hlg := lc_large A B C n m q ca cb cc w (by omega) (by omega) (by omega)
  by_cases h40 : 60 < n ∨ 60 < m ∨ 1200 < q
  · rw [decide_eq_true h40] at hlg
    clear h40
    go_enter Tryd.func5, Tryd.ntmps5
    go_wp2_with fail
    refine hlg.mono ?_; rintro e w' ⟨rfl, rfl⟩
    go_wp2_with fail
    refine (lc_works _ ht).mono ?_; rintro e w1 ⟨rfl, hb⟩
    go_wp2_with fail
    go_ret
    exact ⟨rfl, hb⟩
  · rw [decide_eq_false h40] at hlg
    have hg1 := wayL_len xs ys
    clear h40
    go_enter Tryd.func5, Tryd.ntmps5
    go_wp2_with fail
    refine hlg.mono ?_; rintro e w' ⟨rfl, rfl⟩
    go_wp2_with fail
    refine (cl_Distance A B n m xs ys ca cb w hx hy (by omega) (by omega)).mono ?_; rintro e w1 ⟨rfl, HB⟩
    have HX := hx.below HB
    have HY := hy.below HB
    have HZ := hz.below HB
    go_wp2_with fail
    refine (rc_Distance' A B n m xs ys ca cb w1 HX HY (by omega) (by omega)).mono ?_; rintro e w2 ⟨rfl, rfl⟩
    go_wp2_with fail
    refine (cl_Next A B n m xs ys ca cb w1 (ht.below HB) HX HY (by omega) (by omega)).mono ?_; rintro e w2 ⟨rfl, b⟩
    replace HX := HX.below b; replace HY := HY.below b; replace HZ := HZ.below b; replace HB := HB.trans (b.mono HB.size); clear b
    go_wp2_with fail
    refine (rc_Next A B n m xs ys ca cb w2 HX HY (by omega) (by omega)).mono ?_; rintro e w3 ⟨rfl, b⟩
    replace HX := HX.below b; replace HY := HY.below b; replace HZ := HZ.below b; replace HB := HB.trans (b.mono HB.size); clear b
    go_wp2_with fail
    refine (cl_Way A B n m xs ys ca cb w3 (ht.below HB) HX HY (by omega) (by omega)).mono ?_; rintro e w4 ⟨A1, c1, rfl, hI1, b⟩
    replace HX := HX.below b; replace HY := HY.below b; replace HZ := HZ.below b; replace HB := HB.trans (b.mono HB.size); clear b
    go_wp2_with fail
    refine (rc_Way A B n m xs ys ca cb w4 HX HY (by omega) (by omega)).mono ?_; rintro e w5 ⟨A2, c2, rfl, hI2, b⟩
    replace HX := HX.below b; replace HY := HY.below b; replace HZ := HZ.below b; replace hI1 := hI1.below b; replace HB := HB.trans (b.mono HB.size); clear b
    go_wp2_with fail
    refine (same_refl hI1 hI2 (by omega)).mono ?_; rintro e w6 ⟨rfl, b⟩
    replace HX := HX.below b; replace HY := HY.below b; replace HZ := HZ.below b; replace HB := HB.trans (b.mono HB.size); clear b
    go_wp2_with fail
    refine (cl_Leads A B C n m q xs ys ws ca cb cc w6 HX HY HZ (by omega) (by omega) (by omega)).mono ?_; rintro e w7 ⟨rfl, b⟩
    replace HX := HX.below b; replace HY := HY.below b; replace HZ := HZ.below b; replace HB := HB.trans (b.mono HB.size); clear b
    go_wp2_with fail
    refine (rc_Leads A B C n m q xs ys ws ca cb cc w7 HX HY HZ (by omega) (by omega) (by omega)).mono ?_; rintro e w8 ⟨rfl, b⟩
    replace HB := HB.trans (b.mono HB.size); clear b
    go_wp2_with fail
    refine (lc_works _ (ht.below HB)).mono ?_; rintro e w9 ⟨rfl, b⟩
    replace HB := HB.trans (b.mono HB.size); clear b
    go_wp2_with fail
    go_ret
    exact ⟨rfl, HB⟩
end Go.Proofs.YtenlmjnejjdnnaaDoor
