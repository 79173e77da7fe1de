/- Clasp: Moves and Move. -/
import Derived.Test.YtenlmjnejjdnnaaDoorClD
namespace Go.Proofs.YtenlmjnejjdnnaaDoor
open Go.RowKit Cl

/-- A list and an error are returned. -/
def GivL (e : Ending) (w w' : World) (ys : List Int) (er : Int) : Prop := ∃ A c, e = .returned (.tuple #[.slice A ys.length c, .int .i64 er]) ∧ Ints w' A ys.length ys ∧ Below w.heap.size w w'
def movsL (xs : List Int) : List Int := if pchk xs = 0 then looseTo (onL xs) xs.length else []
/-- The error of Move, and the position. -/
def mveE (xs : List Int) (r : Int) : Int := if pchk xs = 0 then movE (onL xs) r else pchk xs
def mveL (xs : List Int) (r : Int) : List Int := if mveE xs r = 0 then il (flip (onL xs) r.toNat) else []

set_option maxRecDepth 100000 in
set_option maxHeartbeats 1000000 in
theorem cl_Moves (A : Option Addr) (n : Nat) (xs : List Int) (ca : Nat) (w : World) (hx : Ints w A n xs) (hl : n ≤ 9223372036854775807) :
    Calls Tryd.prog 16 #[.slice A n ca] w fun e w' => GivL e w w' (movsL xs) (pchk xs) := by
  have hlaid := cl_laid A n xs ca w hx hl
  by_cases h0 : pchk xs = 0
  · have hV := Lib.hid (show movsL xs = looseTo (onL xs) (onL xs).length by rw [movsL, if_pos h0, onL_len])
    rw [h0, if_pos rfl] at hlaid
    have H0 := Lib.hid h0; clear h0
    go_enter Tryd.func16, Tryd.ntmps16
    go_wp2_with fail
    refine hlaid.mono ?_; rintro e w1 ⟨cs, rfl, hC, b⟩
    have hn := Whole.new w1 68 zbar
    have hB := Whole.new w1 68 cs
    have hb1 := b.alloc b.size (.cells cs 68)
    go_wp2_with (first | (refine wpList_storeB (by rfl) _ _ (by rfl) _ cs (by rfl) (by rfl) _ zbar hn rfl hC.1 hC.all ?_; rw [setRow_alloc]) | (refine wpList_loadB (by rfl) _ (by rfl) _ (by rfl) _ cs hB hC.1 ?_))
    refine (bar_loose cs (onL xs) _ hC).mono ?_; rintro e w2 ⟨A2, c2, rfl, hI, b2⟩
    go_wp2_with fail
    go_ret2
    unfold GivL
    rw [hV.out, H0.out]
    exact ⟨A2, c2, rfl, hI, hb1.trans (b2.mono (by have := b.size; simp; omega))⟩
  · have hne : (pchk xs != 0) = true := by simp [h0]
    have hV := Lib.hid (show movsL xs = [] by rw [movsL, if_neg h0])
    rw [if_neg h0] at hlaid
    clear h0
    go_enter Tryd.func16, Tryd.ntmps16
    go_wp2_with fail
    refine hlaid.mono ?_; rintro e w1 ⟨cs, rfl, hC, b⟩
    have hn := Whole.new w1 68 zbar
    have hb1 := b.alloc b.size (.cells cs 68)
    go_wp2_with (refine wpList_storeB (by rfl) _ _ (by rfl) _ cs (by rfl) (by rfl) _ zbar hn rfl hC.1 hC.all ?_; rw [setRow_alloc])
    go_ret2
    unfold GivL
    rw [hV.out]
    exact ⟨none, 0, rfl, Ints.nil_ _ _, hb1⟩

theorem il_flip_nil (l : List Bool) (r : Int) (h : movE l r ≠ 0) : movL l r = [] := by rw [movL, if_neg h]

set_option maxRecDepth 100000 in
set_option maxHeartbeats 1000000 in
theorem cl_Move (A : Option Addr) (n : Nat) (xs : List Int) (ca : Nat) (r : Int) (w : World) (hx : Ints w A n xs) (hl : n ≤ 9223372036854775807) :
    Calls Tryd.prog 18 #[.slice A n ca, .int .i64 r] w fun e w' => GivL e w w' (mveL xs r) (mveE xs r) := by
  have hlaid := cl_laid A n xs ca w hx hl
  by_cases h0 : pchk xs = 0
  · have hE := Lib.hid (show mveE xs r = movE (onL xs) r by rw [mveE, if_pos h0])
    have hV := Lib.hid (show mveL xs r = il (movL (onL xs) r) by
      rw [mveL, movL, mveE, if_pos h0]; split <;> rfl)
    rw [h0, if_pos rfl] at hlaid
    have H0 := Lib.hid h0; clear h0
    go_enter Tryd.func18, Tryd.ntmps18
    go_wp2_with fail
    refine hlaid.mono ?_; rintro e w1 ⟨cs, rfl, hC, b⟩
    have hn := Whole.new w1 68 zbar
    have hB := Whole.new w1 68 cs
    have hb1 := b.alloc b.size (.cells cs 68)
    have hsz := b.size
    go_wp2_with (first | (refine wpList_storeB (by rfl) _ _ (by rfl) _ cs (by rfl) (by rfl) _ zbar hn rfl hC.1 hC.all ?_; rw [setRow_alloc]) | (refine wpList_loadB (by rfl) _ (by rfl) _ (by rfl) _ cs hB hC.1 ?_))
    refine (bar_moved cs (onL xs) r _ hC).mono ?_; rintro e w2 ⟨ds, rfl, hD, b2⟩
    have hB2 := hB.below b2 (by simp)
    have hD2 := hB2.setRow ds
    have hb2 := belowSetRow (hb1.trans (b2.mono (by simp; omega))) hsz ds
    have hsz2 := hb2.size
    clear hB hn b b2 hb1 hlaid
    go_wp2_with (first | (refine wpList_storeB (by rfl) _ _ (by rfl) _ ds (by rfl) (by rfl) _ cs hB2 hC.1 hD.1 hD.all ?_) | (refine wpList_loadB (by rfl) _ (by rfl) _ (by rfl) _ ds hD2 hD.1 ?_))
    refine (bar_list ds (movL (onL xs) r) _ hD).mono ?_; rintro e w3 ⟨A3, c3, rfl, hI, b3⟩
    go_wp2_with fail
    go_ret2
    unfold GivL
    rw [hV.out, hE.out, il_len]
    exact ⟨A3, c3, rfl, hI, hb2.trans (b3.mono hsz2)⟩
  · have hne : (pchk xs != 0) = true := by simp [h0]
    have hE := Lib.hid (show mveE xs r = pchk xs by rw [mveE, if_neg h0])
    have hV := Lib.hid (show mveL xs r = [] by rw [mveL, mveE, if_neg h0, if_neg h0])
    rw [if_neg h0] at hlaid
    clear h0
    go_enter Tryd.func18, Tryd.ntmps18
    go_wp2_with fail
    refine hlaid.mono ?_; rintro e w1 ⟨cs, rfl, hC, b⟩
    have hn := Whole.new w1 68 zbar
    have hb1 := b.alloc b.size (.cells cs 68)
    go_wp2_with (refine wpList_storeB (by rfl) _ _ (by rfl) _ cs (by rfl) (by rfl) _ zbar hn rfl hC.1 hC.all ?_; rw [setRow_alloc])
    go_ret2
    unfold GivL
    rw [hV.out, hE.out]
    exact ⟨none, 0, rfl, Ints.nil_ _ _, hb1⟩
end Go.Proofs.YtenlmjnejjdnnaaDoor
