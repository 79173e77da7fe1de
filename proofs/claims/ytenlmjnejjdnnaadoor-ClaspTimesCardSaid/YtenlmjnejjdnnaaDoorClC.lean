/- Clasp: positions as bars. -/
import Derived.Test.YtenlmjnejjdnnaaDoorClB
namespace Go.Proofs.YtenlmjnejjdnnaaDoor
open Go.RowKit Cl

set_option maxRecDepth 100000 in
set_option maxHeartbeats 1000000 in
theorem cl_laid (A : Option Addr) (n : Nat) (xs : List Int) (ca : Nat) (w : World) (hx : Ints w A n xs) (hl : n ≤ 9223372036854775807) :
    Calls Tryd.prog 49 #[.slice A n ca] w fun e w' => ∃ cs, e = .returned (.tuple #[.agg cs, .int .i64 (pchk xs)]) ∧ BarC cs (if pchk xs = 0 then onL xs else []) ∧ Below w.heap.size w w' := by
  have hz := zero_barC
  have hzw := Whole.new w 68 zbar
  have hbe := (Below.refl w.heap.size w).alloc (Nat.le_refl _) (.cells zbar 68)
  have HX := hx.below hbe
  have hck := cl_Check A n xs ca _ HX hl
  by_cases h0 : pchk xs = 0
  · obtain ⟨p1, p2, p3⟩ := pchk_ok hx.len h0
    rw [h0] at hck
    have h0 := Lib.hid h0
    go_enter Tryd.func49, Tryd.ntmps49
    go_wp2_with fail
    refine hck.mono ?_; rintro e w' ⟨rfl, rfl⟩
    go_wp2_with fail
    go_loopw [19] (fun i wr => ∃ k : Nat, k ≤ n ∧ i = .int .i64 k ∧ (∃ cs, Whole wr (w.heap.size + 1) 68 cs ∧ BarP cs n (fun j => decide (j < k) && bit (onL xs) j)) ∧ Below (w.heap.size + 1) (w.alloc (.cells zbar 68)) wr) (fun i _ => n - (intOf i).toNat)
    case atStart =>
      refine ⟨0, by omega, rfl, ⟨_, by simpa using Whole.new (w.alloc (.cells zbar 68)) 68 (nbar n), (nbar_P n).congr fun j _ => by simp⟩, (Below.refl _ _).alloc (by simp) _⟩
    case round =>
      obtain ⟨k, hk, rfl, ⟨cs, hB, hP⟩, hw⟩ := hrel
      have hsz := hw.size
      have hsz0 : (w.alloc (.cells zbar 68)).heap.size = w.heap.size + 1 := by simp
      by_cases hlt : k < n
      · obtain ⟨b, off, rfl, hb, hc⟩ := (HX.below (hw.mono (by omega))).at_ hlt
        have f1 := hB.frozen (1 + k)
        have c1 := (hB.cell (1 + k)).trans (hP.2.2 k (by omega))
        have hki : (0 : Int) ≤ (k : Int) := by omega
        have hkn : (k : Int) < n := by omega
        have hk16 : (k : Int) < 16 := by omega
        have hbit := Lib.hid (bit_onL xs k)
        clear hck hbe hx HX hzw hz
        go_wp2_with fail
        refine ⟨⟨k + 1, by omega, by go_num, ⟨_, hB.set_ (1 + k) _, (hP.set_ (by omega)).congr fun j hj => ?_⟩, hw.setCell (by simp) _⟩, by simp [intOf]; omega⟩
        by_cases e : j = k
        · subst e; rw [if_pos rfl, hbit.out]; simp; by_cases h : At xs j = 1 <;> simp [h]
        · rw [if_neg e]; by_cases h : j < k
          · simp [h]; omega
          · simp [h]; omega
      · obtain rfl : k = n := by omega
        have hz2 : Whole wr w.heap.size 68 zbar := hzw.below hw (by simp)
        have hC : BarC cs (onL xs) := hP.barC (by rw [onL_len, hx.len]) (by omega) (fun j _ => by
          by_cases h : j < k
          · simp [h]
          · simp [h, bit_out (l := onL xs) (k := j) (by rw [onL_len, hx.len]; omega)])
        go_wp2_with (first | (refine wpList_loadB (by rfl) _ (by rfl) _ (by rfl) _ cs hB hC.1 ?_) | (refine wpList_storeB (by rfl) _ _ (by rfl) _ cs (by rfl) (by rfl) _ zbar hz2 rfl hC.1 hC.all ?_))
        try simp only [Exit.inBlock, Exit.then]
        refine ret_cellB rfl (g := w.heap.size) (cs := cs) rfl (hz2.setRow cs) hC.1 rfl ?_
        exact ⟨cs, by first | rfl | (rw [h0.out]; rfl), by first | exact hC | (rw [if_pos h0.out]; exact hC), hbe.trans (belowSetRow (hw.mono (by omega)) (Nat.le_refl _) _)⟩
  · have hne : (pchk xs != 0) = true := by simp [h0]
    have h0 := Lib.hid h0
    go_enter Tryd.func49, Tryd.ntmps49
    go_wp2_with fail
    refine hck.mono ?_; rintro e w' ⟨rfl, rfl⟩
    go_wp2_with (refine wpList_storeB (by rfl) _ _ (by rfl) _ zbar (by rfl) (by rfl) _ zbar hzw rfl rfl zero_barC.all ?_; rw [setRow_alloc])
    try simp only [Exit.inBlock, Exit.then]
    refine ret_cellB rfl (g := w.heap.size) (cs := zbar) rfl hzw rfl rfl ?_
    exact ⟨zbar, rfl, by first | exact hz | (rw [if_neg h0.out]; exact hz), hbe⟩
end Go.Proofs.YtenlmjnejjdnnaaDoor
