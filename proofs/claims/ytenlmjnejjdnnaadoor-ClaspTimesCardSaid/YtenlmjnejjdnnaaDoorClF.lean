/- Clasp: the number of a bar; two positions; ways that are accepted. -/
import Derived.Test.YtenlmjnejjdnnaaDoorRcB
import Derived.Deep.RegionHeld3
namespace Go.Proofs.YtenlmjnejjdnnaaDoor
open Go.RowKit Cl

theorem drop_bit {l : List Bool} {j : Nat} (h : j < l.length) : l.drop j = bit l j :: l.drop (j + 1) := by
  rw [List.drop_eq_getElem_cons h]; simp [bit, h]
theorem num_drop {l : List Bool} {j : Nat} (h : j < l.length) : num (l.drop j) = 2 * num (l.drop (j + 1)) + (bit l j ^^ par (l.drop (j + 1))).toNat := by rw [drop_bit h]; rfl
theorem par_drop {l : List Bool} {j : Nat} (h : j < l.length) : par (l.drop j) = (bit l j ^^ par (l.drop (j + 1))) := by rw [drop_bit h]; rfl
theorem num_drop_lt {l : List Bool} (h : l.length ≤ 16) (j : Nat) : num (l.drop j) < 65536 := by
  have h1 := num_lt (l.drop j)
  have h2 : 2 ^ (l.drop j).length ≤ 2 ^ 16 := Nat.pow_le_pow_right (by decide) (by simp; omega)
  have h3 : (2 : Nat) ^ 16 = 65536 := by decide
  omega
theorem drop_len (l : List Bool) : l.drop l.length = [] := by simp

set_option maxRecDepth 100000 in
set_option maxHeartbeats 2000000 in
theorem bar_number (cs : Array Value) (l : List Bool) (w : World) (hb : BarC cs l) :
    Calls Tryd.prog 56 #[.agg cs] w fun e w' => e = .returned (.int .i64 (num l : Nat)) ∧ Below w.heap.size w w' := by
  obtain ⟨b1, b2, b3, b4⟩ := hb
  have hB0 := Whole.new w 68 cs
  have hbe := (Below.refl w.heap.size w).alloc (Nat.le_refl _) (.cells cs 68)
  have c0 := (hB0.cell 0).trans b2
  have hl0 : (0 : Int) ≤ (l.length : Int) := by omega
  have hl1 : (l.length : Int) ≤ 16 := by omega
  go_enter Tryd.func56, Tryd.ntmps56
  go_wp2
  go_loop [3, 4, 5] (fun a o i => ∃ (k : Nat) (z : Int), k ≤ l.length ∧ z = (k : Int) - 1 ∧ a = .int .i64 (num (l.drop k) : Nat) ∧ o = .bool (par (l.drop k)) ∧ i = .int .i64 z) (fun _ _ i => (intOf i + 1).toNat)
  case atStart => exact ⟨l.length, (l.length : Int) - 1, by omega, rfl, by rw [drop_len]; rfl, by rw [drop_len]; rfl, rfl⟩
  case round =>
    obtain ⟨k, z, hk, hz, rfl, rfl, rfl⟩ := hrel
    clear c0
    cases k with
    | zero =>
      have hz1 : z < 0 := by omega
      clear hz
      rw [List.drop_zero]
      go_wp2
      go_ret
      exact ⟨rfl, hbe⟩
    | succ j =>
      obtain rfl : z = (j : Int) := by omega
      have c1 := (hB0.cell (1 + j)).trans (b3 j (by omega))
      have hn := num_drop_lt b4 (j + 1)
      have hN := Lib.hid (num_drop (l := l) (j := j) (by omega))
      have hP := Lib.hid (par_drop (l := l) (j := j) (by omega))
      have hj0 : (0 : Int) ≤ (j : Int) := by omega
      have hj1 : (j : Int) < 16 := by omega
      have hn0 : (0 : Int) ≤ (num (l.drop (j + 1)) : Nat) := by omega
      have hn1 : ((num (l.drop (j + 1)) : Nat) : Int) < 65536 := by omega
      clear hz hl0 hl1
      generalize num (l.drop (j + 1)) = nn at *
      generalize par (l.drop (j + 1)) = pp at *
      generalize hbit : bit l j = bb at *
      cases pp <;> cases bb
      all_goals
        go_wp2
        go_round
        case rel => exact ⟨j, (j : Int) - 1, by omega, rfl, by rw [hN.out]; go_num, by rw [hP.out]; rfl, by go_num⟩
        case measure => simp [intOf]; try omega

/-- A block that holds a bar; its cells. -/
def IsBar (w : World) (g : Nat) : Prop := ∃ t cs, Whole w g t cs ∧ cs.size = 17
def barOf (w : World) (g : Nat) : Array Value := match w.heap[g]? with | some (.cells cs _ _) => cs | _ => #[]
theorem Whole.barOf {w : World} {g : Nat} {t : TypeId} {cs : Array Value} (h : Whole w g t cs) : barOf w g = cs := by
  have e : w.heap[g]? = some (.cells cs t (0, 0)) := h
  simp [Proofs.YtenlmjnejjdnnaaDoor.barOf, e]
def loadBar (x : Addr) : Sem Value := loadVar 68 x
def storeBar (x : Addr) (v : Value) : Sem Unit := storeVar 68 x v
theorem loadVar_bar (x : Addr) : loadVar 68 x = loadBar x := rfl
theorem storeVar_bar (x : Addr) (v : Value) : storeVar 68 x v = storeBar x v := rfl
theorem go_loadB (w : World) (g : Nat) (h : IsBar w g) : (loadBar ⟨g, 0, none⟩).run Tryd.prog w = .ok (.agg (barOf w g)) w := by
  unfold loadBar
  obtain ⟨t, cs, h1, h2⟩ := h
  rw [h1.barOf]; exact run_loadB h1 h2
theorem go_storeB (w : World) (g : Nat) (cs : Array Value) (h : IsBar w g) (h1 : cs.size = 17) (h2 : cs.all (·.oneCell') = true) : (storeBar ⟨g, 0, none⟩ (.agg cs)).run Tryd.prog w = .ok () (w.setRow g cs) := by
  unfold storeBar
  obtain ⟨t, old, h3, h4⟩ := h
  exact run_storeVar_row w g t 68 old cs h3 (by rw [h1]; exact bar_info) (by rw [h4, h1]) h2
theorem isBar_drew (w : World) (g : Nat) : IsBar w.drew g = IsBar w g := rfl
theorem barOf_drew (w : World) (g : Nat) : barOf w.drew g = barOf w g := rfl
theorem isBar_far (w : World) (g k : Nat) (cs : Array Value) (h : g ≠ k) : IsBar (w.setRow k cs) g = IsBar w g := by
  unfold IsBar Whole; rw [setRow_other w k g cs h]
theorem barOf_far (w : World) (g k : Nat) (cs : Array Value) (h : g ≠ k) : barOf (w.setRow k cs) g = barOf w g := by
  unfold barOf; rw [setRow_other w k g cs h]
attribute [local go_sem ↓] loadVar_bar storeVar_bar
attribute [local go_sem] go_loadB go_storeB isBar_drew barOf_drew isBar_far barOf_far

/-- The error of two positions. -/
def bothE (xs ys : List Int) : Int := if pchk xs = 0 then (if pchk ys = 0 then (if xs.length = ys.length then 0 else 5) else pchk ys) else pchk xs
def onE (xs ys : List Int) (zs : List Int) : List Bool := if bothE xs ys = 0 then onL zs else []

set_option maxRecDepth 100000 in
set_option maxHeartbeats 4000000 in
theorem cl_laidBoth (A B : Option Addr) (n m : Nat) (xs ys : List Int) (ca cb : Nat) (w : World) (hx : Ints w A n xs) (hy : Ints w B m ys) (hl : n ≤ 9223372036854775807) (hl' : m ≤ 9223372036854775807) :
    Calls Tryd.prog 67 #[.slice A n ca, .slice B m cb] w fun e w' => ∃ cs ds, e = .returned (.tuple #[.agg cs, .agg ds, .int .i64 (bothE xs ys)]) ∧ BarC cs (onE xs ys xs) ∧ BarC ds (onE xs ys ys) ∧ Below w.heap.size w w' := by
  have hz := zero_barC
  have hbe := ((Below.refl w.heap.size w).alloc (Nat.le_refl _) (.cells zbar 68)).alloc (by simp) (.cells zbar 68)
  have h40 := (Whole.new w 68 zbar).alloc (.cells zbar 68)
  have h50 := Whole.new (w.alloc (.cells zbar 68)) 68 zbar
  have hsz0 : ((w.alloc (.cells zbar 68)).alloc (.cells zbar 68)).heap.size = w.heap.size + 2 := by simp
  rw [show (w.alloc (.cells zbar 68)).heap.size = w.heap.size + 1 by simp] at h50
  have k1 := cl_laid A n xs ca _ (hx.below hbe) hl
  by_cases h0 : pchk xs = 0
  · rw [h0, if_pos rfl] at k1
    go_enter Tryd.func67, Tryd.ntmps67
    go_wp2_with fail
    refine k1.mono ?_; rintro e w1 ⟨cs, rfl, hC, b1⟩
    have hs1 := b1.size
    have HY := hy.below (hbe.trans (b1.mono (by omega)))
    have h41 := (h40.below b1 (by omega)).alloc (.cells cs 68)
    have h51 := (h50.below b1 (by omega)).alloc (.cells cs 68)
    have h7n := Whole.new w1 68 zbar
    have h71 := Whole.new w1 68 cs
    have hb1 := (hbe.trans (b1.mono (by omega))).alloc (by omega) (.cells cs 68)
    have HY1 := HY.below ((Below.refl w1.heap.size w1).alloc (Nat.le_refl _) (.cells cs 68))
    have hsz1 : (w1.alloc (.cells cs 68)).heap.size = w1.heap.size + 1 := by simp
    have k2 := cl_laid B m ys cb _ HY1 hl'
    clear h40 h50 k1 HY
    by_cases h1 : pchk ys = 0
    · rw [h1, if_pos rfl] at k2
      go_wp2_with (refine wpList_storeB (by rfl) _ _ (by rfl) _ cs (by rfl) (by rfl) _ zbar h7n rfl hC.1 hC.all ?_; rw [setRow_alloc])
      refine k2.mono ?_; rintro e w2 ⟨ds, rfl, hD, b2⟩
      have hs2 := b2.size
      have h42 := (h41.below b2 (by omega)).alloc (.cells ds 68)
      have h52 := (h51.below b2 (by omega)).alloc (.cells ds 68)
      have h72 := (h71.below b2 (by omega)).alloc (.cells ds 68)
      have h9n := Whole.new w2 68 zbar
      have h92 := Whole.new w2 68 ds
      have hb2 := (hb1.trans (b2.mono (by omega))).alloc (by omega) (.cells ds 68)
      have c7 := (h72.cell 0).trans hC.2.1
      have c9 := (h92.cell 0).trans hD.2.1
      rw [onL_len] at c7 c9
      have e1 := hx.len
      have e2 := hy.len
      clear h41 h51 h71 h7n k2 HY1 hb1
      by_cases h2 : xs.length = ys.length
      · have hE' : bothE xs ys = 0 := by rw [bothE, if_pos h0, if_pos h1, if_pos h2]
        have hE := Lib.hid hE'
        have hne : ((xs.length : Int) != (ys.length : Int)) = false := by simp; omega
        clear h0 h1 hE'
        go_wp2_with (refine wpList_storeB (by rfl) _ _ (by rfl) _ ds (by rfl) (by rfl) _ zbar h9n rfl hD.1 hD.all ?_; rw [setRow_alloc])
        generalize w2.alloc (.cells ds 68) = W2 at *
        have n1 : w.heap.size ≠ w1.heap.size := by omega
        have n2 : w.heap.size ≠ w2.heap.size := by omega
        have n3 : w.heap.size + 1 ≠ w.heap.size := by omega
        have l7 := go_loadB W2.drew w1.heap.size ⟨_, _, h72, hC.1⟩
        have l9 := go_loadB W2.drew w2.heap.size ⟨_, _, h92, hD.1⟩
        rw [barOf_drew, h72.barOf] at l7
        rw [barOf_drew, h92.barOf] at l9
        have h54 := Whole.setRow_far (w := W2.drew) h52 n3 cs
        have h94 := Whole.setRow_far (w := W2.drew) h92 n2.symm cs
        have l9' := go_loadB (W2.drew.setRow w.heap.size cs) w2.heap.size ⟨_, _, h94, hD.1⟩
        rw [h94.barOf] at l9'
        have s4 := go_storeB W2.drew w.heap.size cs ⟨_, _, h42, rfl⟩ hC.1 hC.all
        have s5 := go_storeB (W2.drew.setRow w.heap.size cs) (w.heap.size + 1) ds ⟨_, _, h54, rfl⟩ hD.1 hD.all
        clear c7 c9
        go_region
        go_wp2
        try simp only [Exit.inBlock, Exit.then]
        have f5 := h54.setRow ds
        have f4 := (Whole.setRow (w := W2.drew) h42 cs).setRow_far n3.symm ds
        refine ret_cellBB rfl (g := w.heap.size) (k := w.heap.size + 1) (cs := cs) (ds := ds) rfl f4 hC.1 rfl f5 hD.1 rfl ?_
        exact ⟨cs, ds, by rw [hE.out]; rfl, by rw [onE, if_pos hE.out]; exact hC, by rw [onE, if_pos hE.out]; exact hD, belowSetRow (belowSetRow hb2.drew (Nat.le_refl _) _) (by omega) _⟩
      · have hE' : bothE xs ys = 5 := by rw [bothE, if_pos h0, if_pos h1, if_neg h2]
        have hE := Lib.hid hE'
        have hne : ((n : Int) != (m : Int)) = true := by simp; omega
        rw [e1] at c7
        rw [e2] at c9
        clear h0 h1 hE'
        have g5 := h52.setRow_far (show w.heap.size + 1 ≠ w.heap.size by omega) zbar
        go_wp2_with (first
          | (refine wpList_storeB (by rfl) _ _ (by rfl) _ ds (by rfl) (by rfl) _ zbar h9n rfl hD.1 hD.all ?_; rw [setRow_alloc])
          | (refine wpList_storeB (by rfl) _ _ (by rfl) _ zbar (by rfl) (by rfl) _ zbar h42 rfl rfl zero_barC.all ?_)
          | (refine wpList_storeB (by rfl) _ _ (by rfl) _ zbar (by rfl) (by rfl) _ zbar g5 rfl rfl zero_barC.all ?_))
        try simp only [Exit.inBlock, Exit.then]
        refine ret_cellBB rfl (g := w.heap.size) (k := w.heap.size + 1) (cs := zbar) (ds := zbar) rfl ((h42.setRow zbar).setRow_far (by omega) zbar) rfl rfl (g5.setRow zbar) rfl rfl ?_
        exact ⟨zbar, zbar, by rw [hE.out]; rfl, by rw [onE, hE.out]; exact hz, by rw [onE, hE.out]; exact hz, belowSetRow (belowSetRow hb2 (Nat.le_refl _) _) (by omega) _⟩
    · have hE' : bothE xs ys = pchk ys := by rw [bothE, if_pos h0, if_neg h1]
      have hE := Lib.hid hE'
      have hne : (pchk ys != 0) = true := by simp [h1]
      rw [if_neg h1] at k2
      have H1 := Lib.hid h1
      clear h0 h1 hE'
      go_wp2_with (refine wpList_storeB (by rfl) _ _ (by rfl) _ cs (by rfl) (by rfl) _ zbar h7n rfl hC.1 hC.all ?_; rw [setRow_alloc])
      refine k2.mono ?_; rintro e w2 ⟨ds, rfl, hD, b2⟩
      have hs2 := b2.size
      have h42 := (h41.below b2 (by omega)).alloc (.cells ds 68)
      have h52 := (h51.below b2 (by omega)).alloc (.cells ds 68)
      have h9n := Whole.new w2 68 zbar
      have hb2 := (hb1.trans (b2.mono (by omega))).alloc (by omega) (.cells ds 68)
      have g5 := h52.setRow_far (show w.heap.size + 1 ≠ w.heap.size by omega) zbar
      clear h41 h51 h71 h7n k2 HY1 hb1
      go_wp2_with (first
        | (refine wpList_storeB (by rfl) _ _ (by rfl) _ ds (by rfl) (by rfl) _ zbar h9n rfl hD.1 hD.all ?_; rw [setRow_alloc])
        | (refine wpList_storeB (by rfl) _ _ (by rfl) _ zbar (by rfl) (by rfl) _ zbar h42 rfl rfl zero_barC.all ?_)
        | (refine wpList_storeB (by rfl) _ _ (by rfl) _ zbar (by rfl) (by rfl) _ zbar g5 rfl rfl zero_barC.all ?_))
      try simp only [Exit.inBlock, Exit.then]
      refine ret_cellBB rfl (g := w.heap.size) (k := w.heap.size + 1) (cs := zbar) (ds := zbar) rfl ((h42.setRow zbar).setRow_far (by omega) zbar) rfl rfl (g5.setRow zbar) rfl rfl ?_
      exact ⟨zbar, zbar, by rw [hE.out]; rfl, by rw [onE, hE.out, if_neg H1.out]; exact hz, by rw [onE, hE.out, if_neg H1.out]; exact hz, belowSetRow (belowSetRow hb2 (Nat.le_refl _) _) (by omega) _⟩
  · have hE' : bothE xs ys = pchk xs := by rw [bothE, if_neg h0]
    have hE := Lib.hid hE'
    have hne : (pchk xs != 0) = true := by simp [h0]
    rw [if_neg h0] at k1
    have H0 := Lib.hid h0
    clear h0 hE'
    go_enter Tryd.func67, Tryd.ntmps67
    go_wp2_with fail
    refine k1.mono ?_; rintro e w1 ⟨cs, rfl, hC, b1⟩
    have hs1 := b1.size
    have h41 := (h40.below b1 (by omega)).alloc (.cells cs 68)
    have h51 := (h50.below b1 (by omega)).alloc (.cells cs 68)
    have h7n := Whole.new w1 68 zbar
    have hb1 := (hbe.trans (b1.mono (by omega))).alloc (by omega) (.cells cs 68)
    have g5 := h51.setRow_far (show w.heap.size + 1 ≠ w.heap.size by omega) zbar
    clear h40 h50 k1
    go_wp2_with (first
      | (refine wpList_storeB (by rfl) _ _ (by rfl) _ cs (by rfl) (by rfl) _ zbar h7n rfl hC.1 hC.all ?_; rw [setRow_alloc])
      | (refine wpList_storeB (by rfl) _ _ (by rfl) _ zbar (by rfl) (by rfl) _ zbar h41 rfl rfl zero_barC.all ?_)
      | (refine wpList_storeB (by rfl) _ _ (by rfl) _ zbar (by rfl) (by rfl) _ zbar g5 rfl rfl zero_barC.all ?_))
    try simp only [Exit.inBlock, Exit.then]
    refine ret_cellBB rfl (g := w.heap.size) (k := w.heap.size + 1) (cs := zbar) (ds := zbar) rfl ((h41.setRow zbar).setRow_far (by omega) zbar) rfl rfl (g5.setRow zbar) rfl rfl ?_
    exact ⟨zbar, zbar, by rw [hE.out]; rfl, by rw [onE, hE.out, if_neg H0.out]; exact hz, by rw [onE, hE.out, if_neg H0.out]; exact hz, belowSetRow (belowSetRow hb1 (Nat.le_refl _) _) (by omega) _⟩
end Go.Proofs.YtenlmjnejjdnnaaDoor
