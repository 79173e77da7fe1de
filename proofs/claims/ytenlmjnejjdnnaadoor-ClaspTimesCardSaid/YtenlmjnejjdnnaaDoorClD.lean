/- Clasp: a bar after a move; Moves and Move. -/
import Derived.Test.YtenlmjnejjdnnaaDoorClC
namespace Go.Proofs.YtenlmjnejjdnnaaDoor
open Go.RowKit Cl

/-- The error of a move. -/
def movE (l : List Bool) (r : Int) : Int := if 0 ≤ r ∧ r < l.length then (if can l r.toNat then 0 else 20) else 2
def movL (l : List Bool) (r : Int) : List Bool := if movE l r = 0 then flip l r.toNat else []
theorem BarC.flip {cs : Array Value} {l : List Bool} (h : BarC cs l) {r : Nat} (hr : r < l.length) {b : Bool} (hb : bit l r = !b) : BarC (cs.setIfInBounds (1 + r) (.bool b)) (flip l r) := by
  have h4 := h.2.2.2
  refine (h.barP.set_ (i := r) (b := b) (by omega)).barC (flip_len l r) h4 (fun x _ => ?_)
  rw [bit_flip l r x hr, hb]
  cases b <;> rfl

set_option maxRecDepth 100000 in
set_option maxHeartbeats 2000000 in
theorem bar_moved_out (cs : Array Value) (l : List Bool) (r : Int) (w : World) (hb : BarC cs l) (hr : ¬ (0 ≤ r ∧ r < l.length)) :
    Calls Tryd.prog 52 #[.agg cs, .int .i64 r] w fun e w' => e = .returned (.tuple #[.agg zbar, .int .i64 2]) ∧ Below w.heap.size w w' := by
  obtain ⟨b1, b2, b3, b4⟩ := hb
  have hB0 := Whole.new w 68 cs
  have c0 := ((hB0.alloc (.cells zbar 68)).cell 0).trans b2
  have hzw := Whole.new (w.alloc (.cells cs 68)) 68 zbar
  have hbe := ((Below.refl w.heap.size w).alloc (Nat.le_refl _) (.cells cs 68)).alloc (by simp) (.cells zbar 68)
  have e1 : (w.alloc (.cells cs 68)).heap.size = w.heap.size + 1 := by simp
  have es := setRow_alloc (w.alloc (.cells cs 68)) zbar zbar 68
  rw [e1] at hzw es
  by_cases h0 : r < 0
  · go_enter Tryd.func52, Tryd.ntmps52
    go_wp2_with (refine wpList_storeB (by rfl) _ _ (by rfl) _ zbar (by rfl) (by rfl) _ zbar hzw rfl rfl zero_barC.all ?_; rw [es])
    try simp only [Exit.inBlock, Exit.then]
    refine ret_cellB rfl (g := w.heap.size + 1) (cs := zbar) rfl hzw rfl rfl ?_
    exact ⟨rfl, hbe⟩
  · have h1 : (l.length : Int) ≤ r := by omega
    go_enter Tryd.func52, Tryd.ntmps52
    go_wp2_with (refine wpList_storeB (by rfl) _ _ (by rfl) _ zbar (by rfl) (by rfl) _ zbar hzw rfl rfl zero_barC.all ?_; rw [es])
    try simp only [Exit.inBlock, Exit.then]
    refine ret_cellB rfl (g := w.heap.size + 1) (cs := zbar) rfl hzw rfl rfl ?_
    exact ⟨rfl, hbe⟩

set_option maxRecDepth 100000 in
set_option maxHeartbeats 2000000 in
theorem bar_moved_in (cs : Array Value) (l : List Bool) (r : Nat) (w : World) (hb : BarC cs l) (hr : r < l.length) :
    Calls Tryd.prog 52 #[.agg cs, .int .i64 r] w fun e w' => ∃ ds, e = .returned (.tuple #[.agg ds, .int .i64 (if can l r then 0 else 20)]) ∧ BarC ds (if can l r then flip l r else []) ∧ Below w.heap.size w w' := by
  have hb' := hb
  obtain ⟨b1, b2, b3, b4⟩ := hb
  have hB0 := (Whole.new w 68 cs).alloc (.cells zbar 68)
  have c0 := (hB0.cell 0).trans b2
  have hzw := Whole.new (w.alloc (.cells cs 68)) 68 zbar
  have hbe := ((Below.refl w.heap.size w).alloc (Nat.le_refl _) (.cells cs 68)).alloc (by simp) (.cells zbar 68)
  have e1 : (w.alloc (.cells cs 68)).heap.size = w.heap.size + 1 := by simp
  have e2 : ((w.alloc (.cells cs 68)).alloc (.cells zbar 68)).heap.size = w.heap.size + 2 := by simp
  rw [e1] at hzw
  have hr0 : (0 : Int) ≤ (r : Int) := by omega
  have hr1 : (r : Int) < l.length := by omega
  have hr2 : (r : Int) < 16 := by omega
  have hca := bar_act cs l r ((w.alloc (.cells cs 68)).alloc (.cells zbar 68)) hb' (by omega)
  have hz := zero_barC
  rcases Bool.eq_false_or_eq_true (can l r) with hc | hc
  · rcases Bool.eq_false_or_eq_true (bit l r) with hbit | hbit
    · have hV : actV l r = 2 := by rw [actV, hc, hbit]; rfl
      rw [hV] at hca
      have hF := hb'.flip hr (b := false) (by rw [hbit]; rfl)
      have hc := Lib.hid hc
      clear hV hbit
      go_enter Tryd.func52, Tryd.ntmps52
      go_wp2_with (refine wpList_loadB (by rfl) _ (by rfl) _ (by rfl) _ cs hB0 b1 ?_)
      refine hca.mono ?_; rintro e w1 ⟨rfl, b⟩
      have hB1 := hB0.below b (by omega)
      have hz1 := hzw.below b (by omega)
      have f1 := hB1.frozen (1 + r)
      have c1 := (hB1.cell (1 + r)).trans (b3 r (by omega))
      have hB2 := hB1.set_ (1 + r) (.bool false)
      have hz2 := hz1.far (p := ⟨w.heap.size, 1 + r, none⟩) (by simp) (.bool false)
      have hw := hbe.trans (b.mono (by omega))
      have hw2 := hw.setCell (p := ⟨w.heap.size, 1 + r, none⟩) (Nat.le_refl _) (.bool false)
      clear hca c0 hB0 hzw hbe hb'
      go_wp2_with (first | (refine wpList_loadB (by rfl) _ (by rfl) _ (by rfl) _ _ hB2 hF.1 ?_) | (refine wpList_storeB (by rfl) _ _ (by rfl) _ _ (by rfl) (by rfl) _ zbar hz2 rfl hF.1 hF.all ?_))
      try simp only [Exit.inBlock, Exit.then]
      refine ret_cellB rfl (g := w.heap.size + 1) rfl (hz2.setRow _) hF.1 rfl ?_
      exact ⟨_, rfl, hF, belowSetRow hw2 (by omega) _⟩
    · have hV : actV l r = 1 := by rw [actV, hc, hbit]; rfl
      rw [hV] at hca
      have hF := hb'.flip hr (b := true) (by rw [hbit]; rfl)
      have hc := Lib.hid hc
      clear hV hbit
      go_enter Tryd.func52, Tryd.ntmps52
      go_wp2_with (refine wpList_loadB (by rfl) _ (by rfl) _ (by rfl) _ cs hB0 b1 ?_)
      refine hca.mono ?_; rintro e w1 ⟨rfl, b⟩
      have hB1 := hB0.below b (by omega)
      have hz1 := hzw.below b (by omega)
      have f1 := hB1.frozen (1 + r)
      have c1 := (hB1.cell (1 + r)).trans (b3 r (by omega))
      have hB2 := hB1.set_ (1 + r) (.bool true)
      have hz2 := hz1.far (p := ⟨w.heap.size, 1 + r, none⟩) (by simp) (.bool true)
      have hw := hbe.trans (b.mono (by omega))
      have hw2 := hw.setCell (p := ⟨w.heap.size, 1 + r, none⟩) (Nat.le_refl _) (.bool true)
      clear hca c0 hB0 hzw hbe hb'
      go_wp2_with (first | (refine wpList_loadB (by rfl) _ (by rfl) _ (by rfl) _ _ hB2 hF.1 ?_) | (refine wpList_storeB (by rfl) _ _ (by rfl) _ _ (by rfl) (by rfl) _ zbar hz2 rfl hF.1 hF.all ?_))
      try simp only [Exit.inBlock, Exit.then]
      refine ret_cellB rfl (g := w.heap.size + 1) rfl (hz2.setRow _) hF.1 rfl ?_
      exact ⟨_, rfl, hF, belowSetRow hw2 (by omega) _⟩
  · have hV : actV l r = 0 := by rw [actV, hc]; rfl
    rw [hV] at hca
    have hc := Lib.hid hc
    clear hV
    go_enter Tryd.func52, Tryd.ntmps52
    go_wp2_with (refine wpList_loadB (by rfl) _ (by rfl) _ (by rfl) _ cs hB0 b1 ?_)
    refine hca.mono ?_; rintro e w1 ⟨rfl, b⟩
    have hz1 := hzw.below b (by omega)
    have hw := hbe.trans (b.mono (by omega))
    clear hca c0 hB0 hzw hbe hb'
    go_wp2_with (refine wpList_storeB (by rfl) _ _ (by rfl) _ zbar (by rfl) (by rfl) _ zbar hz1 rfl rfl zero_barC.all ?_)
    all_goals (try simp only [Exit.inBlock, Exit.then])
    all_goals refine ret_cellB rfl (g := w.heap.size + 1) (cs := zbar) rfl (hz1.setRow _) rfl rfl ?_
    all_goals exact ⟨_, rfl, hz, belowSetRow hw (by omega) _⟩

theorem bar_moved (cs : Array Value) (l : List Bool) (r : Int) (w : World) (hb : BarC cs l) :
    Calls Tryd.prog 52 #[.agg cs, .int .i64 r] w fun e w' => ∃ ds, e = .returned (.tuple #[.agg ds, .int .i64 (movE l r)]) ∧ BarC ds (movL l r) ∧ Below w.heap.size w w' := by
  by_cases h : 0 ≤ r ∧ r < l.length
  · obtain ⟨k, rfl⟩ := Int.eq_ofNat_of_zero_le h.1
    refine (bar_moved_in cs l k w hb (by omega)).mono ?_
    rintro e w' ⟨ds, h1, h2, h3⟩
    have e1 : movE l (k : Int) = if can l k then 0 else 20 := by rw [movE, if_pos h, Int.toNat_natCast]
    refine ⟨ds, by rw [h1, e1], ?_, h3⟩
    rw [movL, e1, Int.toNat_natCast]
    cases hc : can l k <;> rw [hc] at h2 <;> simpa using h2
  · refine (bar_moved_out cs l r w hb h).mono ?_
    rintro e w' ⟨h1, h3⟩
    have e1 : movE l r = 2 := by rw [movE, if_neg h]
    exact ⟨zbar, by rw [h1, e1], by rw [movL, e1]; exact zero_barC, h3⟩
end Go.Proofs.YtenlmjnejjdnnaaDoor
