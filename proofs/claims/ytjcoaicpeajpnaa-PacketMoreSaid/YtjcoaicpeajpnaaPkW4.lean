/- Walks: countWith, countFillings, fillable. -/
import Derived.Test.YtjcoaicpeajpnaaPkW2
import Derived.Deep.RegionHeld3
namespace Go.Proofs.Ytjcoaicpeajpnaa
open Go.RowKit Pk

theorem cw_step {k j : Nat} {f : Nat → Nat} {a b c : Int} (h : a = f k) : (if j = k then a else if j = k then b else if j = k then c else if j < k then (f j : Int) else 0) = if j < k + 1 then (f j : Int) else 0 := by
  by_cases e : j = k
  · subst e; rw [if_pos rfl, if_pos (by omega), h]
  · rw [if_neg e, if_neg e, if_neg e]
    by_cases h1 : j < k
    · rw [if_pos h1, if_pos (by omega)]
    · rw [if_neg h1, if_neg (by omega)]
theorem cw_step2 {k j : Nat} {f : Nat → Nat} {a b : Int} (h : a = f k) : (if j = k then a else if j = k then b else if j < k then (f j : Int) else 0) = if j < k + 1 then (f j : Int) else 0 := by
  have := cw_step (j := j) (b := b) (c := b) h
  by_cases e : j = k
  · subst e; simpa using this
  · simpa [e] using this
theorem cw_step1 {k j : Nat} {f : Nat → Nat} {a : Int} (h : a = f k) : (if j = k then a else if j < k then (f j : Int) else 0) = if j < k + 1 then (f j : Int) else 0 := by
  have := cw_step (j := j) (b := 0) (c := 0) h
  by_cases e : j = k
  · subst e; simpa using this
  · simpa [e] using this
set_option maxRecDepth 100000 in
set_option maxHeartbeats 2000000 in
theorem pk_countWith (A : Option Addr) (n : Nat) (r : List (Nat × Nat)) (s c ca : Nat) (w : World) (hx : Nats w A n ((List.range n).map (nw r))) (hs : 0 < s) (hs' : s ≤ 1000) (hc : c ≤ 1001)
    (hl : n ≤ 100000) (hB : prod1 ((s, c) :: r) ≤ 1100000000000000) :
    Calls Try.prog 94 #[.slice A n ca, .int .i64 s, .int .i64 c] w fun e w' => GivesN w w' e n ((List.range n).map (nw ((s, c) :: r))) := by
  have hmk := fun W => mkI (n : Int) n rfl (by omega) W
  have hp1 : prod1 r ≤ 1100000000000000 := by
    have : prod1 ((s, c) :: r) = (c + 1) * prod1 r := rfl
    have := Nat.le_mul_of_pos_left (prod1 r) (show 0 < c + 1 by omega)
    omega
  have hw1 := fun j => Nat.le_trans (nw_le ((s, c) :: r) j) hB
  have hw0 := fun j => Nat.le_trans (nw_le r j) hp1
  have hw1 := Lib.hid hw1
  have hw0 := Lib.hid hw0
  have ht : (c + 1) * s ≤ 1002000 := Nat.mul_le_mul (show c + 1 ≤ 1002 by omega) hs'
  have ht2 : s ≤ (c + 1) * s := Nat.le_mul_of_pos_left s (by omega)
  have e1 : (((c : Int) + 1) * (s : Int)) = (((c + 1) * s : Nat) : Int) := by simp
  have E1 := Lib.hid e1
  have ht3 : ((c : Int) + 1) * (s : Int) ≤ 1002000 := by rw [e1]; omega
  have ht4 : (0 : Int) ≤ ((c : Int) + 1) * (s : Int) := by rw [e1]; omega
  clear e1
  have hst := Lib.hid (fun j => nw_step s c r j)
  go_enter Try.func94, Try.ntmps94
  go_wp2_with fail
  rw [E1.out]
  generalize htm : (c + 1) * s = tm at *
  have HT := Lib.hid htm; clear htm
  go_loopw [9, 19] (fun _ i wr => ∃ k : Nat, k ≤ n ∧ i = .int .i64 k ∧ (∃ cs, Whole wr w.heap.size 3 cs ∧ Row cs n (fun j => if j < k then (nw ((s, c) :: r) j : Int) else 0)) ∧ Below w.heap.size w wr) (fun _ i _ => n - (intOf i).toNat)
  case atStart => exact ⟨0, by omega, rfl, ⟨_, Whole.new _ _ _, (Row.zero n).congr fun x hx => by simp⟩, (Below.refl _ _).alloc (Nat.le_refl _) _⟩
  case round =>
    obtain ⟨k, hk, rfl, ⟨cs, hBk, hR⟩, hw⟩ := hrel
    by_cases hlt : k < n
    · obtain ⟨b, off, e, hb, hcl⟩ := hx.at_ hlt
      have hcl := (hw.cell (p := ⟨b, off + k, none⟩) hb).trans hcl
      rw [NAt_range _ _ hlt] at hcl
      subst e
      have hne : b ≠ w.heap.size := by omega
      have hki : (0 : Int) ≤ (k : Int) := by omega
      have hkn : (k : Int) < n := by omega
      have c1 := (hBk.cell k).trans (hR.2 k hlt)
      have c2 := hBk.frozen k
      have b1 := hw1.out k
      have b0 := hw0.out k
      have hst' := Lib.hid (hst.out k)
      by_cases h1 : s ≤ k
      · have b2 := hw1.out (k - s)
        have c3 := (hBk.cell (k - s)).trans (hR.2 (k - s) (by omega))
        simp only [if_pos (show k - s < k by omega)] at c3
        have hkk : (k : Int) - s < n := by omega
        have hkk2 : (0 : Int) ≤ (k : Int) - s := by omega
        by_cases h2 : tm ≤ k
        · have b3 := hw0.out (k - tm)
          obtain ⟨b', off', e', hb', hcl'⟩ := hx.at_ (k := k - tm) (by omega)
          cases e'
          have hcl' := (hw.cell (p := ⟨b, off + (k - tm), none⟩) hb).trans hcl'
          rw [NAt_range _ _ (by omega)] at hcl'
          have hkt : (k : Int) - tm < n := by omega
          have hkt2 : (0 : Int) ≤ (k : Int) - tm := by omega
          go_wp2_with fail
          go_region
          go_wp2_with fail
          go_region
          go_wp2_with fail
          refine ⟨⟨k + 1, by omega, by go_num, ⟨_, (((hBk.set_ k _).set_ k _).drewN 1).set_ k _, (((hR.set_ hlt).set_ hlt).set_ hlt).congr fun j _ => cw_step ?_⟩, ?_⟩, by simp [intOf]; omega⟩
          · have := hst'.out
            rw [if_pos h1, if_pos h2] at this
            omega
          · exact ((((hw.setCell (Nat.le_refl _) _).setCell (Nat.le_refl _) _).drew).setCell (Nat.le_refl _) _).drew
        · go_wp2_with fail
          go_region
          go_wp2_with fail
          refine ⟨⟨k + 1, by omega, by go_num, ⟨_, ((hBk.set_ k _).set_ k _).drewN 1, ((hR.set_ hlt).set_ hlt).congr fun j _ => cw_step2 ?_⟩, ?_⟩, by simp [intOf]; omega⟩
          · have := hst'.out
            rw [if_pos h1, if_neg h2] at this
            omega
          · exact ((hw.setCell (Nat.le_refl _) _).setCell (Nat.le_refl _) _).drew
      · have h2 : ¬ tm ≤ k := by omega
        go_wp2_with fail
        refine ⟨⟨k + 1, by omega, by go_num, ⟨_, hBk.set_ k _, (hR.set_ hlt).congr fun j _ => cw_step1 ?_⟩, hw.setCell (Nat.le_refl _) _⟩, by simp [intOf]; omega⟩
        have := hst'.out
        rw [if_neg h1, if_neg h2] at this
        omega
    · obtain rfl : k = n := by omega
      go_wp2_with fail
      go_ret
      refine ⟨_, _, rfl, hBk.nats (hR.congr fun j hj => ?_) (by simp), hw⟩
      rw [if_pos hj, NAt_range _ _ hj]
/-- The first k kinds with their stock, the last one first. -/
def zp (ps cs : List Nat) : Nat → List (Nat × Nat)
  | 0 => []
  | k + 1 => (NAt ps k, NAt cs k) :: zp ps cs k
theorem zp_prod {ps cs : List Nat} (hc : ∀ c ∈ cs, c ≤ 1001) (k : Nat) : prod1 (zp ps cs k) ≤ 1002 ^ k := by
  induction k with
  | zero => simp [zp, prod1]
  | succ k ih =>
    have h : NAt cs k ≤ 1001 := by
      rcases Nat.lt_or_ge k cs.length with hk | hk
      · exact hc _ (NAt_mem hk)
      · rw [NAt, List.getElem?_eq_none hk]; exact Nat.zero_le _
    simp only [zp, prod1, Nat.pow_succ]
    rw [Nat.mul_comm]
    exact Nat.mul_le_mul ih (by omega)
theorem zp_prod5 {ps cs : List Nat} (hc : ∀ c ∈ cs, c ≤ 1001) {k n : Nat} (hk : k ≤ n) (h5 : n ≤ 5) : prod1 (zp ps cs k) ≤ 1100000000000000 :=
  Nat.le_trans (zp_prod hc k) (Nat.le_trans (Nat.pow_le_pow_right (by omega) (show k ≤ 5 by omega)) (by decide))

set_option maxRecDepth 100000 in
set_option maxHeartbeats 2000000 in
theorem pk_countFillings (A B : Option Addr) (n : Nat) (ps cs : List Nat) (ca cb last : Nat) (w : World) (hx : Nats w A n ps) (hy : Nats w B n cs) (hp : ∀ s ∈ ps, 0 < s ∧ s ≤ 1000) (hc : ∀ c ∈ cs, c ≤ 1001)
    (hl : n ≤ 5) (hl' : last ≤ 2000) :
    Calls Try.prog 78 #[.slice A n ca, .slice B n cb, .int .i64 last] w fun e w' => GivesN w w' e (last + 1) ((List.range (last + 1)).map (nw (zp ps cs n))) := by
  have hmk := fun W => mkI ((last : Int) + 1) (last + 1) (by omega) (by omega) W
  have h01 : (0 : Int) < (last : Int) + 1 := by omega
  have h0 := (Whole.new w 3 (Array.replicate (last + 1) (Value.int .i64 0))).frozen 0
  have h00 := (Whole.new w 3 (Array.replicate (last + 1) (Value.int .i64 0))).cell 0
  go_enter Try.func78, Try.ntmps78
  go_wp2_with fail
  go_loopw [7, 8, 9, 17] (fun v _ _ i wr => ∃ k A' c', k ≤ n ∧ i = .int .i64 (k : Nat) ∧ v = .slice A' (last + 1) c' ∧ Nats wr A' (last + 1) ((List.range (last + 1)).map (nw (zp ps cs k))) ∧ Below w.heap.size w wr) (fun _ _ _ i _ => n - (intOf i).toNat)
  case atStart =>
    refine ⟨0, _, _, by omega, rfl, rfl, (Whole.new _ _ _).nats (((Row.zero (last + 1)).set_ (i := 0) (b := 1) (by omega)).congr fun j hj => ?_) (by simp), (Below.refl _ _).alloc (Nat.le_refl _) _⟩
    rw [NAt_range _ _ hj]
    by_cases e : j = 0
    · subst e; simp [zp, nw]
    · simp [zp, nw, e]
  case round =>
    obtain ⟨k, A', c', hk, rfl, rfl, hN, hw⟩ := hrel
    by_cases hlt : k < n
    · obtain ⟨b, off, rfl, hb, hcl⟩ := (hx.below hw).at_ hlt
      obtain ⟨b', off', rfl, hb', hcl'⟩ := (hy.below hw).at_ hlt
      have hs := hp _ (NAt_mem (hx.len ▸ hlt))
      have hcc := hc _ (NAt_mem (hy.len ▸ hlt))
      have hki : (0 : Int) ≤ (k : Int) := by omega
      have hkn : (k : Int) < n := by omega
      have hpr := zp_prod5 (ps := ps) hc (show k + 1 ≤ n by omega) hl
      go_wp2_with fail
      refine (pk_countWith A' (last + 1) (zp ps cs k) (NAt ps k) (NAt cs k) c' _ hN hs.1 hs.2 hcc (by omega) hpr).mono ?_
      rintro e w1 ⟨A1, c1, rfl, hN1, hw1⟩
      go_wp2_with fail
      exact ⟨⟨k + 1, _, _, by omega, by go_num, rfl, hN1, hw.trans (hw1.mono hw.size)⟩, by simp [intOf]; omega⟩
    · obtain rfl : k = n := by omega
      go_wp2_with fail
      go_ret
      exact ⟨_, _, rfl, hN, hw⟩
/-- What fillable's closure holds: a bound, and a table. -/
def Filler (w : World) (g1 g2 last : Nat) (l : List (Nat × Nat)) : Prop :=
  ∃ A c, g1 < w.heap.size ∧ g2 < w.heap.size ∧ w.cell? ⟨g1, 0, none⟩ = some (.int .i64 last) ∧ w.cell? ⟨g2, 0, none⟩ = some (.slice A (last + 1) c) ∧ Nats w A (last + 1) ((List.range (last + 1)).map (nw l))
theorem Filler.below {w w' : World} {g1 g2 last : Nat} {l : List (Nat × Nat)} (h : Filler w g1 g2 last l) (hb : Below w.heap.size w w') : Filler w' g1 g2 last l := by
  obtain ⟨A, c, h1, h2, h3, h4, h5⟩ := h
  exact ⟨A, c, Nat.lt_of_lt_of_le h1 hb.size, Nat.lt_of_lt_of_le h2 hb.size, (hb.cell (p := ⟨g1, 0, none⟩) h1).trans h3, (hb.cell (p := ⟨g2, 0, none⟩) h2).trans h4, h5.below hb⟩

set_option maxRecDepth 100000 in
set_option maxHeartbeats 2000000 in
theorem pk_fillable (A B : Option Addr) (n : Nat) (ps cs : List Nat) (ca cb last : Nat) (w : World) (hx : Nats w A n ps) (hy : Nats w B n cs) (hp : ∀ s ∈ ps, 0 < s ∧ s ≤ 1000) (hc : ∀ c ∈ cs, c ≤ 1001)
    (hl : n ≤ 5) (hl' : last ≤ 2000) :
    Calls Try.prog 81 #[.slice A n ca, .slice B n cb, .int .i64 last] w fun e w' =>
      ∃ g1 g2, e = .returned (.func (.func 95) #[] #[.pointer (some ⟨g1, 0, none⟩), .pointer (some ⟨g2, 0, none⟩)]) ∧ Filler w' g1 g2 last (zp ps cs n) ∧ Below w.heap.size w w' := by
  have hw0 : Below w.heap.size w (w.alloc (.cells #[.int .i64 last] 3)) := (Below.refl _ _).alloc (Nat.le_refl _) _
  go_enter Try.func81, Try.ntmps81
  go_wp2_with fail
  refine (pk_countFillings A B n ps cs ca cb last _ (hx.below hw0) (hy.below hw0) hp hc hl hl').mono ?_
  rintro e w1 ⟨A1, c1, rfl, hN, hw1⟩
  have hsz : w.heap.size < w1.heap.size := by have := hw1.size; simp at this; omega
  have hc1 := (hw1.cell (p := ⟨w.heap.size, 0, none⟩) (by simp)).trans ((Whole.new w 3 #[Value.int .i64 last]).cell 0)
  go_wp2_with fail
  go_ret
  refine ⟨_, _, rfl, ⟨A1, c1, ?_, ?_, ?_, ?_, hN.below ((Below.refl _ _).alloc (Nat.le_refl _) _)⟩, (hw0.trans (hw1.mono (by simp))).alloc (by omega) _⟩
  · simp; omega
  · simp
  · rw [World.cell?_alloc_past _ _ _ hsz]; exact hc1
  · exact (Whole.new w1 22 #[Value.slice A1 (last + 1) c1]).cell 0

/-- The closure of fillable. -/
def inWays (last : Nat) (l : List (Nat × Nat)) (n : Int) : Bool := decide (0 ≤ n) && decide (n ≤ last) && decide (0 < nw l n.toNat)
set_option maxRecDepth 100000 in
set_option maxHeartbeats 400000 in
theorem pk_filled (g1 g2 last : Nat) (l : List (Nat × Nat)) (n : Int) (w : World) (hF : Filler w g1 g2 last l) (_hl : last ≤ 2000) :
    Calls Try.prog 95 #[.int .i64 n, .pointer (some ⟨g1, 0, none⟩), .pointer (some ⟨g2, 0, none⟩)] w fun e w' => e = .returned (.bool (inWays last l n)) ∧ ∃ j, w' = w.drewN j := by
  obtain ⟨A, c, h1, h2, h3, h4, h5⟩ := hF
  by_cases k1 : 0 ≤ n
  · obtain ⟨n, rfl⟩ := Int.eq_ofNat_of_zero_le k1
    by_cases k2 : n ≤ last
    · obtain ⟨b, off, rfl, hb, hc⟩ := h5.at_ (k := n) (by omega)
      rw [NAt_range _ _ (by omega)] at hc
      have k3 : (n : Int) < (last : Int) + 1 := by omega
      go_enter Try.func95, Try.ntmps95
      go_wp2
      go_ret
      exact ⟨ret_bool (by simp [inWays]; omega), 0, rfl⟩
    · have k3 : ¬ (n : Int) ≤ last := by omega
      go_enter Try.func95, Try.ntmps95
      go_wp2
      go_ret
      exact ⟨ret_bool (by simp [inWays]; omega), 0, rfl⟩
  · go_enter Try.func95, Try.ntmps95
    go_wp2
    go_ret
    exact ⟨ret_bool (by simp [inWays]; omega), 0, rfl⟩
end Go.Proofs.Ytjcoaicpeajpnaa
