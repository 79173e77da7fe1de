/- Walks: enough, firstMade, allGaps, commonDivisor, feathers. -/
import Derived.Test.YtjcoaicpeajpnaaPkW1
import Derived.Test.YtjcoaicpeajpnaaPkMem
namespace Go.Proofs.Ytjcoaicpeajpnaa
open Go.RowKit Pk

/-- What a call that makes a slice of numbers returns. -/
def GivesI (w w' : World) (e : Ending) (xs : List Int) : Prop := ∃ A c, e = .returned (.slice A xs.length c) ∧ Ints w' A xs.length xs ∧ Below w.heap.size w w'
def GivesN (w w' : World) (e : Ending) (n : Nat) (xs : List Nat) : Prop := ∃ A c, e = .returned (.slice A n c) ∧ Nats w' A n xs ∧ Below w.heap.size w w'

theorem NAt_map (f : Nat → Nat) (ps : List Nat) {k : Nat} (h : k < ps.length) : NAt (ps.map f) k = f (NAt ps k) := by
  simp [NAt, h]
theorem NAt_range (f : Nat → Nat) (n : Nat) {k : Nat} (h : k < n) : NAt ((List.range n).map f) k = f k := by
  simp [NAt, h]
theorem At_range (f : Nat → Int) (n : Nat) {k : Nat} (h : k < n) : At ((List.range n).map f) k = f k := by
  simp [At, h]

set_option maxHeartbeats 400000 in
theorem pk_enough (A : Option Addr) (n : Nat) (ps : List Nat) (ca : Nat) (m : Nat) (w : World) (hx : Nats w A n ps) (hp : ∀ s ∈ ps, 0 < s) (hl : n ≤ 1000) (hm : m ≤ 1000) :
    Calls Try.prog 66 #[.slice A n ca, .int .i64 m] w fun e w' => GivesN w w' e n (ps.map (m / ·)) := by
  have hmk := fun W => mkI (n : Int) n rfl (by omega) W
  go_enter Try.func66, Try.ntmps66
  go_wp2
  go_loopw [6, 7, 13] (fun _ _ i wr => ∃ k : Nat, k ≤ n ∧ i = .int .i64 k ∧ (∃ cs, Whole wr w.heap.size 3 cs ∧ Row cs n (fun j => if j < k then ((m / NAt ps j : Nat) : Int) else 0)) ∧ Below w.heap.size w wr) (fun _ _ i _ => n - (intOf i).toNat)
  case atStart => exact ⟨0, by omega, rfl, ⟨_, Whole.new _ _ _, (Row.zero n).congr fun x hx => by simp⟩, (Below.refl _ _).alloc (Nat.le_refl _) _⟩
  case round =>
    obtain ⟨k, hk, rfl, ⟨cs, hB, hR⟩, hw⟩ := hrel
    have HX := hx.below hw
    by_cases hlt : k < n
    · obtain ⟨b, off, rfl, hb, hc⟩ := HX.at_ hlt
      have hs := hp _ (NAt_mem (hx.len ▸ hlt))
      have hki : (0 : Int) ≤ (k : Int) := by omega
      have hkn : (k : Int) < n := by omega
      have c1 := (hB.cell k).trans (hR.2 k hlt)
      have c2 := hB.frozen k
      have q1 : (0 : Int) ≤ (m : Int) / (NAt ps k : Int) := Int.ediv_nonneg (by omega) (by omega)
      have q2 : (m : Int) / (NAt ps k : Int) ≤ 1000 := Int.le_trans (Int.ediv_le_self _ (by omega)) (by omega)
      go_wp2
      refine ⟨⟨k + 1, by omega, by go_num, ⟨_, hB.set_ k _, (hR.set_ hlt).congr fun j _ => ?_⟩, hw.setCell (Nat.le_refl _) _⟩, by simp [intOf]; omega⟩
      by_cases e : j = k
      · subst e; simp
      · by_cases h1 : j < k
        · rw [if_neg e, if_pos h1, if_pos (by omega)]
        · rw [if_neg e, if_neg h1, if_neg (by omega)]
    · obtain rfl : k = n := by omega
      go_wp2
      go_ret
      refine ⟨_, _, rfl, hB.nats (hR.congr fun j hj => ?_) (by rw [List.length_map, hx.len]), hw⟩
      rw [if_pos hj, NAt_map _ _ (by rw [hx.len]; exact hj)]

/-- The smallest number with a remainder that can be made. -/
def fmF (N : Nat) (ps : List Nat) (s r : Nat) : Int :=
  match (List.range N).find? (fun x => x % s == r && rB ps x) with
  | some x => (x : Int)
  | none => -1
theorem fmF_hit {N : Nat} {ps : List Nat} {s r x : Nat} (hx : x < N) (hm : x % s = r) (h : rB ps x = true) (hno : ∀ y, y < x → y % s = r → rB ps y = false) : fmF N ps s r = x := by
  have : (List.range N).find? (fun x => x % s == r && rB ps x) = some x := by
    rw [List.find?_range_eq_some]
    refine ⟨by simp [hm, h], List.mem_range.2 (by omega), fun j hj => ?_⟩
    by_cases e : j % s = r
    · simp [hno j hj e]
    · simp [e]
  rw [fmF, this]
theorem fmF_none {N : Nat} {ps : List Nat} {s r : Nat} (hno : ∀ y, y < N → y % s = r → rB ps y = false) : fmF N ps s r = -1 := by
  have : (List.range N).find? (fun x => x % s == r && rB ps x) = none := by
    rw [List.find?_eq_none]
    intro x hx
    have hx := List.mem_range.1 hx
    by_cases e : x % s = r
    · simp [hno x (by omega) e]
    · simp [e]
  rw [fmF, this]
def fm (ps : List Nat) (s r : Nat) : Int := fmF 1001 ps s r
theorem mod_gap {x y s r : Nat} (hx : x % s = r) (hy : y % s = r) (hlt : x < y) : x + s ≤ y := by
  have e1 := Nat.div_add_mod x s
  have e2 := Nat.div_add_mod y s
  have h : x / s < y / s := by
    rcases Nat.lt_or_ge (x / s) (y / s) with h | h
    · exact h
    · have := Nat.mul_le_mul_left s h
      omega
  have h2 := Nat.mul_le_mul_left s (show x / s + 1 ≤ y / s from h)
  rw [Nat.mul_add] at h2
  omega
theorem fm_step {ps : List Nat} {s r : Nat} {v : Int} (h : fmF 1001 ps s r = v) (j : Nat) : (if j = r then v else if j < r then fm ps s j else 0) = if j < r + 1 then fm ps s j else 0 := by
  by_cases e : j = r
  · subst e; rw [if_pos rfl, if_pos (by omega), ← h]; rfl
  · by_cases h1 : j < r
    · rw [if_neg e, if_pos h1, if_pos (by omega)]
    · rw [if_neg e, if_neg h1, if_neg (by omega)]
def fmL (ps : List Nat) (s : Nat) : List Int := (List.range s).map (fm ps s)

set_option maxRecDepth 100000 in
set_option maxHeartbeats 1000000 in
theorem pk_firstMade (A : Option Addr) (n : Nat) (ps : List Nat) (ca : Nat) (k : Nat) (w : World) (hx : Nats w A n ps) (hp : ∀ s ∈ ps, 0 < s) (hb : ∀ s ∈ ps, s ≤ 1000) (hl : n ≤ 1000) (hk : k < n) :
    Calls Try.prog 67 #[.slice A n ca, .int .i64 k] w fun e w' => GivesI w w' e (fmL ps (NAt ps k)) := by
  have hs0 := hp _ (NAt_mem (hx.len ▸ hk))
  have hs1 := hb _ (NAt_mem (hx.len ▸ hk))
  have hki : (0 : Int) ≤ (k : Int) := by omega
  have hkn : (k : Int) < n := by omega
  obtain ⟨b, off, rfl, hbl, hc⟩ := hx.at_ hk
  go_enter Try.func67, Try.ntmps67
  go_wp2
  go_step3
  go_wp2_with fail
  refine (makeable_any _ n ps ca w hx hp (by omega) hb).mono ?_
  rintro e w1 ⟨rfl, ⟨ct, hBt, hT⟩, hw1⟩
  have hc1 := (hw1.cell (p := ⟨b, off + k, none⟩) hbl).trans hc
  clear hc
  have hs : w.heap.size < w1.heap.size := hBt.lt
  generalize hgs : NAt ps k = s at *
  have HG := Lib.hid hgs; clear hgs
  have hmk := fun W => mkI (s : Int) s rfl (by omega) W
  go_wp2_with fail
  go_step3
  go_wp2_with fail
  go_loopw [8, 9, 20] (fun _ _ i wr => ∃ r : Nat, r ≤ s ∧ i = .int .i64 r ∧ (∃ cs, Whole wr w1.heap.size 3 cs ∧ Row cs s (fun j => if j < r then fm ps s j else 0)) ∧ Below w1.heap.size w1 wr) (fun _ _ i _ => s - (intOf i).toNat)
  case atStart => exact ⟨0, by omega, rfl, ⟨_, Whole.new _ _ _, (Row.zero s).congr fun x hx => by simp⟩, (Below.refl _ _).alloc (Nat.le_refl _) _⟩
  case round =>
    obtain ⟨r, hr, rfl, ⟨cs, hB, hR⟩, hw⟩ := hrel
    have HB := hBt.below hw hs
    by_cases hlt : r < s
    · have hri : (0 : Int) ≤ (r : Int) := by omega
      have hrn : (r : Int) < s := by omega
      have c1 := (hB.cell r).trans (hR.2 r hlt)
      have c2 := hB.frozen r
      go_wp2_with fail
      obtain ⟨wo, rfl⟩ : ∃ wo : World, wo = wr := ⟨_, rfl⟩
      go_loopw [9] (fun m wr => wo = wr ∧ ∃ x : Nat, r ≤ x ∧ x % s = r ∧ x ≤ 2000 ∧ m = .int .i64 x ∧ ∀ y, y < x → y % s = r → rB ps y = false) (fun m _ => 3000 - (intOf m).toNat)
      case atStart => exact ⟨rfl, r, Nat.le_refl _, Nat.mod_eq_of_lt hlt, by omega, rfl, fun y hy he => by rw [Nat.mod_eq_of_lt (by omega)] at he; omega⟩
      case round =>
        obtain ⟨rfl, x, hx1, hx2, hx3, rfl, hno⟩ := hrel
        have hx2 := Lib.hid hx2
        have hno := Lib.hid hno
        by_cases hx4 : x ≤ 1000
        · have hcall := pk_made w.heap.size ct (rB ps) x wo HB hT
          by_cases hm : rB ps x = true
          · have hbb : inTab (rB ps) (x : Int) = true := by simp [inTab, hm]; omega
            have he := Lib.hid (fmF_hit (N := 1001) (by omega) hx2.out hm hno.out)
            rw [hbb] at hcall
            clear hm hbb
            go_wp2_with fail
            refine hcall.mono ?_; rintro e w' ⟨rfl, rfl⟩
            go_wp2_with fail
            refine ⟨⟨r + 1, by omega, by go_num, ⟨_, hB.set_ r _, (hR.set_ hlt).congr fun j _ => fm_step (he.out) j⟩, hw.setCell (Nat.le_refl _) _⟩, by simp [intOf]; omega⟩
          · have hbb : inTab (rB ps) (x : Int) = false := by simp [inTab, hm]
            have hm' := Lib.hid (by simpa using hm : rB ps x = false)
            rw [hbb] at hcall
            clear hm hbb
            go_wp2_with fail
            refine hcall.mono ?_; rintro e w' ⟨rfl, rfl⟩
            go_wp2_with fail
            refine ⟨⟨trivial, x + s, by omega, by rw [Nat.add_mod_right]; exact hx2.out, by omega, by go_num, fun y hy he => ?_⟩, by simp [intOf]; omega⟩
            by_cases h1 : y < x
            · exact hno.out y h1 he
            · by_cases h2 : y = x
              · rw [h2]; exact hm'.out
              · exfalso
                have := mod_gap hx2.out he (by omega)
                omega
        · have he := Lib.hid (fmF_none (N := 1001) (ps := ps) (s := s) (r := r) (fun y hy he => hno.out y (by omega) he))
          go_wp2_with fail
          refine ⟨⟨r + 1, by omega, by go_num, ⟨_, hB.set_ r _, (hR.set_ hlt).congr fun j _ => fm_step (he.out) j⟩, hw.setCell (Nat.le_refl _) _⟩, by simp [intOf]; omega⟩
    · obtain rfl : r = s := by omega
      go_wp2_with fail
      rw [Exit.noGoto_ret]
      go_ret
      have e := HG.out
      have el : (fmL ps r).length = r := by simp [fmL]
      unfold GivesI
      rw [e, el]
      refine ⟨_, _, rfl, ?_, hw1.trans (hw.mono (by omega))⟩
      exact hB.ints (hR.congr fun j hj => by rw [if_pos hj, fmL, At_range _ _ hj]) (by simp [fmL])
end Go.Proofs.Ytjcoaicpeajpnaa
