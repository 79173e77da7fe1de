/- Walks: allGaps, commonDivisor, feathers. -/
import Derived.Test.YtjcoaicpeajpnaaPkW2
import Derived.Deep.RegionHeld3
namespace Go.Proofs.Ytjcoaicpeajpnaa
open Go.RowKit Pk

def gapL (ps : List Nat) (N : Nat) : List Int := ((List.range N).filter (fun x => !rB ps x)).map Int.ofNat
theorem gapL_hit {ps : List Nat} {x : Nat} (h : rB ps x = false) : gapL ps (x + 1) = gapL ps x ++ [Int.ofNat x] := by
  simp [gapL, List.range_succ, List.filter_append, h]
theorem gapL_miss {ps : List Nat} {x : Nat} (h : rB ps x = true) : gapL ps (x + 1) = gapL ps x := by
  simp [gapL, List.range_succ, List.filter_append, h]
theorem gapL_len (ps : List Nat) (x : Nat) : (gapL ps x).length ≤ x := by
  rw [gapL, List.length_map]
  exact Nat.le_trans (List.length_filter_le _ _) (by simp)

set_option maxRecDepth 100000 in
set_option maxHeartbeats 1000000 in
theorem pk_allGaps (A : Option Addr) (n : Nat) (ps : List Nat) (ca : Nat) (w : World) (hx : Nats w A n ps) (hp : ∀ s ∈ ps, 0 < s) (hb : ∀ s ∈ ps, s ≤ 1000) (hl : n ≤ 1000) :
    Calls Try.prog 72 #[.slice A n ca] w fun e w' => GivesI w w' e (gapL ps 1001) := by
  go_enter Try.func72, Try.ntmps72
  go_wp2_with fail
  refine (makeable_any A n ps ca w hx hp (by omega) hb).mono ?_
  rintro e w1 ⟨rfl, ⟨ct, hBt, hT⟩, hw1⟩
  have hs : w.heap.size < w1.heap.size := hBt.lt
  go_wp2_with fail
  go_loopw [4, 5, 8] (fun v _ i wr => ∃ x : Nat, x ≤ 1001 ∧ i = .int .i64 x ∧ OwnI wr w1.heap.size v (gapL ps x) ∧ Below w1.heap.size w1 wr) (fun _ _ i _ => 1001 - (intOf i).toNat)
  case atStart => exact ⟨0, by omega, rfl, OwnI.nil_ _ _, Below.refl _ _⟩
  case round =>
    obtain ⟨x, hx1, rfl, hown, hw⟩ := hrel
    have HB := hBt.below hw hs
    have hsz := hw.size
    have hgl := gapL_len ps x
    by_cases hlt : x ≤ 1000
    · have hcall := pk_made w.heap.size ct (rB ps) x wr HB hT
      have hi : (x : Int) < 1001 := by omega
      by_cases hm : rB ps x = true
      · have hbb : inTab (rB ps) (x : Int) = true := by simp [inTab, hm]; omega
        have he := Lib.hid (gapL_miss hm)
        rw [hbb] at hcall
        clear hm hbb
        go_wp2_with fail
        refine hcall.mono ?_; rintro e w' ⟨rfl, rfl⟩
        go_wp2_with fail
        exact ⟨⟨x + 1, by omega, by go_num, by rw [he.out]; exact hown, hw⟩, by simp [intOf]; omega⟩
      · have hbb : inTab (rB ps) (x : Int) = false := by simp [inTab, hm]
        have he := Lib.hid (gapL_hit (by simpa using hm : rB ps x = false))
        rw [hbb] at hcall
        clear hm hbb
        go_wp2_with fail
        refine hcall.mono ?_; rintro e w' ⟨rfl, rfl⟩
        go_wp2_with (at_builtin; refine wpList_appI rfl _ _ rfl w1.heap.size _ (gapL ps x) x (by rfl) hown hsz (by omega) (by rfl) ?_; intro v' w' hown' hb')
        exact ⟨⟨x + 1, by omega, by go_num, by rw [he.out]; exact hown', hb' _ hw⟩, by simp [intOf]; omega⟩
    · obtain rfl : x = 1001 := by omega
      have hi : ((1001 : Nat) : Int) < 1001 → False := by omega
      obtain ⟨A', c', rfl, hI⟩ := hown.form
      go_wp2_with fail
      go_ret
      exact ⟨_, _, rfl, hI, hw1.trans (hw.mono (by omega))⟩

def G (ps : List Nat) : Nat := ps.foldl Nat.gcd 0
theorem G_snoc (ps : List Nat) (s : Nat) : G (ps ++ [s]) = Nat.gcd (G ps) s := by simp [G]
theorem gcd_step {d z : Nat} : Nat.gcd z (d % z) = Nat.gcd d z := by rw [Nat.gcd_comm z, ← Nat.gcd_rec, Nat.gcd_comm]

theorem gcd_le_of_mem {ps : List Nat} {B : Nat} (hb : ∀ s ∈ ps, 0 < s ∧ s ≤ B) : ∀ a, a ≤ B → ps.foldl Nat.gcd a ≤ B := by
  induction ps with
  | nil => intro a h; exact h
  | cons s r ih =>
    intro a _
    have hs := hb s (by simp)
    exact ih (fun x hx => hb x (by simp [hx])) _ (Nat.le_trans (Nat.gcd_le_right a hs.1) hs.2)

set_option maxHeartbeats 1000000 in
theorem pk_commonDivisor (A : Option Addr) (n : Nat) (ps : List Nat) (ca : Nat) (w : World) (hx : Nats w A n ps) (hp : ∀ s ∈ ps, 0 < s ∧ s ≤ 1000) (hl : n ≤ 1000) :
    Calls Try.prog 71 #[.slice A n ca] w fun e w' => e = .returned (.int .i64 (G ps)) ∧ ∃ j, w' = w.drewN j := by
  go_enter Try.func71, Try.ntmps71
  go_wp2_with fail
  go_loopw [3, 5, 8] (fun d _ i wr => ∃ k j : Nat, k ≤ n ∧ i = .int .i64 k ∧ d = .int .i64 (G (ps.take k)) ∧ wr = w.drewN j) (fun _ _ i _ => n - (intOf i).toNat)
  case atStart => exact ⟨0, 0, by omega, rfl, rfl, rfl⟩
  case round =>
    obtain ⟨k, j, hk, rfl, rfl, rfl⟩ := hrel
    by_cases hlt : k < n
    · obtain ⟨b, off, rfl, hb, hc⟩ := hx.at_ hlt
      have hs := hp _ (NAt_mem (hx.len ▸ hlt))
      have hg : G (ps.take k) ≤ 1000 := gcd_le_of_mem (fun x h => hp x (List.mem_of_mem_take h)) 0 (by omega)
      have hts := Lib.hid (take_snoc ps (k := k) (hx.len ▸ hlt))
      have hki : (0 : Int) ≤ (k : Int) := by omega
      have hkn : (k : Int) < n := by omega
      generalize hd0 : G (ps.take k) = d0 at *
      generalize NAt ps k = z0 at *
      have HD := Lib.hid hd0; clear hd0
      go_wp2_with fail
      go_loopw [3, 5] (fun d z wr => ∃ d' z' j : Nat, d = .int .i64 d' ∧ z = .int .i64 z' ∧ d' ≤ 1000 ∧ z' ≤ 1000 ∧ wr = w.drewN j ∧ Hid (Nat.gcd d' z' = Nat.gcd d0 z0)) (fun _ z _ => (intOf z).toNat)
      case atStart => exact ⟨d0, z0, j, rfl, rfl, hg, hs.2, rfl, rfl⟩
      case round =>
        obtain ⟨d', z', j', rfl, rfl, h1, h2, rfl, hgz⟩ := hrel
        by_cases hz : z' = 0
        · subst hz
          have hb0 : (((0 : Nat) : Int) != 0) = false := rfl
          go_wp2_with fail
          refine ⟨⟨k + 1, _, by omega, by go_num, ?_, rfl⟩, by simp [intOf]; omega⟩
          have := hgz.out
          rw [Nat.gcd_zero_right] at this
          rw [hts.out, G_snoc, HD.out, ← this]
        · have hb0 : ((z' : Int) != 0) = true := by simp; omega
          have hz1 : (1 : Int) ≤ (z' : Int) := by omega
          have hd1 : (0 : Int) ≤ (d' : Int) := by omega
          have hm : d' % z' < z' := Nat.mod_lt _ (by omega)
          go_wp2_with fail
          go_region
          all_goals go_wp2_with fail
          all_goals exact ⟨⟨z', d' % z', _, rfl, by go_num, by omega, by omega, drew1 _ _, gcd_step.trans hgz.out⟩, by simp [intOf]; omega⟩
    · obtain rfl : k = n := by omega
      go_wp2_with fail
      go_ret
      exact ⟨ret_int (by rw [List.take_of_length_le (by rw [hx.len]; exact Nat.le_refl _)]), _, rfl⟩

/-- How many feathers the first k kinds have. -/
def dotTo (ps cs : List Nat) : Nat → Nat
  | 0 => 0
  | k + 1 => dotTo ps cs k + NAt ps k * NAt cs k
theorem NAt_le {ps : List Nat} {B : Nat} (h : ∀ s ∈ ps, s ≤ B) (k : Nat) : NAt ps k ≤ B := by
  rcases Nat.lt_or_ge k ps.length with hk | hk
  · exact h _ (NAt_mem hk)
  · rw [NAt, List.getElem?_eq_none hk]; exact Nat.zero_le _
theorem dotTo_le {ps cs : List Nat} (hp : ∀ s ∈ ps, s ≤ 1000) (hc : ∀ s ∈ cs, s ≤ 1000) (k : Nat) : dotTo ps cs k ≤ k * 1000000 := by
  induction k with
  | zero => simp [dotTo]
  | succ k ih =>
    have := Nat.mul_le_mul (NAt_le hp k) (NAt_le hc k)
    simp only [dotTo]; omega

set_option maxHeartbeats 1000000 in
theorem pk_feathers (A B : Option Addr) (n : Nat) (ps cs : List Nat) (ca cb : Nat) (w : World) (hx : Nats w A n ps) (hy : Nats w B n cs) (hp : ∀ s ∈ ps, s ≤ 1000) (hc : ∀ s ∈ cs, s ≤ 1000) (hl : n ≤ 1000) :
    Calls Try.prog 77 #[.slice A n ca, .slice B n cb] w fun e w' => e = .returned (.int .i64 (dotTo ps cs n)) ∧ w = w' := by
  go_enter Try.func77, Try.ntmps77
  go_wp2_with fail
  go_loop [5, 10] (fun d i => ∃ k : Nat, k ≤ n ∧ i = .int .i64 k ∧ d = .int .i64 (dotTo ps cs k)) (fun _ i => n - (intOf i).toNat)
  case atStart => exact ⟨0, by omega, rfl, rfl⟩
  case round =>
    obtain ⟨k, hk, rfl, rfl⟩ := hrel
    by_cases hlt : k < n
    · obtain ⟨b, off, rfl, hb, hcl⟩ := hx.at_ hlt
      obtain ⟨b', off', rfl, hb', hcl'⟩ := hy.at_ hlt
      have hki : (0 : Int) ≤ (k : Int) := by omega
      have hkn : (k : Int) < n := by omega
      have h1 := dotTo_le hp hc k
      have h2 := Nat.mul_le_mul (NAt_le hp k) (NAt_le hc k)
      have h3 : (NAt ps k : Int) * (NAt cs k : Int) ≤ 1000000 := by rw [← Int.natCast_mul]; omega
      have h4 : (0 : Int) ≤ (NAt ps k : Int) * (NAt cs k : Int) := by rw [← Int.natCast_mul]; omega
      go_wp2_with fail
      go_round
      case rel => exact ⟨k + 1, by omega, by go_num, by simp [dotTo]⟩
      case measure => simp [intOf]; omega
    · obtain rfl : k = n := by omega
      go_wp2_with fail
      go_ret
      exact ⟨rfl, rfl⟩
end Go.Proofs.Ytjcoaicpeajpnaa
