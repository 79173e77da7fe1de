/- Walks of the law's own helpers: slices.Max, slices.IndexFunc, slices.ContainsFunc, common. -/
import Derived.Test.YtjcoaicpeajpnaaLwReach
import Derived.Test.YtjcoaicpeajpnaaPkW3
namespace Go.Proofs.Ytjcoaicpeajpnaa
open Go.RowKit Pk

/-- The greatest of the first k numbers, the first one at least. -/
def mxTo (ps : List Nat) : Nat → Nat
  | 0 => NAt ps 0
  | k + 1 => max (mxTo ps k) (NAt ps k)
theorem mxTo_one (ps : List Nat) : mxTo ps 1 = NAt ps 0 := by simp [mxTo]
theorem mxTo_le {ps : List Nat} {B : Nat} (h : ∀ s ∈ ps, s ≤ B) : ∀ k, mxTo ps k ≤ B
  | 0 => NAt_le h 0
  | k + 1 => by rw [mxTo]; exact Nat.max_le.2 ⟨mxTo_le h k, NAt_le h k⟩
theorem mxTo_ge {ps : List Nat} : ∀ {k j : Nat}, j < k → NAt ps j ≤ mxTo ps k
  | 0, _, h => by omega
  | k + 1, j, h => by
    rw [mxTo]
    by_cases e : j = k
    · subst e; exact Nat.le_max_right _ _
    · exact Nat.le_trans (mxTo_ge (by omega)) (Nat.le_max_left _ _)

set_option maxRecDepth 100000 in
set_option maxHeartbeats 1000000 in
theorem sl_Max (A : Option Addr) (n : Nat) (ps : List Nat) (ca : Nat) (w : World) (hx : Nats w A n ps) (h1 : 1 ≤ n) (hl : n ≤ 1000000) (hB : ∀ s ∈ ps, s ≤ 1000000) :
    Calls Try.prog 83 #[.slice A n ca] w fun e w' => e = .returned (.int .i64 (mxTo ps n)) ∧ w' = w := by
  obtain ⟨b, off, rfl, hb, hcl⟩ := hx.at_ (k := 0) (by omega)
  rw [Nat.add_zero] at hcl
  have z1 : (1 : Int) ≤ (n : Int) := by omega
  have z2 : (0 : Int) < (n : Int) := by omega
  have z3 : ¬ (n : Int) < 1 := by omega
  have hone := mxTo_one ps
  go_enter Try.func83, Try.ntmps83
  go_wp2_with fail
  go_loopw [3, 4] (fun v i wr => ∃ k : Nat, 1 ≤ k ∧ k ≤ n ∧ i = .int .i64 k ∧ v = .int .i64 (mxTo ps k) ∧ wr = w) (fun _ i _ => n - (intOf i).toNat)
  case atStart => exact ⟨1, by omega, by omega, rfl, by rw [hone], rfl⟩
  case round =>
    obtain ⟨k, hk1, hk, rfl, rfl, rfl⟩ := hrel
    by_cases hlt : k < n
    · obtain ⟨b', off', e, hb', hc'⟩ := hx.at_ hlt
      cases e
      have hi0 : (0 : Int) ≤ (k : Int) := by omega
      have hi1 : (k : Int) < n := by omega
      have hm1 := mxTo_le hB k
      have hm2 := NAt_le hB k
      have hst := Lib.hid (show mxTo ps (k + 1) = max (mxTo ps k) (NAt ps k) from rfl)
      go_wp2_with fail
      refine ⟨⟨k + 1, by omega, by omega, by go_num, ?_, trivial⟩, by simp [intOf]; omega⟩
      rw [hst.out]
      exact congrArg _ (by rw [Nat.max_def]; split <;> split <;> omega)
    · obtain rfl : k = n := by omega
      go_wp2_with fail
      go_ret
      exact ⟨rfl, rfl⟩

theorem lw_odd (g s d : Nat) (w : World) (hc : w.cell? ⟨g, 0, none⟩ = some (.int .i64 d)) (hd : 1 ≤ d) (hd' : d ≤ 1000000) (hs : s ≤ 1000000) :
    Calls Try.prog 85 #[.int .i64 s, .pointer (some ⟨g, 0, none⟩)] w fun e w' => e = .returned (.bool (decide (s % d ≠ 0))) ∧ w' = w := by
  have z1 : (1 : Int) ≤ (d : Int) := by omega
  go_enter Try.func85, Try.ntmps85
  go_wp2_with fail
  go_ret
  refine ⟨ret_bool ?_, rfl⟩
  rw [show (s : Int) % (d : Int) = ((s % d : Nat) : Int) by simp]
  generalize s % d = r
  rw [Bool.eq_iff_iff]
  simp
  try omega

/-- Whether some size is not divided by d: of the first k, and of all. -/
def ndTo (ps : List Nat) (d k : Nat) : Bool := (ps.take k).any (fun s => decide (s % d ≠ 0))
def nd (ps : List Nat) (d : Nat) : Bool := ps.any (fun s => decide (s % d ≠ 0))
theorem ndTo_succ {ps : List Nat} {d k : Nat} (hk : k < ps.length) : ndTo ps d (k + 1) = (ndTo ps d k || decide (NAt ps k % d ≠ 0)) := by
  rw [ndTo, take_snoc ps hk, List.any_append]; simp [ndTo]
theorem nd_hit {ps : List Nat} {d k : Nat} (hk : k < ps.length) (h : NAt ps k % d ≠ 0) : nd ps d = true := by
  rw [nd, List.any_eq_true]
  exact ⟨NAt ps k, NAt_mem hk, by simpa using h⟩

set_option maxRecDepth 100000 in
set_option maxHeartbeats 1000000 in
theorem sl_IndexFunc (A : Option Addr) (n : Nat) (ps : List Nat) (ca g d : Nat) (w : World) (hx : Nats w A n ps) (hl : n ≤ 1000000) (hB : ∀ s ∈ ps, s ≤ 1000000) (hc : w.cell? ⟨g, 0, none⟩ = some (.int .i64 d)) (hd : 1 ≤ d) (hd' : d ≤ 1000000) :
    Calls Try.prog 96 #[.slice A n ca, .func (.func 85) #[] #[.pointer (some ⟨g, 0, none⟩)]] w fun e w' => ∃ i : Int, e = .returned (.int .i64 i) ∧ decide (0 ≤ i) = nd ps d ∧ -1 ≤ i ∧ i ≤ 1000000 ∧ w' = w := by
  have hlen := hx.len
  go_enter Try.func96, Try.ntmps96
  go_wp2_with fail
  go_loopw [8] (fun i wr => ∃ k : Nat, k ≤ n ∧ i = .int .i64 k ∧ wr = w ∧ Hid (ndTo ps d k = false)) (fun i _ => n - (intOf i).toNat)
  case atStart => exact ⟨0, by omega, rfl, rfl, rfl⟩
  case round =>
    obtain ⟨k, hk, rfl, rfl, hno⟩ := hrel
    by_cases hlt : k < n
    · obtain ⟨b, off, rfl, hb, hcl⟩ := hx.at_ hlt
      have hi0 : (0 : Int) ≤ (k : Int) := by omega
      have hi1 : (k : Int) < n := by omega
      have hcall := lw_odd g (NAt ps k) d wr hc hd hd' (NAt_le hB k)
      have hst := Lib.hid (ndTo_succ (ps := ps) (d := d) (k := k) (by omega))
      by_cases hr : NAt ps k % d ≠ 0
      · have hhit := Lib.hid (nd_hit (ps := ps) (d := d) (k := k) (by omega) hr)
        rw [decide_eq_true hr] at hcall
        clear hr
        go_wp2_with fail
        refine hcall.mono ?_; rintro e w' ⟨rfl, rfl⟩
        go_wp2_with fail
        go_ret
        exact ⟨_, rfl, by rw [hhit.out]; simp, by omega, by omega, rfl⟩
      · have hn := Lib.hid (show ndTo ps d (k + 1) = false by rw [hst.out, hno.out, decide_eq_false hr]; rfl)
        rw [decide_eq_false hr] at hcall
        clear hr
        go_wp2_with fail
        refine hcall.mono ?_; rintro e w' ⟨rfl, rfl⟩
        go_wp2_with fail
        exact ⟨⟨k + 1, by omega, by go_num, trivial, hn.out⟩, by simp [intOf]; omega⟩
    · obtain rfl : k = n := by omega
      have he := Lib.hid (show nd ps d = false by have := hno.out; rw [ndTo, List.take_of_length_le (by omega)] at this; exact this)
      go_wp2_with fail
      go_ret
      exact ⟨-1, rfl, by rw [he.out]; rfl, by omega, by omega, rfl⟩

set_option maxHeartbeats 1000000 in
theorem sl_ContainsFunc (A : Option Addr) (n : Nat) (ps : List Nat) (ca g d : Nat) (w : World) (hx : Nats w A n ps) (hl : n ≤ 1000000) (hB : ∀ s ∈ ps, s ≤ 1000000) (hc : w.cell? ⟨g, 0, none⟩ = some (.int .i64 d)) (hd : 1 ≤ d) (hd' : d ≤ 1000000) :
    Calls Try.prog 84 #[.slice A n ca, .func (.func 85) #[] #[.pointer (some ⟨g, 0, none⟩)]] w fun e w' => e = .returned (.bool (nd ps d)) ∧ w' = w := by
  go_enter Try.func84, Try.ntmps84
  go_wp2_with fail
  refine (sl_IndexFunc A n ps ca g d w hx hl hB hc hd hd').mono ?_; rintro e w' ⟨i, rfl, hi, h1, h2, rfl⟩
  go_wp2_with fail
  go_ret
  exact ⟨ret_bool rfl, rfl⟩

/-- The number that a pointer leads to. -/
def ptrNat (v : Value) (w : World) : Nat := match v with
  | .pointer (some a) => match w.cell? a with
    | some x => (intOf x).toNat
    | none => 0
  | _ => 0
theorem ptrNat_of {w : World} {a : Addr} {d : Nat} (h : w.cell? a = some (.int .i64 d)) : ptrNat (.pointer (some a)) w = d := by
  simp [ptrNat, h, intOf]

theorem foldl_gcd_dvd (ps : List Nat) : ∀ a, ps.foldl Nat.gcd a ∣ a ∧ ∀ s ∈ ps, ps.foldl Nat.gcd a ∣ s := by
  induction ps with
  | nil => intro a; exact ⟨Nat.dvd_refl a, by simp⟩
  | cons x r ih =>
    intro a
    have h := ih (Nat.gcd a x)
    refine ⟨Nat.dvd_trans h.1 (Nat.gcd_dvd_left a x), fun s hs => ?_⟩
    rcases List.mem_cons.1 hs with rfl | hs
    · exact Nat.dvd_trans h.1 (Nat.gcd_dvd_right a s)
    · exact h.2 s hs
theorem G_dvd {ps : List Nat} : ∀ s ∈ ps, G ps ∣ s := (foldl_gcd_dvd ps 0).2
theorem dvd_foldl_gcd {d : Nat} (ps : List Nat) : ∀ a, d ∣ a → (∀ s ∈ ps, d ∣ s) → d ∣ ps.foldl Nat.gcd a := by
  induction ps with
  | nil => intro a h _; exact h
  | cons x r ih => intro a h hs; exact ih _ (Nat.dvd_gcd h (hs x (by simp))) (fun s hs' => hs s (by simp [hs']))
theorem dvd_G {ps : List Nat} {d : Nat} (h : ∀ s ∈ ps, d ∣ s) : d ∣ G ps := dvd_foldl_gcd ps 0 (Nat.dvd_zero d) h
theorem nd_false {ps : List Nat} {d : Nat} : nd ps d = false ↔ ∀ s ∈ ps, d ∣ s := by
  rw [nd, List.any_eq_false]
  constructor
  · intro h s hs; have := h s hs; simp at this; exact Nat.dvd_of_mod_eq_zero this
  · intro h s hs; have := Nat.mod_eq_zero_of_dvd (h s hs); simp [this]

set_option maxRecDepth 100000 in
set_option maxHeartbeats 2000000 in
theorem lw_common (A : Option Addr) (n : Nat) (ps : List Nat) (ca : Nat) (w : World) (hx : Nats w A n ps) (h1 : 1 ≤ n) (hl : n ≤ 1000) (hp : ∀ s ∈ ps, 0 < s ∧ s ≤ 100000) :
    Calls Try.prog 49 #[.slice A n ca] w fun e w' => e = .returned (.bool (decide (1 < G ps))) ∧ Below w.heap.size w w' := by
  have hB : ∀ s ∈ ps, s ≤ 1000000 := fun s h => by have := hp s h; omega
  have hM := mxTo_le (B := 100000) (fun s h => (hp s h).2) n
  have hmx := fun W (hW : Nats W A n ps) => sl_Max A n ps ca W hW h1 (by omega) hB
  have hend : (∀ d, 2 ≤ d → d ≤ mxTo ps n → nd ps d = true) → ¬ 1 < G ps := by
    intro h hg
    have h0 : 0 < n := h1
    have hm : NAt ps 0 ∈ ps := NAt_mem (by rw [hx.len]; exact h0)
    have hle : G ps ≤ mxTo ps n := Nat.le_trans (Nat.le_of_dvd (hp _ hm).1 (G_dvd _ hm)) (mxTo_ge h0)
    have := h (G ps) hg hle
    rw [nd_false.2 G_dvd] at this
    cases this
  have hend := Lib.hid hend
  have hM1 : 1 ≤ mxTo ps n := by
    have h0 : 0 < n := h1
    have hm : NAt ps 0 ∈ ps := NAt_mem (by rw [hx.len]; exact h0)
    exact Nat.le_trans (hp _ hm).1 (mxTo_ge h0)
  have hyes : ∀ d, 2 ≤ d → nd ps d = false → 1 < G ps := by
    intro d hd h
    have h0 : 0 < n := h1
    have hne : ps ≠ [] := by intro h; have := hx.len; rw [h] at this; simp at this; omega
    exact Nat.lt_of_lt_of_le hd (Nat.le_of_dvd (G_pos hne fun s h => (hp s h).1) (dvd_G (nd_false.1 h)))
  have hyes := Lib.hid hyes
  generalize mxTo ps n = M at *
  go_enter Try.func49, Try.ntmps49
  go_wp2_with fail
  go_loopw [3] (fun v wr => ∃ g d : Nat, v = .pointer (some ⟨g, 0, none⟩) ∧ 2 ≤ d ∧ d ≤ M + 1 ∧ w.heap.size ≤ g ∧ (∃ cs, Whole wr g 3 cs ∧ cs[0]? = some (.int .i64 d)) ∧ Below w.heap.size w wr ∧ Hid (∀ d', 2 ≤ d' → d' < d → nd ps d' = true)) (fun v wr => M + 2 - ptrNat v wr)
  case atStart => exact ⟨_, 2, rfl, by omega, by omega, Nat.le_refl _, ⟨_, Whole.new _ _ _, rfl⟩, (Below.refl _ _).alloc (Nat.le_refl _) _, fun d' h1 h2 => by omega⟩
  case round =>
    obtain ⟨g, d, rfl, hd2, hdM, hg, ⟨cs, hW, hcs⟩, hb, hno⟩ := hrel
    have c1 := (hW.cell 0).trans hcs
    have c2 := hW.frozen 0
    have hmx := hmx _ ((hx.below hb).drewN 1)
    by_cases hlt : d ≤ M
    · have hcf := sl_ContainsFunc A n ps ca g d (wr.drewN 1) ((hx.below hb).drewN 1) (by omega) hB c1 (by omega) (by omega)
      by_cases hr : nd ps d = true
      · rw [hr] at hcf
        have hr := Lib.hid hr
        go_wp2_with fail
        go_region_with ((go_at_call 83; refine hmx.mono ?_; rintro e w2 ⟨rfl, rfl⟩))
        all_goals go_wp2_with fail
        all_goals refine hcf.mono ?_
        all_goals rintro e w2 ⟨rfl, rfl⟩
        all_goals (
          have hbq := bdrewN hb 1
          have c1q : (wr.drewN 1).cell? ⟨g, 0, none⟩ = some (.int .i64 d) := c1
          generalize wr.drewN 1 = wq at *
          have f0 := (Whole.new wq 3 #[Value.int .i64 d]).frozen 0
          have f1 := (Whole.new wq 3 #[Value.int .i64 d]).cell 0
          go_wp2_with fail
          refine ⟨⟨_, d + 1, rfl, by omega, by omega, hbq.size, ⟨_, Whole.new _ _ _, by simp⟩, hbq.alloc hbq.size _, fun d' h1 h2 => ?_⟩, ?_⟩
          · by_cases e : d' = d
            · subst e; exact hr.out
            · exact hno.out d' h1 (by omega)
          · rw [ptrNat_of c1, ptrNat_of (d := d + 1) (((Whole.new wq 3 #[Value.int .i64 ((d : Int) + 1)]).cell 0).trans (by simp))]
            omega)
      · have hr' : nd ps d = false := by simpa using hr
        have hG := Lib.hid (hyes.out d hd2 hr')
        rw [hr'] at hcf
        clear hr hr'
        go_wp2_with fail
        go_region_with ((go_at_call 83; refine hmx.mono ?_; rintro e w2 ⟨rfl, rfl⟩))
        all_goals go_wp2_with fail
        all_goals refine hcf.mono ?_
        all_goals rintro e w2 ⟨rfl, rfl⟩
        all_goals go_wp2_with fail
        all_goals go_ret
        all_goals exact ⟨ret_bool (decide_eq_true hG.out).symm, bdrewN hb 1⟩
    · obtain rfl : d = M + 1 := by omega
      have hG := Lib.hid (hend.out fun d h1 h2 => hno.out d h1 (by omega))
      go_wp2_with fail
      go_region_with ((go_at_call 83; refine hmx.mono ?_; rintro e w2 ⟨rfl, rfl⟩))
      all_goals go_wp2_with fail
      all_goals go_ret
      all_goals exact ⟨ret_bool (decide_eq_false hG.out).symm, bdrewN hb 1⟩
end Go.Proofs.Ytjcoaicpeajpnaa
