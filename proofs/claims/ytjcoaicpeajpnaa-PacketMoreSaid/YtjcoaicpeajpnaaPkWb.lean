/- Exported functions: Needed, Ways, Totals, Least. -/
import Derived.Test.YtjcoaicpeajpnaaPkWa
namespace Go.Proofs.Ytjcoaicpeajpnaa
open Go.RowKit Pk

theorem Nats.take {w : World} {A : Option Addr} {n i : Nat} {ps : List Nat} (h : Nats w A n ps) (hi : i ≤ n) : Nats w A i (ps.take i) :=
  ⟨by rw [List.length_take, h.1]; omega, fun k hk => by
    obtain ⟨b, off, e, hb, hc⟩ := h.2 k (by omega)
    refine ⟨b, off, e, hb, ?_⟩
    rw [hc]
    simp [NAt, hk]⟩

def nedL (ps : List Nat) (n : Nat) : List Int := ((List.range n).filter (fun i => !rB (ps.take i) (NAt ps i))).map Int.ofNat
theorem nedL_hit {ps : List Nat} {x : Nat} (h : rB (ps.take x) (NAt ps x) = false) : nedL ps (x + 1) = nedL ps x ++ [Int.ofNat x] := by
  simp [nedL, List.range_succ, List.filter_append, h]
theorem nedL_miss {ps : List Nat} {x : Nat} (h : rB (ps.take x) (NAt ps x) = true) : nedL ps (x + 1) = nedL ps x := by
  simp [nedL, List.range_succ, List.filter_append, h]
theorem nedL_len (ps : List Nat) (x : Nat) : (nedL ps x).length ≤ x := by
  rw [nedL, List.length_map]
  exact Nat.le_trans (List.length_filter_le _ _) (by simp)
def nedV (xs : List Int) : List Int := if chk xs = 0 then nedL (natL xs) xs.length else []
set_option maxRecDepth 100000 in
set_option maxHeartbeats 1000000 in
theorem pk_Needed (A : Option Addr) (n : Nat) (xs : List Int) (ca : Nat) (w : World) (hx : Ints w A n xs) (hl : n ≤ 1000000000) (hca : n ≤ ca) (hca' : ca ≤ 9223372036854775807) :
    Calls Try.prog 34 #[.slice A n ca] w fun e w' => GivesE w w' e (nedV xs) (chk xs) := by
  have hc := pk_Check A n xs ca w hx hl
  by_cases h1 : chk xs = 0
  · obtain ⟨s1, s2, hN, hp⟩ := hx.sizes h1
    have hV := Lib.hid (show nedV xs = nedL (natL xs) n by rw [nedV, if_pos h1, hx.len])
    have hE := Lib.hid h1
    rw [h1] at hc
    clear h1
    go_enter Try.func34, Try.ntmps34
    go_wp2_with fail
    refine hc.mono ?_; rintro e w' ⟨rfl, rfl⟩
    go_wp2_with fail
    go_loopw [5, 16] (fun v i wr => ∃ x : Nat, x ≤ n ∧ i = .int .i64 x ∧ OwnI wr w.heap.size v (nedL (natL xs) x) ∧ Below w.heap.size w wr) (fun _ i _ => n - (intOf i).toNat)
    case atStart => exact ⟨0, by omega, rfl, OwnI.nil_ _ _, Below.refl _ _⟩
    case round =>
      obtain ⟨x, hx1, rfl, hown, hw⟩ := hrel
      have hsz := hw.size
      have hgl := nedL_len (natL xs) x
      have HN := hN.below hw
      by_cases hlt : x < n
      · obtain ⟨b, off, rfl, hb, hcl⟩ := HN.at_ hlt
        have hs := hp _ (NAt_mem (ps := natL xs) (k := x) (by rw [hN.len]; exact hlt))
        have hxi : (0 : Int) ≤ (x : Int) := by omega
        have hxn : (x : Int) < n := by omega
        have hmk := makeable_any (some ⟨b, off, none⟩) x ((natL xs).take x) ca wr (HN.take (by omega)) (fun s h => (hp s (List.mem_of_mem_take h)).1) (by omega) (fun s h => by have := hp s (List.mem_of_mem_take h); omega)
        go_wp2_with fail
        refine hmk.mono ?_
        rintro e w1 ⟨rfl, ⟨ct, hBt, hT⟩, hw1⟩
        have hcall := pk_made wr.heap.size ct _ (NAt (natL xs) x) w1 hBt hT
        have hsz1 := hw1.size
        have hown1 := hown.below hw1
        have hw2 := hw.trans (hw1.mono hsz)
        by_cases hm : rB ((natL xs).take x) (NAt (natL xs) x) = true
        · have hbb : inTab (rB ((natL xs).take x)) (NAt (natL xs) x : Int) = true := by simp [inTab, hm]; omega
          have he := Lib.hid (nedL_miss hm)
          rw [hbb] at hcall
          clear hm hbb
          go_wp2_with fail
          refine hcall.mono ?_; rintro e w' ⟨rfl, rfl⟩
          go_wp2_with fail
          exact ⟨⟨x + 1, by omega, by go_num, by rw [he.out]; exact hown1, hw2⟩, by simp [intOf]; omega⟩
        · have hbb : inTab (rB ((natL xs).take x)) (NAt (natL xs) x : Int) = false := by simp [inTab, hm]
          have he := Lib.hid (nedL_hit (by simpa using hm : rB ((natL xs).take x) (NAt (natL xs) x) = false))
          rw [hbb] at hcall
          clear hm hbb
          go_wp2_with fail
          refine hcall.mono ?_; rintro e w' ⟨rfl, rfl⟩
          go_wp2_with (at_builtin; refine wpList_appI rfl _ _ rfl w.heap.size _ (nedL (natL xs) x) x (by rfl) hown1 (by omega) (by omega) (by rfl) ?_; intro v' w' hown' hb')
          exact ⟨⟨x + 1, by omega, by go_num, by rw [he.out]; exact hown', hb' _ hw2⟩, by simp [intOf]; omega⟩
      · obtain rfl : x = n := by omega
        obtain ⟨A', c', rfl, hI⟩ := hown.form
        go_wp2_with fail
        go_ret2
        unfold GivesE
        rw [hV.out, hE.out]
        exact ⟨_, _, rfl, hI, hw⟩
  · have hb := ne0 h1
    have hV := Lib.hid (show nedV xs = [] by rw [nedV, if_neg h1])
    clear h1
    go_enter Try.func34, Try.ntmps34
    go_wp2_with fail
    refine hc.mono ?_; rintro e w' ⟨rfl, rfl⟩
    go_wp2_with fail
    go_ret2
    rw [hV.out]
    exact GivesE.nil (Below.refl _ _)

def wayV (xs cs : List Int) (n : Int) : Int := if chkO xs cs n = 0 then (nw (zp (natL xs) (natL cs) xs.length) n.toNat : Int) else 0
set_option maxHeartbeats 1000000 in
theorem pk_Ways (A B : Option Addr) (n m : Nat) (xs cs : List Int) (ca cb : Nat) (k : Int) (w : World) (hx : Ints w A n xs) (hy : Ints w B m cs) (hl : n ≤ 1000000000) (hl' : m ≤ 1000000000) :
    Calls Try.prog 40 #[.slice A n ca, .slice B m cb, .int .i64 k] w fun e w' => e = .returned (.tuple #[.int .i64 (wayV xs cs k), .int .i64 (chkO xs cs k)]) ∧ Below w.heap.size w w' := by
  have hc := pk_checkOrder A B n m xs cs ca cb k w hx hy hl hl'
  by_cases h1 : chkO xs cs k = 0
  · obtain ⟨h2, h3, h4⟩ := chkO_ok h1
    obtain ⟨h5, h6, h7⟩ := chkS_ok h2
    obtain ⟨s1, s2, hN, hp⟩ := hx.sizes h5
    obtain ⟨hM, hq⟩ := hy.stock h7
    have hV := Lib.hid (show wayV xs cs k = (nw (zp (natL xs) (natL cs) n) k.toNat : Int) by rw [wayV, if_pos h1, hx.len])
    have hE := Lib.hid h1
    rw [h1] at hc
    obtain ⟨k, rfl⟩ := Int.eq_ofNat_of_zero_le h3
    have hnm : m = n := by rw [← hx.len, ← hy.len, h6]
    subst hnm
    clear h1 h2 h5 h6
    have hbf := pk_countFillings A B m (natL xs) (natL cs) ca cb k w hN hM (sub1000 hp) (fun c h => by have := hq c h; omega) s2 (by omega)
    go_enter Try.func40, Try.ntmps40
    go_wp2_with fail
    refine hc.mono ?_; rintro e w' ⟨rfl, rfl⟩
    go_wp2_with fail
    refine hbf.mono ?_
    rintro e w2 ⟨A2, c2, rfl, hN2, hb2⟩
    obtain ⟨b, off, rfl, _, hcl⟩ := hN2.at_ (k := k) (by omega)
    rw [NAt_range _ _ (by omega)] at hcl
    have z1 : (k : Int) < (k : Int) + 1 := by omega
    have z2 : (0 : Int) ≤ (k : Int) := by omega
    go_wp2_with fail
    go_ret2
    rw [hV.out, hE.out]
    exact ⟨rfl, hb2⟩
  · have hb := ne0 h1
    have hV := Lib.hid (show wayV xs cs k = 0 by rw [wayV, if_neg h1])
    clear h1
    go_enter Try.func40, Try.ntmps40
    go_wp2_with fail
    refine hc.mono ?_; rintro e w' ⟨rfl, rfl⟩
    go_wp2_with fail
    go_ret2
    rw [hV.out]
    exact ⟨rfl, Below.refl _ _⟩

def totL (l : List (Nat × Nat)) (N : Nat) : List Int := ((List.range N).filter (fun x => decide (0 < nw l x))).map Int.ofNat
theorem totL_hit {l : List (Nat × Nat)} {x : Nat} (h : 0 < nw l x) : totL l (x + 1) = totL l x ++ [Int.ofNat x] := by
  simp [totL, List.range_succ, List.filter_append, h]
theorem totL_miss {l : List (Nat × Nat)} {x : Nat} (h : ¬ 0 < nw l x) : totL l (x + 1) = totL l x := by
  simp [totL, List.range_succ, List.filter_append, h]
theorem totL_len (l : List (Nat × Nat)) (x : Nat) : (totL l x).length ≤ x := by
  rw [totL, List.length_map]
  exact Nat.le_trans (List.length_filter_le _ _) (by simp)
def totV (xs cs : List Int) : List Int := if chkS xs cs = 0 then totL (zp (natL xs) (natL cs) xs.length) 1001 else []
set_option maxRecDepth 100000 in
set_option maxHeartbeats 1000000 in
theorem pk_Totals (A B : Option Addr) (n m : Nat) (xs cs : List Int) (ca cb : Nat) (w : World) (hx : Ints w A n xs) (hy : Ints w B m cs) (hl : n ≤ 1000000000) (hl' : m ≤ 1000000000) :
    Calls Try.prog 42 #[.slice A n ca, .slice B m cb] w fun e w' => GivesE w w' e (totV xs cs) (chkS xs cs) := by
  have hc := pk_checkStock A B n m xs cs ca cb w hx hy hl hl'
  by_cases h1 : chkS xs cs = 0
  · obtain ⟨h5, h6, h7⟩ := chkS_ok h1
    obtain ⟨s1, s2, hN, hp⟩ := hx.sizes h5
    obtain ⟨hM, hq⟩ := hy.stock h7
    have hV := Lib.hid (show totV xs cs = totL (zp (natL xs) (natL cs) n) 1001 by rw [totV, if_pos h1, hx.len])
    have hE := Lib.hid h1
    rw [h1] at hc
    have hnm : m = n := by rw [← hx.len, ← hy.len, h6]
    subst hnm
    clear h1 h5 h6
    have hbf := pk_fillable A B m (natL xs) (natL cs) ca cb 1000 w hN hM (sub1000 hp) (fun c h => by have := hq c h; omega) s2 (by omega)
    go_enter Try.func42, Try.ntmps42
    go_wp2_with fail
    refine hc.mono ?_; rintro e w' ⟨rfl, rfl⟩
    go_wp2_with fail
    refine hbf.mono ?_
    rintro e w1 ⟨g1, g2, rfl, hF, hw1⟩
    generalize zp (natL xs) (natL cs) m = l at *
    go_wp2_with fail
    go_loopw [8, 19] (fun v i wr => ∃ x : Nat, x ≤ 1001 ∧ i = .int .i64 x ∧ OwnI wr w1.heap.size v (totL l x) ∧ Below w1.heap.size w1 wr) (fun _ i _ => 1001 - (intOf i).toNat)
    case atStart => exact ⟨0, by omega, rfl, OwnI.nil_ _ _, Below.refl _ _⟩
    case round =>
      obtain ⟨x, hx1, rfl, hown, hw⟩ := hrel
      have hsz := hw.size
      have hgl := totL_len l x
      by_cases hlt : x ≤ 1000
      · have hcall := pk_filled g1 g2 1000 l x wr (hF.below hw) (by omega)
        have hi : (x : Int) < 1001 := by omega
        by_cases hm : 0 < nw l x
        · have hbb : inWays 1000 l (x : Int) = true := by simp [inWays, hm]; omega
          have he := Lib.hid (totL_hit hm)
          rw [hbb] at hcall
          clear hm hbb
          go_wp2_with fail
          refine hcall.mono ?_; rintro e w' ⟨rfl, j, rfl⟩
          go_wp2_with (at_builtin; refine wpList_appI rfl _ _ rfl w1.heap.size _ (totL l x) x (by rfl) (hown.below (bdrewN (Below.refl _ _) j)) hsz (by omega) (by rfl) ?_; intro v' w' hown' hb')
          exact ⟨⟨x + 1, by omega, by go_num, by rw [he.out]; exact hown', hb' _ (bdrewN hw j)⟩, by simp [intOf]; omega⟩
        · have hbb : inWays 1000 l (x : Int) = false := by simp [inWays]; omega
          have he := Lib.hid (totL_miss hm)
          rw [hbb] at hcall
          clear hm hbb
          go_wp2_with fail
          refine hcall.mono ?_; rintro e w' ⟨rfl, j, rfl⟩
          go_wp2_with fail
          exact ⟨⟨x + 1, by omega, by go_num, by rw [he.out]; exact hown.below (bdrewN (Below.refl _ _) j), bdrewN hw j⟩, by simp [intOf]; omega⟩
      · obtain rfl : x = 1001 := by omega
        obtain ⟨A', c', rfl, hI⟩ := hown.form
        go_wp2_with fail
        go_ret2
        unfold GivesE
        rw [hV.out, hE.out]
        exact ⟨_, _, rfl, hI, hw1.trans (hw.mono hw1.size)⟩
  · have hb := ne0 h1
    have hV := Lib.hid (show totV xs cs = [] by rw [totV, if_neg h1])
    clear h1
    go_enter Try.func42, Try.ntmps42
    go_wp2_with fail
    refine hc.mono ?_; rintro e w' ⟨rfl, rfl⟩
    go_wp2_with fail
    go_ret2
    rw [hV.out]
    exact GivesE.nil (Below.refl _ _)

/-- The smallest number from n on that has a filling, below N; -1 if there is none. -/
def leaF (N : Nat) (l : List (Nat × Nat)) (n : Nat) : Int :=
  match (List.range N).find? (fun x => decide (n ≤ x) && decide (0 < nw l x)) with
  | some x => (x : Int)
  | none => -1
theorem leaF_hit {N n x : Nat} {l : List (Nat × Nat)} (hx : x < N) (hn : n ≤ x) (h : 0 < nw l x) (hno : ∀ y, n ≤ y → y < x → ¬ 0 < nw l y) : leaF N l n = x := by
  have : (List.range N).find? (fun x => decide (n ≤ x) && decide (0 < nw l x)) = some x := by
    rw [List.find?_range_eq_some]
    refine ⟨by simp [hn, h], List.mem_range.2 hx, fun j hj => ?_⟩
    by_cases e : n ≤ j
    · have := hno j e hj; simp; omega
    · simp; omega
  rw [leaF, this]
theorem leaF_none {N n : Nat} {l : List (Nat × Nat)} (hno : ∀ y, n ≤ y → y < N → ¬ 0 < nw l y) : leaF N l n = -1 := by
  have : (List.range N).find? (fun x => decide (n ≤ x) && decide (0 < nw l x)) = none := by
    rw [List.find?_eq_none]
    intro x hx
    have hx := List.mem_range.1 hx
    by_cases e : n ≤ x
    · have := hno x e hx; simp; omega
    · simp; omega
  rw [leaF, this]
def leaZ (xs cs : List Int) (n : Int) : Int := leaF 1001 (zp (natL xs) (natL cs) xs.length) n.toNat
def leaE (xs cs : List Int) (n : Int) : Int := if chkO xs cs n = 0 then (if leaZ xs cs n = -1 then 12 else 0) else chkO xs cs n
def leaV (xs cs : List Int) (n : Int) : Int := if leaE xs cs n = 0 then leaZ xs cs n else 0
set_option maxRecDepth 100000 in
set_option maxHeartbeats 1000000 in
theorem pk_Least (A B : Option Addr) (n m : Nat) (xs cs : List Int) (ca cb : Nat) (k : Int) (w : World) (hx : Ints w A n xs) (hy : Ints w B m cs) (hl : n ≤ 1000000000) (hl' : m ≤ 1000000000) :
    Calls Try.prog 44 #[.slice A n ca, .slice B m cb, .int .i64 k] w fun e w' => e = .returned (.tuple #[.int .i64 (leaV xs cs k), .int .i64 (leaE xs cs k)]) ∧ Below w.heap.size w w' := by
  have hc := pk_checkOrder A B n m xs cs ca cb k w hx hy hl hl'
  by_cases h1 : chkO xs cs k = 0
  · obtain ⟨h2, h3, h4⟩ := chkO_ok h1
    obtain ⟨h5, h6, h7⟩ := chkS_ok h2
    obtain ⟨s1, s2, hN, hp⟩ := hx.sizes h5
    obtain ⟨hM, hq⟩ := hy.stock h7
    obtain ⟨k, rfl⟩ := Int.eq_ofNat_of_zero_le h3
    have hZ := Lib.hid (show leaZ xs cs k = leaF 1001 (zp (natL xs) (natL cs) n) k by rw [leaZ, hx.len, Int.toNat_natCast])
    have hE := Lib.hid (show leaE xs cs k = if leaZ xs cs k = -1 then 12 else 0 by rw [leaE, if_pos h1])
    rw [h1] at hc
    have hnm : m = n := by rw [← hx.len, ← hy.len, h6]
    subst hnm
    clear h1 h2 h5 h6
    have hbf := pk_fillable A B m (natL xs) (natL cs) ca cb 1000 w hN hM (sub1000 hp) (fun c h => by have := hq c h; omega) s2 (by omega)
    go_enter Try.func44, Try.ntmps44
    go_wp2_with fail
    refine hc.mono ?_; rintro e w' ⟨rfl, rfl⟩
    go_wp2_with fail
    refine hbf.mono ?_
    rintro e w1 ⟨g1, g2, rfl, hF, hw1⟩
    generalize zp (natL xs) (natL cs) m = l at *
    go_wp2_with fail
    go_loopw [10] (fun v wr => ∃ x j : Nat, k ≤ x ∧ x ≤ 1001 ∧ v = .int .i64 x ∧ wr = w1.drewN j ∧ ∀ y, k ≤ y → y < x → ¬ 0 < nw l y) (fun v _ => 1001 - (intOf v).toNat)
    case atStart => exact ⟨k, 0, Nat.le_refl _, by omega, rfl, rfl, fun y h1 h2 => by omega⟩
    case round =>
      obtain ⟨x, j, hx1, hx2, rfl, rfl, hno⟩ := hrel
      have hno := Lib.hid hno
      by_cases hlt : x ≤ 1000
      · have hcall := pk_filled g1 g2 1000 l x (w1.drewN j) (hF.below (bdrewN (Below.refl _ _) j)) (by omega)
        by_cases hm : 0 < nw l x
        · have hbb : inWays 1000 l (x : Int) = true := by simp [inWays, hm]; omega
          have he := Lib.hid (leaF_hit (N := 1001) (by omega) hx1 hm hno.out)
          rw [hbb] at hcall
          clear hm hbb
          go_wp2_with fail
          refine hcall.mono ?_; rintro e w' ⟨rfl, j', rfl⟩
          go_wp2_with fail
          go_ret2
          have e1 : leaZ xs cs k = x := by rw [hZ.out, he.out]
          have e2 : leaE xs cs k = 0 := by rw [hE.out, e1, if_neg (by omega)]
          rw [leaV, if_pos e2, e1, e2]
          exact ⟨rfl, bdrewN hw1 _⟩
        · have hbb : inWays 1000 l (x : Int) = false := by simp [inWays]; omega
          have hm := Lib.hid hm
          rw [hbb] at hcall
          clear hbb
          go_wp2_with fail
          refine hcall.mono ?_; rintro e w' ⟨rfl, j', rfl⟩
          go_wp2_with fail
          refine ⟨⟨x + 1, _, by omega, by omega, by go_num, rfl, fun y h1 h2 => ?_⟩, by simp [intOf]; omega⟩
          by_cases e : y = x
          · subst e; exact hm.out
          · exact hno.out y h1 (by omega)
      · have he := Lib.hid (leaF_none (N := 1001) (l := l) (n := k) fun y h1 h2 => hno.out y h1 (by omega))
        go_wp2_with fail
        go_ret2
        have e1 : leaZ xs cs k = -1 := by rw [hZ.out, he.out]
        have e2 : leaE xs cs k = 12 := by rw [hE.out, e1, if_pos rfl]
        rw [leaV, e2, if_neg (by decide)]
        exact ⟨rfl, bdrewN hw1 _⟩
  · have hb := ne0 h1
    have hE' : leaE xs cs k = chkO xs cs k := by rw [leaE, if_neg h1]
    have hV := Lib.hid (show leaV xs cs k = 0 by rw [leaV, if_neg (by rw [hE']; exact h1)])
    have hE := Lib.hid hE'
    clear h1 hE'
    go_enter Try.func44, Try.ntmps44
    go_wp2_with fail
    refine hc.mono ?_; rintro e w' ⟨rfl, rfl⟩
    go_wp2_with fail
    go_ret2
    rw [hV.out, hE.out]
    exact ⟨rfl, Below.refl _ _⟩
end Go.Proofs.Ytjcoaicpeajpnaa
