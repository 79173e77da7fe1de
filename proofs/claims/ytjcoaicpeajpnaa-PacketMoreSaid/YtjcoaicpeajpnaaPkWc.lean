/- slices.Clone, packetsUsed, Span, Verify. -/
import Derived.Test.YtjcoaicpeajpnaaPkWb
import Derived.Lib.SliceRun
namespace Go.Proofs.Ytjcoaicpeajpnaa
open Go.RowKit Pk

set_option maxRecDepth 100000 in
set_option maxHeartbeats 1000000 in
theorem sl_Clone (b off n c : Nat) (xs : List Nat) (w : World) (hx : Nats w (some ⟨b, off, none⟩) n xs) (h1 : 1 ≤ n) (hl : n ≤ 1000000) :
    Calls Try.prog 54 #[.slice (some ⟨b, off, none⟩) n c] w fun e w' =>
      ∃ g cap cs, e = .returned (.slice (some ⟨g, 0, none⟩) n cap) ∧ Whole w' g 3 cs ∧ (∀ k, k < n → cs[k]? = some (.int .i64 (NAt xs k : Nat))) ∧ w.heap.size ≤ g ∧ Below w.heap.size w w' := by
  obtain ⟨i0, hi, hz0, hz1, hz2⟩ := info_parts Try.info_int
  have q22 : ∀ (w : World) (a : Option Addr) (n c n' c' : Nat), (binOp .eql 22 (.slice a n c) (.slice none n' c')).run Try.prog w = .ok (.bool a.isNone) w := fun w a n c n' c' => Lib.run_eql_slice_nil w _ _ a n c n' c' Try.underlying22
  have hlen := Lib.hid hx.len
  have A := Lib.hid hx
  clear hx
  go_enter Try.func54, Try.ntmps54
  go_wp2_with (at_builtin; refine wpList_append_own _ rfl _ _ 22 rfl w.heap.size 3 i0 (.int .i64 0) 1 8 Try.underlying22 hi hz0 hz1 hz2 rfl (by decide) _ _ _ rfl (World.ownsRow_made w #[] 0 (Nat.le_refl _) (Nat.zero_le _) rfl) ⟨b, off, none⟩ n c ((List.range n).map fun k => Value.int .i64 (NAt xs k : Nat)) rfl ?qc1 ?qc2 ?qc3 ?qc4 ?qc5 ?qc6 ?_)
  case qc1 => simp
  case qc2 =>
    intro j u hj
    have hjn : j < n := by
      have := (List.getElem?_eq_some_iff.1 hj).1
      simpa using this
    rw [Addr.add_lit]
    refine Lib.cell?_alloc_some _ ?_
    obtain ⟨b', off', e, hb, hc⟩ := A.out.at_ hjn
    cases e
    rw [hc]
    simpa [hjn] using hj
  case qc3 => intro u hu; obtain ⟨x, _, rfl⟩ := List.mem_map.1 hu; rfl
  case qc4 => unfold maxLen; omega
  case qc5 => omega
  case qc6 => simp
  intro v' w1 hown hgrow hnil
  rcases hown.2 with ⟨rfl, h0⟩ | ⟨g, cap, cur, rfl, hg, hh, hnc, hcm, hsz, htake⟩
  · omega
  go_wp2
  go_ret
  refine ⟨g, cap, cur, by simp, hh, fun k hk => ?_, by simpa using hg, ?_⟩
  · have : (cur.toList.take (n * 1))[k]? = some (.int .i64 (NAt xs k : Nat)) := by
      rw [htake]; simp [hk]
    rw [List.getElem?_take, if_pos (by omega)] at this
    simpa using this
  · exact ((Below.refl _ w).alloc (Nat.le_refl _) _).grown hgrow (by simp) (by intro k hk; simp [Value.ownBlock] at hk; omega)

/-- A stock with one kind taken out. -/
def outL (cs : List Nat) (k : Nat) : List Nat := cs.set k 0
/-- The numbers of packets of kind k, below N, that some filling has. -/
def useL (l : List (Nat × Nat)) (n s N : Nat) : List Int := ((List.range N).filter (fun (p : Nat) => inWays n l ((n : Int) - (p : Int) * (s : Int)))).map Int.ofNat
theorem useL_hit {l : List (Nat × Nat)} {n s x : Nat} (h : inWays n l ((n : Int) - (x : Int) * (s : Int)) = true) : useL l n s (x + 1) = useL l n s x ++ [Int.ofNat x] := by
  simp [useL, List.range_succ, List.filter_append, h]
theorem useL_miss {l : List (Nat × Nat)} {n s x : Nat} (h : inWays n l ((n : Int) - (x : Int) * (s : Int)) = false) : useL l n s (x + 1) = useL l n s x := by
  simp [useL, List.range_succ, List.filter_append, h]
theorem useL_len (l : List (Nat × Nat)) (n s x : Nat) : (useL l n s x).length ≤ x := by
  rw [useL, List.length_map]
  exact Nat.le_trans (List.length_filter_le _ _) (by simp)

set_option maxRecDepth 100000 in
set_option maxHeartbeats 2000000 in
theorem pk_packetsUsed (A B : Option Addr) (n : Nat) (ps cs : List Nat) (ca cb m k : Nat) (w : World) (hx : Nats w A n ps) (hy : Nats w B n cs) (hp : ∀ s ∈ ps, 0 < s ∧ s ≤ 1000) (hc : ∀ c ∈ cs, c ≤ 1001)
    (hl : n ≤ 5) (hm : m ≤ 1000) (hk : k < n) :
    Calls Try.prog 82 #[.slice A n ca, .slice B n cb, .int .i64 m, .int .i64 k] w fun e w' => GivesI w w' e (useL (zp ps (outL cs k) n) m (NAt ps k) (NAt cs k + 1)) := by
  obtain ⟨b, off, rfl, hb, hcl⟩ := hx.at_ hk
  obtain ⟨b', off', rfl, hb', hcl'⟩ := hy.at_ hk
  have hs := hp _ (NAt_mem (ps := ps) (k := k) (by rw [hx.len]; exact hk))
  have hcc := hc _ (NAt_mem (ps := cs) (k := k) (by rw [hy.len]; exact hk))
  have hki : (0 : Int) ≤ (k : Int) := by omega
  have hkn : (k : Int) < n := by omega
  have hcln := sl_Clone b' off' n cb cs w hy (by omega) (by omega)
  have hout : ∀ c ∈ outL cs k, c ≤ 1001 := by
    intro c h
    rcases List.mem_or_eq_of_mem_set h with h | rfl
    · exact hc c h
    · omega
  go_enter Try.func82, Try.ntmps82
  go_wp2_with fail
  refine hcln.mono ?_
  rintro e w1 ⟨g, cap, ct, rfl, hB, hR, hg, hw1⟩
  have c1 := (hB.cell k).trans (hR k hk)
  have c2 := hB.frozen k
  go_wp2_with fail
  have hw2 : Below w.heap.size w (w1.setCell ⟨g, k, none⟩ (.int .i64 0)) := hw1.setCell hg _
  have hN2 : Nats (w1.setCell ⟨g, k, none⟩ (.int .i64 0)) (some ⟨g, 0, none⟩) n (outL cs k) := by
    refine ⟨by rw [outL, List.length_set, hy.len], fun j hj => ⟨g, 0, rfl, ?_, ?_⟩⟩
    · have := hB.lt; simpa [World.setCell] using this
    · rw [Nat.zero_add, (hB.set_ k _).cell j]
      by_cases e : j = k
      · subst e
        have hlt : j < ct.size := by
          rcases Nat.lt_or_ge j ct.size with h | h
          · exact h
          · have := hR j hj; rw [Array.getElem?_eq_none h] at this; cases this
        simp [hlt, NAt, outL, hy.len, hj]
      · rw [Array.getElem?_setIfInBounds_ne (by omega), hR j hj]
        simp [NAt, outL, Ne.symm e]
  refine (pk_fillable (some ⟨b, off, none⟩) (some ⟨g, 0, none⟩) n ps (outL cs k) ca cap m _ (hx.below hw2) hN2 hp hout hl (by omega)).mono ?_
  rintro e w3 ⟨g1, g2, rfl, hF, hw3⟩
  have hw4 : Below w.heap.size w w3 := hw2.trans (hw3.mono hw2.size)
  have d1 := (hw4.cell (p := ⟨b', off' + k, none⟩) hb').trans hcl'
  have d2 := (hw4.cell (p := ⟨b, off + k, none⟩) hb).trans hcl
  clear c1 c2 hB hR hN2 hw3 hw2
  generalize hgl0 : zp ps (outL cs k) n = l at *
  have GL := Lib.hid hgl0
  clear hgl0
  go_wp2_with fail
  generalize hgs : NAt ps k = s at *
  generalize hgc : NAt cs k = c at *
  have GS := Lib.hid hgs; have GC := Lib.hid hgc
  clear hgs hgc
  go_loopw [11, 27] (fun v i wr => ∃ x : Nat, x ≤ c + 1 ∧ i = .int .i64 x ∧ OwnI wr w3.heap.size v (useL l m s x) ∧ Below w3.heap.size w3 wr) (fun _ i _ => c + 1 - (intOf i).toNat)
  case atStart => exact ⟨0, by omega, rfl, OwnI.nil_ _ _, Below.refl _ _⟩
  case round =>
    obtain ⟨x, hx1, rfl, hown, hw⟩ := hrel
    have hsz := hw.size
    have hgl := useL_len l m s x
    have e1 := (hw.cell (p := ⟨b, off + k, none⟩) (Nat.lt_of_lt_of_le hb hw4.size)).trans d2
    by_cases hlt : x < c + 1
    · have hp1 : x * s ≤ 1002 * 1000 := Nat.mul_le_mul (by omega) hs.2
      have hpe : ((x : Int) * (s : Int)) = ((x * s : Nat) : Int) := by simp
      have hp2 : (x : Int) * (s : Int) ≤ 1002000 := by rw [hpe]; omega
      have hp3 : (0 : Int) ≤ (x : Int) * (s : Int) := by rw [hpe]; omega
      clear hpe
      have hcall := pk_filled g1 g2 m l ((m : Int) - (x : Int) * (s : Int)) wr (hF.below hw) (by omega)
      by_cases hbb : inWays m l ((m : Int) - (x : Int) * (s : Int)) = true
      · have he := Lib.hid (useL_hit hbb)
        rw [hbb] at hcall
        clear hbb
        go_wp2_with fail
        refine hcall.mono ?_; rintro e w' ⟨rfl, j, rfl⟩
        go_wp2_with (at_builtin; refine wpList_appI rfl _ _ rfl w3.heap.size _ (useL l m s x) x (by rfl) (hown.below (bdrewN (Below.refl _ _) j)) hsz (by omega) (by rfl) ?_; intro v' w' hown' hb')
        exact ⟨⟨x + 1, by omega, by go_num, by rw [he.out]; exact hown', hb' _ (bdrewN hw j)⟩, by simp [intOf]; omega⟩
      · have hbb : inWays m l ((m : Int) - (x : Int) * (s : Int)) = false := by simpa using hbb
        have he := Lib.hid (useL_miss hbb)
        rw [hbb] at hcall
        clear hbb
        go_wp2_with fail
        refine hcall.mono ?_; rintro e w' ⟨rfl, j, rfl⟩
        go_wp2_with fail
        exact ⟨⟨x + 1, by omega, by go_num, by rw [he.out]; exact hown.below (bdrewN (Below.refl _ _) j), bdrewN hw j⟩, by simp [intOf]; omega⟩
    · obtain rfl : x = c + 1 := by omega
      obtain ⟨A', c', rfl, hI⟩ := hown.form
      go_wp2_with fail
      go_ret
      unfold GivesI
      rw [GS.out, GC.out, GL.out]
      exact ⟨_, _, rfl, hI, hw4.trans (hw.mono hw4.size)⟩

def spaE (xs cs : List Int) (n k : Int) : Int :=
  if chkO xs cs n = 0 then (if isIx xs.length k then (if (useL (zp (natL xs) (outL (natL cs) k.toNat) xs.length) n.toNat (NAt (natL xs) k.toNat) (NAt (natL cs) k.toNat + 1)).length = 0 then 12 else 0) else 2) else chkO xs cs n
def spaU (xs cs : List Int) (n k : Int) : List Int := useL (zp (natL xs) (outL (natL cs) k.toNat) xs.length) n.toNat (NAt (natL xs) k.toNat) (NAt (natL cs) k.toNat + 1)
def spaA (xs cs : List Int) (n k : Int) : Int := if spaE xs cs n k = 0 then At (spaU xs cs n k) 0 else 0
def spaB (xs cs : List Int) (n k : Int) : Int := if spaE xs cs n k = 0 then At (spaU xs cs n k) ((spaU xs cs n k).length - 1) else 0
theorem spaE_2 {xs cs : List Int} {n k : Int} (h : chkO xs cs n = 0) (hi : ¬ isIx xs.length k = true) : spaE xs cs n k = 2 := by rw [spaE, if_pos h, if_neg hi]
theorem spaE_u {xs cs : List Int} {n k : Int} (h : chkO xs cs n = 0) (hi : isIx xs.length k = true) : spaE xs cs n k = if (spaU xs cs n k).length = 0 then 12 else 0 := by rw [spaE, if_pos h, if_pos hi]; rfl
set_option maxRecDepth 100000 in
set_option maxHeartbeats 2000000 in
theorem pk_Span (A B : Option Addr) (n m : Nat) (xs cs : List Int) (ca cb : Nat) (q k : Int) (w : World) (hx : Ints w A n xs) (hy : Ints w B m cs) (hl : n ≤ 1000000000) (hl' : m ≤ 1000000000) :
    Calls Try.prog 46 #[.slice A n ca, .slice B m cb, .int .i64 q, .int .i64 k] w fun e w' => e = .returned (.tuple #[.int .i64 (spaA xs cs q k), .int .i64 (spaB xs cs q k), .int .i64 (spaE xs cs q k)]) ∧ Below w.heap.size w w' := by
  have hc := pk_checkOrder A B n m xs cs ca cb q w hx hy hl hl'
  have hi := pk_isIndex A n ca k w
  by_cases h1 : chkO xs cs q = 0
  · by_cases h2 : isIx n k = true
    · have hE0 := spaE_u (k := k) h1 (by rw [hx.len]; exact h2)
      obtain ⟨h3, h4, h5⟩ := chkO_ok h1
      obtain ⟨h6, h7, h8⟩ := chkS_ok h3
      obtain ⟨s1, s2, hN, hp⟩ := hx.sizes h6
      obtain ⟨hM, hq⟩ := hy.stock h8
      rw [h1] at hc
      rw [h2] at hi
      simp only [isIx, Bool.and_eq_true, decide_eq_true_eq] at h2
      obtain ⟨q, rfl⟩ := Int.eq_ofNat_of_zero_le h4
      obtain ⟨k, rfl⟩ := Int.eq_ofNat_of_zero_le h2.1
      have hnm : m = n := by rw [← hx.len, ← hy.len, h7]
      subst hnm
      have hu := pk_packetsUsed A B m (natL xs) (natL cs) ca cb q k w hN hM (sub1000 hp) (fun c h => by have := hq c h; omega) s2 (by omega) (by omega)
      have hue : useL (zp (natL xs) (outL (natL cs) k) m) q (NAt (natL xs) k) (NAt (natL cs) k + 1) = spaU xs cs q k := by
        rw [spaU, hx.len, Int.toNat_natCast, Int.toNat_natCast]
      rw [hue] at hu
      have hul : (spaU xs cs q k).length ≤ 100 := by
        rw [← hue]
        refine Nat.le_trans (useL_len _ _ _ _) ?_
        have := NAt_le hq k
        omega
      clear h1 h3 h6 h7 hue
      by_cases h0 : (spaU xs cs (q : Int) (k : Int)).length = 0
      · have hE' : spaE xs cs q k = 12 := by rw [hE0, if_pos h0]
        have hA := Lib.hid (show spaA xs cs q k = 0 by rw [spaA, if_neg (by rw [hE']; decide)])
        have hB := Lib.hid (show spaB xs cs q k = 0 by rw [spaB, if_neg (by rw [hE']; decide)])
        have hE := Lib.hid hE'
        have h0 := Lib.hid h0
        clear hE' hE0
        go_enter Try.func46, Try.ntmps46
        go_wp2_with fail
        refine hc.mono ?_; rintro e w' ⟨rfl, rfl⟩
        go_wp2_with fail
        refine hi.mono ?_; rintro e w' ⟨rfl, rfl⟩
        go_wp2_with fail
        refine hu.mono ?_; rintro e w1 ⟨A1, c1, rfl, hI, hw1⟩
        rw [h0.out]
        go_wp2_with fail
        go_ret3
        exact ⟨by rw [hA.out, hB.out, hE.out]; rfl, hw1⟩
      · have hE' : spaE xs cs q k = 0 := by rw [hE0, if_neg h0]
        have hA := Lib.hid (show spaA xs cs q k = At (spaU xs cs q k) 0 by rw [spaA, if_pos hE'])
        have hB := Lib.hid (show spaB xs cs q k = At (spaU xs cs q k) ((spaU xs cs q k).length - 1) by rw [spaB, if_pos hE'])
        have hE := Lib.hid hE'
        clear hE' hE0
        go_enter Try.func46, Try.ntmps46
        go_wp2_with fail
        refine hc.mono ?_; rintro e w' ⟨rfl, rfl⟩
        go_wp2_with fail
        refine hi.mono ?_; rintro e w' ⟨rfl, rfl⟩
        go_wp2_with fail
        refine hu.mono ?_; rintro e w1 ⟨A1, c1, rfl, hI, hw1⟩
        generalize (spaU xs cs (q : Int) (k : Int)).length = L at *
        obtain ⟨b, off, rfl, _, hcl⟩ := hI.at_ (k := L - 1) (by omega)
        obtain ⟨b', off', e', _, hcl'⟩ := hI.at_ (k := 0) (by omega)
        cases e'
        rw [Nat.add_zero] at hcl'
        have z0 : ((L : Int) == 0) = false := by simp; omega
        have z1 : (0 : Int) ≤ (L : Int) - 1 := by omega
        have z2 : (1 : Int) ≤ (L : Int) := by omega
        have z3 : (0 : Int) < (L : Int) := by omega
        have z4 : (L : Int) - 1 < (L : Int) := by omega
        have z6 : ((L : Int) - 1).toNat = L - 1 := by omega
        have z5 : IntKind.i64.wrap ((L : Int) - 1) = (L : Int) - 1 := wrap_ok (by omega) (by omega)
        go_wp2_with fail
        go_region
        all_goals go_wp2_with fail
        all_goals go_ret3
        all_goals exact ⟨by rw [hA.out, hB.out, hE.out]; rfl, hw1.drew⟩
    · have hE' := spaE_2 (k := k) h1 (by rw [hx.len]; exact h2)
      have hA := Lib.hid (show spaA xs cs q k = 0 by rw [spaA, if_neg (by rw [hE']; decide)])
      have hB := Lib.hid (show spaB xs cs q k = 0 by rw [spaB, if_neg (by rw [hE']; decide)])
      have hE := Lib.hid hE'
      rw [h1] at hc
      rw [show isIx n k = false by simpa using h2] at hi
      clear h1 h2 hE'
      go_enter Try.func46, Try.ntmps46
      go_wp2_with fail
      refine hc.mono ?_; rintro e w' ⟨rfl, rfl⟩
      go_wp2_with fail
      refine hi.mono ?_; rintro e w' ⟨rfl, rfl⟩
      go_wp2_with fail
      go_ret3
      exact ⟨by rw [hA.out, hB.out, hE.out]; rfl, Below.refl _ _⟩
  · have hb := ne0 h1
    have hE' : spaE xs cs q k = chkO xs cs q := by rw [spaE, if_neg h1]
    have hA := Lib.hid (show spaA xs cs q k = 0 by rw [spaA, if_neg (by rw [hE']; exact h1)])
    have hB := Lib.hid (show spaB xs cs q k = 0 by rw [spaB, if_neg (by rw [hE']; exact h1)])
    have hE := Lib.hid hE'
    clear h1 hE'
    go_enter Try.func46, Try.ntmps46
    go_wp2_with fail
    refine hc.mono ?_; rintro e w' ⟨rfl, rfl⟩
    go_wp2_with fail
    go_ret3
    exact ⟨by rw [hA.out, hB.out, hE.out]; rfl, Below.refl _ _⟩

/-- Whether a filling keeps to a stock: the error of the first k numbers. -/
def verTo (cs fs : List Int) : Nat → Int
  | 0 => 0
  | k + 1 => if verTo cs fs k = 0 then (if At fs k < 0 ∨ At cs k < At fs k then 1 else 0) else verTo cs fs k
theorem verTo_stay {cs xs : List Int} {k : Nat} (h : verTo cs xs k ≠ 0) : ∀ j, verTo cs xs (k + j) = verTo cs xs k := by
  intro j
  induction j with
  | zero => rfl
  | succ j ih => rw [← Nat.add_assoc, verTo, if_neg (by rw [ih]; exact h), ih]
theorem verTo_hit {cs xs : List Int} {k n : Nat} (h0 : verTo cs xs k = 0) (h : At xs k < 0 ∨ At cs k < At xs k) (hk : k < n) : verTo cs xs n = 1 := by
  have e : verTo cs xs (k + 1) = 1 := by rw [verTo, if_pos h0, if_pos h]
  have := verTo_stay (cs := cs) (xs := xs) (k := k + 1) (by rw [e]; decide) (n - (k + 1))
  rw [show k + 1 + (n - (k + 1)) = n by omega, e] at this
  exact this
theorem verTo_pass {cs xs : List Int} {k : Nat} (h0 : verTo cs xs k = 0) (h : ¬ (At xs k < 0 ∨ At cs k < At xs k)) : verTo cs xs (k + 1) = 0 := by
  rw [verTo, if_pos h0, if_neg h]
theorem verTo_ok {cs xs : List Int} {n : Nat} (h : verTo cs xs n = 0) : ∀ k, k < n → 0 ≤ At xs k ∧ At xs k ≤ At cs k := by
  induction n with
  | zero => intro k hk; omega
  | succ n ih =>
    intro k hk
    rw [verTo] at h
    split at h
    · rename_i h0
      by_cases e : k = n
      · subst e
        split at h
        · cases h
        · omega
      · exact ih h0 k (by omega)
    · rename_i h0; exact absurd h h0
def verE (xs cs : List Int) (n : Int) (fs : List Int) : Int :=
  if chkO xs cs n = 0 then (if fs.length = xs.length then (if verTo cs fs xs.length = 0 then (if (dotTo (natL xs) (natL fs) xs.length : Int) = n then 0 else 17) else 1) else 5) else chkO xs cs n
set_option maxRecDepth 100000 in
set_option maxHeartbeats 2000000 in
theorem pk_Verify (A B C : Option Addr) (n m l : Nat) (xs cs fs : List Int) (ca cb cc : Nat) (q : Int) (w : World) (hx : Ints w A n xs) (hy : Ints w B m cs) (hz : Ints w C l fs) (hl : n ≤ 1000000000) (hl' : m ≤ 1000000000) (hl'' : l ≤ 1000000000) :
    Calls Try.prog 38 #[.slice A n ca, .slice B m cb, .int .i64 q, .slice C l cc] w fun e w' => e = .returned (.int .i64 (verE xs cs q fs)) ∧ w = w' := by
  have hc := pk_checkOrder A B n m xs cs ca cb q w hx hy hl hl'
  by_cases h1 : chkO xs cs q = 0
  · by_cases h2 : l = n
    · subst h2
      obtain ⟨h3, h4, h5⟩ := chkO_ok h1
      obtain ⟨h6, h7, h8⟩ := chkS_ok h3
      obtain ⟨s1, s2, hN, hp⟩ := hx.sizes h6
      have hE := Lib.hid (show verE xs cs q fs = if verTo cs fs l = 0 then (if (dotTo (natL xs) (natL fs) l : Int) = q then 0 else 17) else 1 by rw [verE, if_pos h1, hx.len, if_pos hz.len])
      have hnm : m = l := by rw [← hx.len, ← hy.len, h7]
      subst hnm
      have h8 := Lib.hid (fun k (hk : k < m) => h8 k (by rw [hy.len]; exact hk))
      rw [h1] at hc
      clear h1 h3 h6 h7
      go_enter Try.func38, Try.ntmps38
      go_wp2_with fail
      refine hc.mono ?_; rintro e w' ⟨rfl, rfl⟩
      go_wp2_with fail
      go_loop [26] (fun i => ∃ k : Nat, k ≤ m ∧ i = .int .i64 k ∧ Hid (verTo cs fs k = 0)) (fun i => m - (intOf i).toNat)
      case atStart => exact ⟨0, by omega, rfl, rfl⟩
      case round =>
        obtain ⟨k, hk, rfl, hz0⟩ := hrel
        by_cases hlt : k < m
        · obtain ⟨b, off, rfl, hb, hcl⟩ := hy.at_ hlt
          obtain ⟨b', off', rfl, hb', hcl'⟩ := hz.at_ hlt
          have hki : (0 : Int) ≤ (k : Int) := by omega
          have hkn : (k : Int) < m := by omega
          by_cases g1 : At fs k < 0
          · go_wp2_with fail
            go_ret
            exact ⟨ret_int (by rw [hE.out, verTo_hit hz0.out (.inl g1) hlt, if_neg (by decide)]), rfl⟩
          by_cases g2 : At cs k < At fs k
          · go_wp2_with fail
            go_ret
            exact ⟨ret_int (by rw [hE.out, verTo_hit hz0.out (.inr g2) hlt, if_neg (by decide)]), rfl⟩
          · go_wp2_with fail
            go_round
            case rel => exact ⟨k + 1, by omega, by go_num, verTo_pass hz0.out (by omega)⟩
            case measure => simp [intOf]; omega
        · obtain rfl : k = m := by omega
          have hok := verTo_ok hz0.out
          have hF : Nats w C k (natL fs) := hz.nats fun j hj => (hok j hj).1
          have hf40 : ∀ s ∈ natL fs, s ≤ 1000 := natL_all fun j hj => by
            rw [hz.len] at hj
            have a1 := hok j hj
            have a2 := h8.out j hj
            omega
          have hfe := pk_feathers A C k (natL xs) (natL fs) ca cc w hN hF (fun s h => by have := hp s h; omega) hf40 (by omega)
          clear hok
          by_cases g : (dotTo (natL xs) (natL fs) k : Int) = q
          · have hbb : ((dotTo (natL xs) (natL fs) k : Int) != q) = false := by simp [g]
            have G := Lib.hid g; clear g
            go_wp2_with fail
            refine hfe.mono ?_; rintro e w' ⟨rfl, rfl⟩
            go_wp2_with fail
            go_ret
            exact ⟨ret_int (by rw [hE.out, hz0.out, if_pos rfl, if_pos G.out]), rfl⟩
          · have hbb : ((dotTo (natL xs) (natL fs) k : Int) != q) = true := by simp [g]
            have G := Lib.hid g; clear g
            go_wp2_with fail
            refine hfe.mono ?_; rintro e w' ⟨rfl, rfl⟩
            go_wp2_with fail
            go_ret
            exact ⟨ret_int (by rw [hE.out, hz0.out, if_pos rfl, if_neg G.out]), rfl⟩
    · have hE := Lib.hid (show verE xs cs q fs = 5 by rw [verE, if_pos h1, if_neg (by rw [hx.len, hz.len]; exact h2)])
      have hb : ((l : Int) != n) = true := by simp; omega
      rw [h1] at hc
      clear h1
      go_enter Try.func38, Try.ntmps38
      go_wp2_with fail
      refine hc.mono ?_; rintro e w' ⟨rfl, rfl⟩
      go_wp2_with fail
      go_ret
      exact ⟨ret_int (by rw [hE.out]), rfl⟩
  · have hb := ne0 h1
    have hE := Lib.hid (show verE xs cs q fs = chkO xs cs q by rw [verE, if_neg h1])
    clear h1
    go_enter Try.func38, Try.ntmps38
    go_wp2_with fail
    refine hc.mono ?_; rintro e w' ⟨rfl, rfl⟩
    go_wp2_with fail
    go_ret
    exact ⟨ret_int (by rw [hE.out]), rfl⟩
end Go.Proofs.Ytjcoaicpeajpnaa
