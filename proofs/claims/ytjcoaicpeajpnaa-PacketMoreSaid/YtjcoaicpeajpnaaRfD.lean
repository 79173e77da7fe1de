/- Walks of the reference: Needed. -/
import Derived.Test.YtjcoaicpeajpnaaRfC
import Derived.Test.YtjcoaicpeajpnaaPkApp
import Derived.Deep.RegionWith
namespace Go.Proofs.Ytjcoaicpeajpnaa
open Go.RowKit Pk

theorem Ints.take {w : World} {A : Option Addr} {n i : Nat} {xs : List Int} (h : Ints w A n xs) (hi : i ≤ n) : Ints w A i (xs.take i) :=
  ⟨by rw [List.length_take, h.1]; omega, fun k hk => by
    obtain ⟨b, off, e, hb, hc⟩ := h.2 k (by omega)
    refine ⟨b, off, e, hb, ?_⟩
    rw [hc]
    simp [At, hk]⟩
theorem Ints.drop {w : World} {b off n i ca : Nat} {xs : List Int} (h : Ints w (some ⟨b, off, none⟩) n xs) (hn : n ≤ ca) :
    Ints w (if ca = i then some ⟨b, off, none⟩ else some ⟨b, off + i, none⟩) (n - i) (xs.drop i) :=
  ⟨by rw [List.length_drop, h.1], fun k hk => by
    obtain ⟨b', off', e, hb, hc⟩ := h.2 (i + k) (by omega)
    cases e
    rw [if_neg (by omega)]
    refine ⟨b, off + i, rfl, hb, ?_⟩
    rw [Nat.add_assoc, hc]
    simp [At]⟩

theorem asc {xs : List Int} {n : Nat} (h : chk xs = 0) (hl : xs.length = n) {i : Nat} : ∀ d, i + d + 1 < n → At xs i < At xs (i + d + 1) := by
  obtain ⟨_, _, h3⟩ := chk_ok h hl
  intro d
  induction d with
  | zero => intro hd; have := (h3 (i + 0 + 1) hd).2.2 (by omega); simpa using this
  | succ d ih =>
    intro hd
    have h1 := ih (by omega)
    have h2 := (h3 (i + (d + 1) + 1) hd).2.2 (by omega)
    have e : i + (d + 1) + 1 - 1 = i + d + 1 := by omega
    rw [e] at h2
    omega
theorem le_sum {l : List Nat} {y : Nat} (h : y ∈ l) : y ≤ l.sum := by
  have := Pk.sum_erase h; omega
/-- Greater sizes do not help. -/
theorem rest_eq {xs : List Int} {n x : Nat} (h : chk xs = 0) (hl : xs.length = n) (hx : x < n) :
    rB (natL (xs.take x ++ xs.drop (x + 1))) (NAt (natL xs) x) = rB ((natL xs).take x) (NAt (natL xs) x) := by
  obtain ⟨_, _, h3⟩ := chk_ok h hl
  have hpos : ∀ s ∈ natL xs, 0 < s := natL_all fun k hk => by have := h3 k (by rw [← hl]; exact hk); omega
  have e : natL (xs.take x ++ xs.drop (x + 1)) = (natL xs).take x ++ (natL xs).drop (x + 1) := by simp [natL]
  rw [e]
  have p1 : ∀ s ∈ (natL xs).take x ++ (natL xs).drop (x + 1), 0 < s := fun s hs => by
    rcases List.mem_append.1 hs with h | h
    · exact hpos s (List.mem_of_mem_take h)
    · exact hpos s (List.mem_of_mem_drop h)
  have p2 : ∀ s ∈ (natL xs).take x, 0 < s := fun s hs => hpos s (List.mem_of_mem_take hs)
  rw [Bool.eq_iff_iff, rB_iff p1, rB_iff p2]
  constructor
  · rintro ⟨l, h1, h2⟩
    refine ⟨l, fun y hy => ?_, h2⟩
    rcases List.mem_append.1 (h1 y hy) with h | h'
    · exact h
    · exfalso
      obtain ⟨j, hj, rfl⟩ := List.mem_iff_getElem.1 h'
      have hy' := le_sum hy
      simp only [List.getElem_drop] at hy'
      rw [List.length_drop, natL_len] at hj
      have ha := asc h hl (i := x) j (by omega)
      have e2 : (natL xs)[x + 1 + j]'(by rw [natL_len]; omega) = (At xs (x + j + 1)).toNat := by
        rw [← NAt_natL, NAt, List.getElem?_eq_getElem (by rw [natL_len]; omega)]
        simp only [Option.getD_some]
        congr 1
        omega
      rw [e2, h2, NAt_natL] at hy'
      have := (h3 (x + j + 1) (by omega)).1
      omega
  · intro h
    exact R_mono (fun y hy => List.mem_append_left _ hy) h

theorem rest_nn {xs : List Int} {n x : Nat} (h : chk xs = 0) (hl : xs.length = n) (_hx : x < n) (k : Nat) (hk : k < (xs.take x ++ xs.drop (x + 1)).length) : 0 ≤ At (xs.take x ++ xs.drop (x + 1)) k := by
  obtain ⟨_, _, h3⟩ := chk_ok h hl
  have hall : ∀ y ∈ xs, 0 ≤ y := by
    intro y hy
    obtain ⟨j, hj, rfl⟩ := List.mem_iff_getElem.1 hy
    have := (h3 j (by omega)).1
    rw [At, List.getElem?_eq_getElem hj] at this
    simp at this; omega
  rw [At, List.getElem?_eq_getElem hk]
  have hm := List.getElem_mem hk
  rcases List.mem_append.1 hm with h | h
  · exact hall _ (List.mem_of_mem_take h)
  · exact hall _ (List.mem_of_mem_drop h)
set_option maxRecDepth 100000 in
set_option maxHeartbeats 2000000 in
theorem rf_Needed (A : Option Addr) (n : Nat) (xs : List Int) (ca : Nat) (w : World) (hx : Ints w A n xs) (hl : n ≤ 1000000000) (hca : n ≤ ca) (hca' : ca ≤ 9223372036854775807) :
    Calls Try.prog 35 #[.slice A n ca] w fun e w' => GivesE w w' e (nedV xs) (chk xs) := by
  have hc := rf_Check A n xs ca w hx hl
  by_cases h1 : chk xs = 0
  · obtain ⟨s1, s2, hN, hp⟩ := hx.sizes h1
    have hV := Lib.hid (show nedV xs = nedL (natL xs) n by rw [nedV, if_pos h1, hx.len])
    have hE := Lib.hid h1
    have H0 := Lib.hid h1
    rw [h1] at hc
    clear h1
    go_enter Try.func35, Try.ntmps35
    go_wp2_with fail
    refine hc.mono ?_; rintro e w' ⟨rfl, j, rfl⟩
    go_wp2_with fail
    go_loopw [5, 6] (fun v i wr => ∃ x : Nat, x ≤ n ∧ i = .int .i64 x ∧ OwnI wr w.heap.size v (nedL (natL xs) x) ∧ Below w.heap.size w wr) (fun _ i _ => n - (intOf i).toNat)
    case atStart => exact ⟨0, by omega, rfl, OwnI.nil_ _ _, bdrewN (Below.refl _ _) _⟩
    case round =>
      obtain ⟨x, hx1, rfl, hown, hw⟩ := hrel
      have hsz := hw.size
      have hgl := nedL_len (natL xs) x
      have HN := hN.below hw
      by_cases hlt : x < n
      · obtain ⟨b, off, rfl, hb, hcl⟩ := HN.at_ hlt
        have hs := hp _ (NAt_mem (ps := natL xs) (k := x) (by rw [hN.len]; exact hlt))
        have hxi : (0 : Int) ≤ (x : Int) := by omega
        have hxn : (x : Int) < n := by omega
        have hxc : (x : Int) ≤ ca := by omega
        have z1 : (0 : Int) ≤ (x : Int) + 1 := by omega
        have z2 : (x : Int) + 1 ≤ n := by omega
        have z3 : ((x : Int) + 1).toNat = x + 1 := by omega
        have z4 : IntKind.i64.wrap ((x : Int) + 1) = (x : Int) + 1 := wrap_ok (by omega) (by omega)
        have HX := hx.below hw
        have hcx : At xs x = (NAt (natL xs) x : Int) := by rw [NAt_natL, Int.toNat_of_nonneg]; have := hp _ (NAt_mem (ps := natL xs) (k := x) (by rw [hN.len]; exact hlt)); rw [NAt_natL] at this; omega
        have hnn := Lib.hid (fun k (hk : k < (xs.take x ++ xs.drop (x + 1)).length) => rest_nn H0.out hx.len hlt k hk)
        have hrest := Lib.hid (rest_eq H0.out hx.len hlt)
        clear hcx
        obtain ⟨wd, hwd⟩ : ∃ wd : World, wd = (wr.alloc (.cells #[] 3)).drew := ⟨_, rfl⟩
        have hown0 : OwnI wd wr.heap.size (.slice (some ⟨wr.heap.size, 0, none⟩) 0 0) [] := by rw [hwd]; exact World.ownsRow_made wr #[] 0 (Nat.le_refl _) (Nat.zero_le _) rfl
        have hbd : Below wr.heap.size wr wd := by rw [hwd]; exact ((Below.refl _ _).alloc (Nat.le_refl _) _).drew
        have hszd : wr.heap.size ≤ wd.heap.size := hbd.size
        have HWD := Lib.hid hwd; clear hwd
        go_wp2_with fail
        go_region_law ((first
          | (rw [← HWD.out]; refine step_appR rfl _ _ rfl wr.heap.size _ [] (by rfl) hown0 hszd _ _ _ (xs.take x) (by rfl) ((HX.take (by omega)).below hbd) (by simp; omega) ?_; intro v1 w1 hown1 hb1)
          | (refine step_appR rfl _ _ rfl wr.heap.size _ _ (by rfl) hown1 (hb1 _ hbd).size _ _ _ (xs.drop (x + 1)) (by rfl) ((HX.below (hb1 _ hbd)).drop hca) (by simp; omega) ?_; intro v2 w2 hown2 hb2)))
        have hw2 : Below wr.heap.size wr w2 := hb2 _ (hb1 _ hbd)
        have hf : ∃ A2 c2, v2 = .slice A2 (n - 1) c2 ∧ Ints w2 A2 (n - 1) (xs.take x ++ xs.drop (x + 1)) := by
          obtain ⟨A2, c2, e, hI⟩ := hown2.form
          have eL : ([] ++ xs.take x ++ xs.drop (x + 1)).length = n - 1 := by
            have := hx.len
            simp; omega
          rw [eL] at e hI
          exact ⟨A2, c2, e, by simpa using hI⟩
        obtain ⟨A2, c2, rfl, hI2⟩ := hf
        have hN2 : Nats w2 A2 (n - 1) (natL (xs.take x ++ xs.drop (x + 1))) := hI2.nats fun k hk => hnn.out k (by rw [hI2.len]; exact hk)
        have hpos2 : ∀ s ∈ natL (xs.take x ++ xs.drop (x + 1)), 0 < s ∧ s ≤ 1000 := by
          intro s hs
          have e : natL (xs.take x ++ xs.drop (x + 1)) = (natL xs).take x ++ (natL xs).drop (x + 1) := by simp [natL]
          rw [e] at hs
          have := hp s (by rcases List.mem_append.1 hs with h | h; exact List.mem_of_mem_take h; exact List.mem_of_mem_drop h)
          omega
        have hcl2 := (hw2.cell (p := ⟨b, off + x, none⟩) hb).trans hcl
        have hb2' : b < w2.heap.size := Nat.lt_of_lt_of_le hb hw2.size
        clear hown2 hown1 hown0 hb1 hb2 hbd hszd HWD
        generalize (if ca = x + 1 then some (⟨b, off, none⟩ : Addr) else some ⟨b, off + (x + 1), none⟩) = dead
        generalize natL (xs.take x ++ xs.drop (x + 1)) = rest at *
        have hcall : Calls Try.prog 74 #[.slice A2 (n - 1) c2, .int .i64 (NAt (natL xs) x)] w2.drew fun e w3 => ∃ g c, e = .returned (.slice (some ⟨g, 0, none⟩) (NAt (natL xs) x + 1) c) ∧
            w3.cell? ⟨g, NAt (natL xs) x, none⟩ = some (.bool (rB rest (NAt (natL xs) x))) ∧ w3.cell? ⟨b, off + x, none⟩ = some (.int .i64 (NAt (natL xs) x)) ∧ Below wr.heap.size wr w3 := by
          refine (rf_made A2 (n - 1) rest c2 (NAt (natL xs) x) w2.drew (hN2.drewN 1) hpos2 (by omega) (by omega)).mono ?_
          rintro e w3 ⟨c, rfl, hBo, hb3⟩
          obtain ⟨b4, off4, e4, _, hc4⟩ := hBo.at_ (k := NAt (natL xs) x) (by omega)
          cases e4
          rw [Nat.zero_add] at hc4
          have hb3 := undrew hb3
          exact ⟨_, c, rfl, hc4, (hb3.cell (p := ⟨b, off + x, none⟩) hb2').trans hcl2, hw2.trans (hb3.mono hw2.size)⟩
        have y1 : (NAt (natL xs) x : Int) < (NAt (natL xs) x : Int) + 1 := by omega
        have y2 : (0 : Int) ≤ (NAt (natL xs) x : Int) := by omega
        rw [hrest.out] at hcall
        by_cases hm : rB ((natL xs).take x) (NAt (natL xs) x) = true
        · have he := Lib.hid (nedL_miss hm)
          rw [hm] at hcall
          clear hm
          generalize NAt (natL xs) x = s at *
          clear z1 z2 z3 z4
          go_wp2_with fail
          go_region_with ((go_at_call 74; refine hcall.mono ?_; rintro e w3 ⟨g, c3, rfl, hc3, hc4, hw3⟩))
          all_goals go_wp2_with fail
          all_goals exact ⟨⟨x + 1, by omega, by go_num, by rw [he.out]; exact hown.below hw3, hw.trans (hw3.mono hsz)⟩, by simp [intOf]; omega⟩
        · have hm' : rB ((natL xs).take x) (NAt (natL xs) x) = false := by simpa using hm
          have he := Lib.hid (nedL_hit hm')
          rw [hm'] at hcall
          clear hm hm'
          generalize NAt (natL xs) x = s at *
          clear z1 z2 z3 z4
          go_wp2_with fail
          go_region_with ((go_at_call 74; refine hcall.mono ?_; rintro e w3 ⟨g, c3, rfl, hc3, hc4, hw3⟩))
          all_goals (have hown3 := hown.below hw3; have hsz3 := Nat.le_trans hsz hw3.size; have hw4 := hw.trans (hw3.mono hsz))
          all_goals go_wp2_with (at_builtin; refine wpList_appI rfl _ _ rfl w.heap.size _ (nedL (natL xs) x) x (by rfl) hown3 hsz3 (by omega) (by rfl) ?_; intro v' w' hown' hb')
          all_goals exact ⟨⟨x + 1, by omega, by go_num, by rw [he.out]; exact hown', hb' _ hw4⟩, by simp [intOf]; omega⟩
      · obtain rfl : x = n := by omega
        obtain ⟨A', c', rfl, hI⟩ := hown.form
        go_wp2_with fail
        go_ret2
        unfold GivesE
        rw [hV.out, hE.out]
        exact ⟨_, _, rfl, hI, hw⟩
  · have hb := ne0 h1
    have hV := Lib.hid (show nedV xs = [] by rw [nedV, if_neg h1])
    clear h1
    go_enter Try.func35, Try.ntmps35
    go_wp2_with fail
    refine hc.mono ?_; rintro e w' ⟨rfl, j, rfl⟩
    go_wp2_with fail
    go_ret2
    rw [hV.out]
    exact GivesE.nil (bdrewN (Below.refl _ _) _)
end Go.Proofs.Ytjcoaicpeajpnaa
