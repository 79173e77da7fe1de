/- The shelf by numbers: (Shelf).made makes sizes in ascending order, and a stock. -/
import Derived.Test.YtjcoaicpeajpnaaSlSort
import Derived.Test.YtjcoaicpeajpnaaPkW8
namespace Go.Proofs.Ytjcoaicpeajpnaa
open Go.RowKit Pk

/-- A shelf by nine bytes. -/
def shA (z : Nat → Nat) : Array Value := #[.int .u8 (z 0), .int .u8 (z 1), .int .u8 (z 2), .int .u8 (z 3), .int .u8 (z 4), .int .u8 (z 5), .int .u8 (z 6), .int .u8 (z 7), .int .u8 (z 8)]
theorem shA_at (z : Nat → Nat) {i : Nat} (h : i < 9) : (shA z)[i]? = some (.int .u8 (z i)) := by
  rcases (show i = 0 ∨ i = 1 ∨ i = 2 ∨ i = 3 ∨ i = 4 ∨ i = 5 ∨ i = 6 ∨ i = 7 ∨ i = 8 by omega) with rfl | rfl | rfl | rfl | rfl | rfl | rfl | rfl | rfl <;> rfl

/-- Sizes: one to four, in strictly ascending order, none greater than a bound. -/
def Sizes (ps : List Nat) (n size : Nat) : Prop := ps.length = n ∧ 1 ≤ n ∧ n ≤ 4 ∧ (∀ a b, a < b → b < n → NAt ps a < NAt ps b) ∧ ∀ s ∈ ps, 1 ≤ s ∧ s ≤ size
theorem At_map (ps : List Nat) (k : Nat) : At (ps.map Int.ofNat) k = (NAt ps k : Int) := by
  simp only [NAt, At, List.getElem?_map]; cases ps[k]? <;> simp
theorem Sizes.at_ {ps : List Nat} {n size : Nat} (h : Sizes ps n size) {k : Nat} (hk : k < n) : 1 ≤ NAt ps k ∧ NAt ps k ≤ size := h.2.2.2.2 _ (NAt_mem (by rw [h.1]; exact hk))
theorem Sizes.chk {ps : List Nat} {n size : Nat} (h : Sizes ps n size) (hs : size ≤ 30) : chk (ps.map Int.ofNat) = 0 := by
  have hto : ∀ k, k ≤ n → chkTo (ps.map Int.ofNat) k = 0 := by
    intro k
    induction k with
    | zero => intro _; rfl
    | succ k ih =>
      intro hk
      refine chkTo_pass (ih (by omega)) ?_
      have h1 := h.at_ (k := k) (by omega)
      rw [chk1, At_map, At_map, if_neg (by omega), if_neg]
      rintro ⟨h2, h3⟩
      have := h.2.2.2.1 (k - 1) k (by omega) (by omega)
      omega
  rw [chk_len (n := n) (by rw [List.length_map]; exact h.1) (by have := h.2.1; omega) (by have := h.2.2.1; omega)]
  exact hto n (Nat.le_refl n)
theorem natL_map (ps : List Nat) : natL (ps.map Int.ofNat) = ps := by
  rw [natL, List.map_map]; exact (List.map_congr_left (fun _ _ => rfl)).trans (List.map_id ps)

theorem OwnI.some_ {w : World} {base : Nat} {v : Value} {xs : List Int} (h : OwnI w base v xs) (hne : xs ≠ []) : ∃ g cap, v = .slice (some ⟨g, 0, none⟩) xs.length cap ∧ base ≤ g ∧ xs.length ≤ cap ∧ cap ≤ 9223372036854775807 := by
  rcases h.2 with ⟨_, hn⟩ | ⟨g, cap, cur, rfl, hg, _, h1, h2, _⟩
  · exact absurd (List.eq_nil_of_length_eq_zero hn) hne
  · exact ⟨g, cap, rfl, hg, h1, h2⟩
/-- What the walk knows of the sizes as they are collected: all different, each from 1 to a bound. -/
def Coll (xs : List Int) (size k : Nat) : Prop := xs.length ≤ k ∧ (0 < k → xs ≠ []) ∧ xs.Nodup ∧ ∀ x ∈ xs, 1 ≤ x ∧ x ≤ size
theorem Coll.stay {xs : List Int} {size k : Nat} {x : Int} (h : Coll xs size k) (hx : xs.contains x = true) : Coll xs size (k + 1) := by
  refine ⟨Nat.le_succ_of_le h.1, fun _ e => ?_, h.2.2⟩
  rw [e] at hx; simp at hx
theorem Coll.grow {xs : List Int} {size k : Nat} {x : Int} (h : Coll xs size k) (hx : xs.contains x = false) (h1 : 1 ≤ x) (h2 : x ≤ size) : Coll (xs ++ [x]) size (k + 1) := by
  have hn : x ∉ xs := by rw [← List.contains_iff_mem, hx]; simp
  refine ⟨by have := h.1; simp; omega, fun _ => by simp, ?_, fun y hy => ?_⟩
  · rw [List.nodup_append]
    exact ⟨h.2.2.1, by simp, fun a ha b hb => by rw [List.mem_singleton] at hb; subst hb; rintro rfl; exact hn ha⟩
  · rcases List.mem_append.1 hy with hy | hy
    · exact h.2.2.2 y hy
    · rw [List.mem_singleton] at hy; subst hy; exact ⟨h1, h2⟩
theorem Coll.sorted {xs zs : List Int} {size k n : Nat} (h : Coll xs size k) (hk : 0 < k) (hk4 : k ≤ 4) (hn : xs.length = n) (hp : zs.Perm xs) (ho : Ord zs n) : ∃ ps : List Nat, zs = ps.map Int.ofNat ∧ Sizes ps n size := by
  have hl : zs.length = n := hp.length_eq.trans hn
  have hmem : ∀ x ∈ zs, 1 ≤ x ∧ x ≤ size := fun x hx => h.2.2.2 x (hp.mem_iff.1 hx)
  have e : zs = (natL zs).map Int.ofNat := by
    rw [natL, List.map_map]
    refine (List.map_id zs).symm.trans (List.map_congr_left fun x hx => ?_)
    have := hmem x hx
    show x = ((x.toNat : Nat) : Int)
    omega
  have hnd : zs.Nodup := hp.symm.nodup h.2.2.1
  refine ⟨natL zs, e, by rw [natL_len, hl], ?_, by rw [← hn]; exact Nat.le_trans h.1 hk4, fun a b hab hb => ?_, fun s hs => ?_⟩
  · rw [← hn]; exact List.length_pos_iff.2 (h.2.1 hk)
  · have h1 := ho a b hab hb
    have h2 : At zs a ≠ At zs b := by
      rw [At, At, List.getElem?_eq_getElem (show a < zs.length by omega), List.getElem?_eq_getElem (show b < zs.length by omega)]
      intro he
      exact List.pairwise_iff_getElem.1 hnd a b (by omega) (by omega) hab (by simpa using he)
    have h3 : 1 ≤ At zs a := by
      rw [At, List.getElem?_eq_getElem (show a < zs.length by omega)]; exact (hmem _ (List.getElem_mem _)).1
    rw [NAt_natL, NAt_natL]
    omega
  · obtain ⟨x, hx, rfl⟩ := List.mem_map.1 hs
    have := hmem x hx
    omega

set_option maxRecDepth 100000 in
set_option maxHeartbeats 4000000 in
theorem lw_made (z : Nat → Nat) (hz : ∀ i, z i ≤ 255) (size stock : Nat) (h1 : 1 ≤ size) (h2 : size ≤ 1000) (h3 : stock ≤ 1000) (w : World) :
    Calls Try.prog 51 #[.agg (shA z), .int .i64 size, .int .i64 stock] w fun e w' => ∃ A c B d n ps cs, e = .returned (.tuple #[.slice A n c, .slice B n d]) ∧ Nats w' A n ps ∧ Nats w' B n cs ∧ Sizes ps n size ∧ (∀ c ∈ cs, c ≤ stock) ∧ n ≤ c ∧ c ≤ 9223372036854775807 ∧ Below w.heap.size w w' := by
  have hW := Whole.new w 53 (shA z)
  have hB0 := (Below.refl w.heap.size w).alloc (Nat.le_refl _) (.cells (shA z) 53)
  have c8 := (hW.cell 8).trans (shA_at z (by omega))
  obtain ⟨r, e8, l8⟩ : ∃ r : Nat, ((z 8 : Nat) : Int) % 4 = (r : Int) ∧ r < 4 := ⟨z 8 % 4, by simp, Nat.mod_lt _ (by omega)⟩
  have hz8 := hz 8
  obtain ⟨m, hm⟩ : ∃ m : Nat, m = 1 + r := ⟨_, rfl⟩
  have hmi : (1 : Int) + (r : Int) = (m : Int) := by omega
  have hm1 : 1 ≤ m := by omega
  have hm4 : m ≤ 4 := by omega
  clear hm l8
  obtain ⟨cs, hcs⟩ : ∃ cs, cs = shA z := ⟨_, rfl⟩
  have hAt := fun (i : Nat) (h : i < 9) => shA_at z h
  have a8 := hAt 8 (by omega)
  rw [← hcs] at hW hB0 a8 c8 hAt ⊢
  clear hcs
  go_enter Try.func51, Try.ntmps51
  go_wp2_with fail
  clear e8 hmi
  go_loopw [6, 16] (fun v q wr => ∃ (i : Nat) (xs : List Int), i ≤ m ∧ q = .int .i64 i ∧ OwnI wr (w.heap.size + 1) v xs ∧ Whole wr w.heap.size 53 cs ∧ Hid (Coll xs size i) ∧ Below (w.heap.size + 1) (w.alloc (.cells cs 53)) wr) (fun _ q _ => m - (intOf q).toNat)
  case atStart => exact ⟨0, [], by omega, rfl, OwnI.nil_ _ _, hW, ⟨by simp, by omega, by simp, by simp⟩, Below.refl _ _⟩
  case round =>
    obtain ⟨i, xs, him, rfl, hown, hW, hco, hb⟩ := hrel
    have hsz : w.heap.size + 1 ≤ wr.heap.size := hW.lt
    by_cases hlt : i < m
    · obtain ⟨A, c, rfl, hI⟩ := hown.form
      have hxl := hco.out.1
      have ci := (hW.cell i).trans (hAt i (by omega))
      have hzi := hz i
      have z1 : (i : Int) < m := by omega
      have z2 : (0 : Int) ≤ (i : Int) := by omega
      have z3 : (i : Int) < 4 := by omega
      obtain ⟨r', e9, l9⟩ : ∃ r' : Nat, ((z i : Nat) : Int) % (size : Int) = (r' : Int) ∧ r' < size := ⟨z i % size, by simp, Nat.mod_lt _ (by omega)⟩
      obtain ⟨x, hx⟩ : ∃ x : Nat, x = 1 + r' := ⟨_, rfl⟩
      have hxi : (1 : Int) + (r' : Int) = (x : Int) := by omega
      have hx1 : 1 ≤ x := by omega
      have hx2 : x ≤ size := by omega
      clear hx l9
      have hC := sl_Contains A xs.length xs c x wr hI (by omega)
      cases hct : xs.contains (x : Int) with
      | true =>
        have hst := Lib.hid (hco.out.stay hct)
        rw [hct] at hC
        clear hct
        go_wp2_with fail
        refine hC.mono ?_; rintro e w2 ⟨rfl, rfl⟩
        go_wp2_with fail
        exact ⟨⟨i + 1, xs, by omega, by go_num, hown, hW, hst.out, hb⟩, by simp [intOf]; omega⟩
      | false =>
        have hst := Lib.hid (hco.out.grow hct (by omega) (by omega))
        rw [hct] at hC
        clear hct
        go_wp2_with fail
        refine hC.mono ?_; rintro e w2 ⟨rfl, rfl⟩
        go_wp2_with (at_builtin; refine wpList_appI rfl _ _ rfl (w.heap.size + 1) _ xs x (by rfl) hown hsz (by omega) (by rfl) ?_; intro v' w' hown' hb')
        have hb2 := hb' _ hb
        exact ⟨⟨i + 1, _, by omega, by go_num, hown', (Whole.new w _ cs).below hb2 (by omega), hst.out, hb2⟩, by simp [intOf]; omega⟩
    · obtain rfl : i = m := by omega
      have hco := hco.out
      obtain ⟨g, cap, rfl, hg, hnc, hcm⟩ := hown.some_ (hco.2.1 (by omega))
      have hn4 : xs.length ≤ 4 := Nat.le_trans hco.1 hm4
      obtain ⟨n, hn⟩ : ∃ n, xs.length = n := ⟨_, rfl⟩
      rw [hn] at hown hn4 hnc ⊢
      have hS := sl_Sort (w.heap.size + 1) g n cap xs wr hown (by omega)
      have hco := Lib.hid hco
      have hn := Lib.hid hn
      go_wp2_with fail
      refine hS.mono ?_; rintro e w1 ⟨rfl, zs, hown1, hp, ho, hb1⟩
      obtain ⟨ps, rfl, hps⟩ := hco.out.sorted (by omega) hm4 hn.out hp ho
      have hB1 : Below w.heap.size w w1 := hB0.trans ((hb.trans hb1).mono (by omega))
      have hW1 := hW.below hb1 (by omega)
      have hl1 : (ps.map Int.ofNat).length = n := by rw [List.length_map]; exact hps.1
      obtain ⟨_, _, e1, hI1⟩ := hown1.form
      rw [hl1] at e1 hI1
      cases e1
      clear hS hb hb1 hown hW hown1 hp ho hco hn hB0 hsz
      have hN1 := hI1.nats fun k hk => by rw [At_map]; omega
      rw [natL_map] at hN1
      go_wp2_with fail
      clear c8 hl1
      have hnc := Lib.hid hnc
      go_loopw [7, 40] (fun v q wr => ∃ (j : Nat) (ds : List Int), j ≤ n ∧ q = .int .i64 j ∧ OwnI wr w1.heap.size v ds ∧ Hid (ds.length = j ∧ ∀ d ∈ ds, 0 ≤ d ∧ d ≤ stock) ∧ Below w1.heap.size w1 wr) (fun _ q _ => n - (intOf q).toNat)
      case atStart => exact ⟨0, [], by omega, rfl, OwnI.nil_ _ _, ⟨rfl, by simp⟩, Below.refl _ _⟩
      case round =>
        obtain ⟨j, ds, hj, rfl, hown, hds, hb⟩ := hrel
        have hsz := hb.size
        by_cases hlt : j < n
        · obtain ⟨A, c, rfl, hI⟩ := hown.form
          have ci := ((hW1.below hb hW1.lt).cell (4 + j)).trans (hAt (4 + j) (by omega))
          have hzi := hz (4 + j)
          have z1 : (j : Int) < n := by omega
          have z2 : (0 : Int) ≤ (j : Int) := by omega
          have z3 : (j : Int) < 4 := by omega
          have z4 : (0 : Int) < (stock : Int) + 1 := by omega
          obtain ⟨x, e9, l9⟩ : ∃ x : Nat, ((z (4 + j) : Nat) : Int) % ((stock : Int) + 1) = (x : Int) ∧ x ≤ stock := ⟨z (4 + j) % (stock + 1), by simp, Nat.le_of_lt_succ (Nat.mod_lt _ (by omega))⟩
          have hst := Lib.hid (show (ds ++ [(x : Int)]).length = j + 1 ∧ ∀ d ∈ ds ++ [(x : Int)], 0 ≤ d ∧ d ≤ stock from ⟨by simp [hds.out.1], fun d hd => by
            rcases List.mem_append.1 hd with hd | hd
            · exact hds.out.2 d hd
            · rw [List.mem_singleton] at hd; subst hd; omega⟩)
          go_wp2_with (at_builtin; refine wpList_appI rfl _ _ rfl w1.heap.size _ ds x (by rfl) hown hsz (by have := hds.out.1; omega) (by rfl) ?_; intro v' w' hown' hb')
          exact ⟨⟨j + 1, _, by omega, by go_num, hown', hst.out, hb' _ hb⟩, by simp [intOf]; omega⟩
        · obtain rfl : j = n := by omega
          obtain ⟨B, d, rfl, hI⟩ := hown.form
          have hds := hds.out
          rw [hds.1] at hI ⊢
          have hds := Lib.hid hds
          go_wp2_with fail
          go_ret2
          have hds := hds.out
          have h0 : ∀ k, k < j → 0 ≤ At ds k ∧ At ds k ≤ stock := fun k hk => by
            rw [At, List.getElem?_eq_getElem (by omega)]; exact hds.2 _ (List.getElem_mem _)
          refine ⟨_, cap, B, d, j, ps, natL ds, rfl, hN1.below hb, hI.nats fun k hk => (h0 k hk).1, hps, natL_all fun k hk => ?_, hnc.out, hcm, hB1.trans (hb.mono hB1.size)⟩
          have := h0 k (by omega)
          omega
end Go.Proofs.Ytjcoaicpeajpnaa
