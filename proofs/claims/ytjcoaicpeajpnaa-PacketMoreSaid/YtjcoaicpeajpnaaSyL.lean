/- Sizes that are needed: with these alone the same numbers can be made. Two rows of the call's own beside each other. -/
import Derived.Test.YtjcoaicpeajpnaaSlClone
import Derived.Test.YtjcoaicpeajpnaaLwShelf
import Derived.Test.YtjcoaicpeajpnaaSyR
namespace Go.Proofs.Ytjcoaicpeajpnaa
open Go.RowKit Pk

/-- The sizes that are needed, of the first k. -/
def fewL (ps : List Nat) (n : Nat) : List Nat := ((List.range n).filter (fun i => !rB (ps.take i) (NAt ps i))).map (NAt ps)
theorem fewL_hit {ps : List Nat} {x : Nat} (h : rB (ps.take x) (NAt ps x) = false) : fewL ps (x + 1) = fewL ps x ++ [NAt ps x] := by
  simp [fewL, List.range_succ, List.filter_append, h]
theorem fewL_miss {ps : List Nat} {x : Nat} (h : rB (ps.take x) (NAt ps x) = true) : fewL ps (x + 1) = fewL ps x := by
  simp [fewL, List.range_succ, List.filter_append, h]
theorem fewL_len (ps : List Nat) (x : Nat) : (fewL ps x).length ≤ x := by
  rw [fewL, List.length_map]
  exact Nat.le_trans (List.length_filter_le _ _) (by simp)
theorem fewL_mem {ps : List Nat} {n x : Nat} (hn : n ≤ ps.length) (h : x ∈ fewL ps n) : x ∈ ps := by
  rw [fewL, List.mem_map] at h
  obtain ⟨i, hi, rfl⟩ := h
  have := List.mem_range.1 (List.mem_filter.1 hi).1
  exact NAt_mem (by omega)
theorem fewL_R {ps : List Nat} (hp : ∀ s ∈ ps, 0 < s) : ∀ n, n ≤ ps.length → ∀ i, i < n → R (fewL ps n) (NAt ps i) := by
  intro n
  induction n with
  | zero => intro _ i hi; omega
  | succ n ih =>
    intro hn i hi
    have ih := ih (by omega)
    have hpt : ∀ s ∈ ps.take n, 0 < s := fun s hs => hp s (List.mem_of_mem_take hs)
    cases hb : rB (ps.take n) (NAt ps n) with
    | false =>
      rw [fewL_hit hb]
      by_cases e : i = n
      · subst e; exact R_one (by simp)
      · exact R_mono (fun x hx => List.mem_append_left _ hx) (ih i (by omega))
    | true =>
      rw [fewL_miss hb]
      by_cases e : i = n
      · subst e
        obtain ⟨l, h1, h2⟩ := (rB_iff hpt _).1 hb
        rw [← h2]
        clear h2 hb
        induction l with
        | nil => exact R_zero _
        | cons a t iht =>
          rw [List.sum_cons]
          refine R_sum ?_ (iht fun x hx => h1 x (by simp [hx]))
          obtain ⟨j, hj, e⟩ := List.getElem_of_mem (h1 a (by simp))
          rw [List.length_take] at hj
          have : a = NAt ps j := by
            rw [← e, List.getElem_take, NAt, List.getElem?_eq_getElem (show j < ps.length by omega)]; rfl
          rw [this]
          exact ih j (by omega)
      · exact ih i (by omega)
/-- The same numbers can be made. -/
theorem fewL_rB {ps : List Nat} (hp : ∀ s ∈ ps, 0 < s) (m : Nat) : rB (fewL ps ps.length) m = rB ps m := by
  have hp' : ∀ s ∈ fewL ps ps.length, 0 < s := fun s hs => hp s (fewL_mem (Nat.le_refl _) hs)
  rw [Bool.eq_iff_iff, rB_iff hp', rB_iff hp]
  constructor
  · exact R_mono fun x hx => fewL_mem (Nat.le_refl _) hx
  · rintro ⟨l, h1, rfl⟩
    induction l with
    | nil => exact R_zero _
    | cons a t ih =>
      rw [List.sum_cons]
      refine R_sum ?_ (ih fun x hx => h1 x (by simp [hx]))
      obtain ⟨j, hj, e⟩ := List.getElem_of_mem (h1 a (by simp))
      have : a = NAt ps j := by rw [← e, NAt, List.getElem?_eq_getElem hj]; rfl
      rw [this]
      exact fewL_R hp ps.length (Nat.le_refl _) j hj
theorem fewL_G {ps : List Nat} (hp : ∀ s ∈ ps, 0 < s) : G (fewL ps ps.length) = G ps := by
  refine Nat.dvd_antisymm (dvd_G fun s hs => ?_) (dvd_G fun s hs => G_dvd s (fewL_mem (Nat.le_refl _) hs))
  have hp' : ∀ s ∈ fewL ps ps.length, 0 < s := fun s hs => hp s (fewL_mem (Nat.le_refl _) hs)
  have h1 := (rB_iff hp s).2 (R_one hs)
  rw [← fewL_rB hp] at h1
  exact R_dvd G_dvd ((rB_iff hp' s).1 h1)
theorem fewL_gap {ps : List Nat} (hp : ∀ s ∈ ps, 0 < s) (N : Nat) : gapL (fewL ps ps.length) N = gapL ps N := by
  simp only [gapL, fewL_rB hp]
theorem fewL_sizes {ps : List Nat} {n size : Nat} (h : Sizes ps n size) : ∃ m, Sizes (fewL ps n) m size := by
  have hpos : ∀ s ∈ ps, 0 < s := fun s hs => (h.2.2.2.2 s hs).1
  have hall : ∀ k, k ≤ n → (∀ a b, a < b → b < (fewL ps k).length → NAt (fewL ps k) a < NAt (fewL ps k) b) ∧ (∀ x ∈ fewL ps k, ∀ j, k ≤ j → j < n → x < NAt ps j) ∧ (0 < k → 1 ≤ (fewL ps k).length) := by
    intro k
    induction k with
    | zero => intro _; exact ⟨fun a b _ hb => by simp [fewL] at hb, fun x hx => by simp [fewL] at hx, fun h => by omega⟩
    | succ k ih =>
      intro hk
      obtain ⟨i1, i2, i3⟩ := ih (by omega)
      cases hb : rB (ps.take k) (NAt ps k) with
      | true =>
        rw [fewL_miss hb]
        refine ⟨i1, fun x hx j hj hjn => i2 x hx j (by omega) hjn, fun _ => ?_⟩
        rcases Nat.eq_zero_or_pos k with rfl | h0
        · exfalso
          have h1 := (h.at_ (k := 0) (by omega)).1
          rw [List.take_zero, rB_nil] at hb
          simp at hb
          omega
        · exact i3 h0
      | false =>
        rw [fewL_hit hb]
        refine ⟨fun a b hab hbl => ?_, fun x hx j hj hjn => ?_, fun _ => by simp⟩
        · rw [List.length_append, List.length_singleton] at hbl
          have e1 : NAt (fewL ps k ++ [NAt ps k]) a = NAt (fewL ps k) a := by simp [NAt, List.getElem?_append_left (show a < (fewL ps k).length by omega)]
          by_cases e : b = (fewL ps k).length
          · have e2 : NAt (fewL ps k ++ [NAt ps k]) b = NAt ps k := by subst e; simp [NAt]
            rw [e1, e2]
            exact i2 _ (NAt_mem (by omega)) k (Nat.le_refl _) (by omega)
          · have e2 : NAt (fewL ps k ++ [NAt ps k]) b = NAt (fewL ps k) b := by simp [NAt, List.getElem?_append_left (show b < (fewL ps k).length by omega)]
            rw [e1, e2]
            exact i1 a b hab (by omega)
        · rcases List.mem_append.1 hx with hx | hx
          · exact i2 x hx j (by omega) hjn
          · rw [List.mem_singleton] at hx; subst hx; exact h.2.2.2.1 k j (by omega) hjn
  obtain ⟨i1, _, i3⟩ := hall n (Nat.le_refl _)
  exact ⟨_, rfl, i3 h.2.1, by have := fewL_len ps n; have := h.2.2.1; omega, i1, fun s hs => h.2.2.2.2 s (fewL_mem (by rw [h.1]; exact Nat.le_refl _) hs)⟩

/-! ### two rows of the call's own -/
def Apart (v u : Value) : Prop := ∀ g, v.ownBlock = some g → u.ownBlock ≠ some g
theorem Apart.symm {v u : Value} (h : Apart v u) : Apart u v := fun g h1 h2 => h g h2 h1
theorem wpList_app2 {w : World} {ops : Array Oper} {rest : List Oper} {o : Oper} {a : Act} {Q : Exit → Act → World → Prop} (hgd : o.guard = none) (s x : Operand)
    (ho : o.op = .call { callee := .builtin .append, args := #[s, x], argTypes := #[22, 22] })
    (base : Nat) (v u : Value) (xs ys : List Int) (k : Int) (hs : a.eval s = v) (hown : OwnI w base v xs) (hown2 : OwnI w base u ys) (hap : Apart v u) (hbase : base ≤ w.heap.size) (hlen : xs.length ≤ 1000000000)
    (hx : a.eval x = .slice (some ⟨w.heap.size, 0, none⟩) 1 1)
    (h : ∀ v' w', OwnI w' base v' (xs ++ [k]) → OwnI w' base u ys → Apart v' u → (∀ w0, Below base w0 w → Below base w0 w') → wpList Try.prog ops Q rest (a.put o.dst v') w') :
    wpList Try.prog ops Q (o :: rest) a (w.alloc (.cells #[.int .i64 k] 3)) := by
  obtain ⟨i0, hi, hz0, hz1, hz2⟩ := info_parts Try.info_int
  refine wpList_append_own_at _ hgd s x 22 ho base 3 i0 (.int .i64 0) 1 8 Try.underlying22 hi hz0 hz1 hz2 rfl (by decide) v xs.length _ hs (hown.alloc _) ⟨w.heap.size, 0, none⟩ 1 1 [.int .i64 k] hx rfl ?_ ?_ (by unfold maxLen; omega) (by omega) (by simp; omega) ?_
  · intro j u hj
    cases j with
    | zero =>
      simp at hj
      subst hj
      rw [Addr.add_lit]
      simp
    | succ j => simp at hj
  · intro u hu
    simp at hu
    subst hu
    rfl
  · intro v' w' hown' hgrow _ hblk
    have hu : (w.alloc (.cells #[.int .i64 k] 3)).ownsRow base 3 1 u ys.length (ys.map (Value.int .i64)) := World.ownsRow.alloc hown2 _
    refine h v' w' ?_ ?_ ?_ ?_
    · unfold OwnI
      rw [List.length_append, List.map_append]
      exact hown'
    · refine World.ownsRow.kept hu hgrow ?_
      cases e : u.ownBlock with
      | none => exact .inl rfl
      | some g => exact .inr fun h => hap g (h ▸ rfl) e
    · intro g hg hug
      rcases hblk with e | e
      · exact hap g (e ▸ hg) hug
      · rw [hg] at e
        have := (World.ownsRow.lt hown2 g hug).2
        simp at e
        omega
    · intro w0 h0
      exact (h0.alloc hbase _).grown hgrow (by simp; omega) (fun j hj => (World.ownsRow.lt hown j hj).1)
end Go.Proofs.Ytjcoaicpeajpnaa
