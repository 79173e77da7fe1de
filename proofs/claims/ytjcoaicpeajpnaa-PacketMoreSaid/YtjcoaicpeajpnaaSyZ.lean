/- Answers of Make and Fill at more sizes, more packets, and packets enough; what the law counts. -/
import Derived.Test.YtjcoaicpeajpnaaSyY
namespace Go.Proofs.Ytjcoaicpeajpnaa
open Go.RowKit Pk

/-- Sizes as they are allowed. -/
def Siz5 (ps : List Nat) (n : Nat) : Prop := ps.length = n ∧ 1 ≤ n ∧ n ≤ 5 ∧ (∀ a b, a < b → b < n → NAt ps a < NAt ps b) ∧ ∀ s ∈ ps, 1 ≤ s ∧ s ≤ 30
theorem Sizes.five {ps : List Nat} {n size : Nat} (h : Sizes ps n size) (hs : size ≤ 30) : Siz5 ps n := ⟨h.1, h.2.1, by have := h.2.2.1; omega, h.2.2.2.1, fun s hs' => by have := h.2.2.2.2 s hs'; omega⟩
theorem Siz5.at_ {ps : List Nat} {n : Nat} (h : Siz5 ps n) {k : Nat} (hk : k < n) : 1 ≤ NAt ps k ∧ NAt ps k ≤ 30 := h.2.2.2.2 _ (NAt_mem (by rw [h.1]; exact hk))
theorem Siz5.chk {ps : List Nat} {n : Nat} (h : Siz5 ps n) : chk (ps.map Int.ofNat) = 0 := by
  have hto : ∀ k, k ≤ n → chkTo (ps.map Int.ofNat) k = 0 := by
    intro k
    induction k with
    | zero => intro _; rfl
    | succ k ih =>
      intro hk
      refine chkTo_pass (ih (by omega)) ?_
      have h1 := h.at_ (k := k) (by omega)
      rw [chk1, At_map, At_map, if_neg (by omega), if_neg]
      rintro ⟨h2, h3⟩
      have := h.2.2.2.1 (k - 1) k (by omega) (by omega)
      omega
  rw [chk_len (n := n) (by rw [List.length_map]; exact h.1) (by have := h.2.1; omega) h.2.2.1]
  exact hto n (Nat.le_refl n)
/-- One size more, sorted. -/
theorem five_sorted {ps : List Nat} {n x : Nat} {zs : List Int} (hS : Sizes ps n 30) (hx : (ps.map Int.ofNat).contains (x : Int) = false) (h1 : 1 ≤ x) (h2 : x ≤ 30) (hp : zs.Perm (ps.map Int.ofNat ++ [(x : Int)])) (ho : Ord zs (n + 1)) :
    ∃ qs : List Nat, zs = qs.map Int.ofNat ∧ Siz5 qs (n + 1) ∧ ∀ y ∈ ps, y ∈ qs := by
  have hl : zs.length = n + 1 := by rw [hp.length_eq, List.length_append, List.length_map, hS.1]; rfl
  have hmem : ∀ y ∈ zs, 1 ≤ y ∧ y ≤ 30 := fun y hy => by
    rcases List.mem_append.1 (hp.mem_iff.1 hy) with h | h
    · obtain ⟨b, hb, rfl⟩ := List.mem_map.1 h
      have := hS.2.2.2.2 b hb
      show 1 ≤ ((b : Nat) : Int) ∧ ((b : Nat) : Int) ≤ 30
      omega
    · rw [List.mem_singleton] at h; subst h; omega
  have e : zs = (natL zs).map Int.ofNat := by
    rw [natL, List.map_map]
    refine (List.map_id zs).symm.trans (List.map_congr_left fun x hx => ?_)
    have := hmem x hx
    show x = ((x.toNat : Nat) : Int)
    omega
  have hnd : zs.Nodup := by
    refine hp.symm.nodup ?_
    rw [List.nodup_append]
    refine ⟨?_, by simp, fun a ha b hb => by rw [List.mem_singleton] at hb; subst hb; rintro rfl; rw [← List.contains_iff_mem, hx] at ha; cases ha⟩
    rw [List.nodup_iff_pairwise_ne, List.pairwise_iff_getElem]
    intro i j hi hj hij
    rw [List.length_map] at hi hj
    have := hS.2.2.2.1 i j hij (by rw [← hS.1]; exact hj)
    simp only [NAt, List.getElem?_eq_getElem hi, List.getElem?_eq_getElem hj, Option.getD_some] at this
    simp
    omega
  refine ⟨natL zs, e, ⟨by rw [natL_len, hl], by omega, by have := hS.2.2.1; omega, fun a b hab hb => ?_, fun s hs => ?_⟩, fun y hy => ?_⟩
  · have h1 := ho a b hab hb
    have h2 : At zs a ≠ At zs b := by
      rw [At, At, List.getElem?_eq_getElem (show a < zs.length by omega), List.getElem?_eq_getElem (show b < zs.length by omega)]
      intro he
      exact List.pairwise_iff_getElem.1 hnd a b (by omega) (by omega) hab (by simpa using he)
    have h3 : 1 ≤ At zs a := by
      rw [At, List.getElem?_eq_getElem (show a < zs.length by omega)]; exact (hmem _ (List.getElem_mem _)).1
    rw [NAt_natL, NAt_natL]
    omega
  · obtain ⟨x, hx, rfl⟩ := List.mem_map.1 hs
    have := hmem x hx
    omega
  · rw [natL, List.mem_map]
    exact ⟨(y : Int), hp.mem_iff.2 (List.mem_append_left _ (List.mem_map.2 ⟨y, hy, rfl⟩)), by simp⟩

/-- The packets that the law counts, of the first k kinds. -/
def pkS (xs : List Int) : Nat → Int
  | 0 => 0
  | k + 1 => pkS xs k + min (max (At xs k) 0) 1000
theorem pkS_bound (xs : List Int) : ∀ k : Nat, 0 ≤ pkS xs k ∧ pkS xs k ≤ 1000 * k
  | 0 => by simp [pkS]
  | k + 1 => by have := pkS_bound xs k; rw [pkS]; omega
theorem pkS_take (L : List Nat) (h : ∀ x ∈ L, x ≤ 1000) : ∀ k, k ≤ L.length → pkS (L.map Int.ofNat) k = ((L.take k).sum : Nat)
  | 0, _ => by simp [pkS]
  | k + 1, hk => by
    have h1 := NAt_mem (ps := L) (k := k) (by omega)
    have h2 := h _ h1
    rw [pkS, pkS_take L h k (by omega), At_map, take_snoc L (by omega)]
    simp
    omega
theorem pkS_sum (L : List Nat) (h : L.sum ≤ 1000) : pkS (L.map Int.ofNat) L.length = (L.sum : Nat) := by
  have := pkS_take L (fun x hx => Nat.le_trans (le_sum hx) h) L.length (Nat.le_refl _)
  rwa [List.take_length] at this

theorem stk_ok {cs : List Nat} (h : ∀ c ∈ cs, c ≤ 40) : ∀ k, k ≤ cs.length → stkTo (cs.map Int.ofNat) k = 0
  | 0, _ => rfl
  | k + 1, hk => by
    have h1 := h _ (NAt_mem (ps := cs) (k := k) (by omega))
    rw [stkTo, if_pos (stk_ok h k (by omega)), if_neg]
    rw [At_map]
    omega
theorem chkO_nat {ps cs : List Nat} {n m : Nat} (hS : Siz5 ps n) (hl : cs.length = n) (hc : ∀ c ∈ cs, c ≤ 40) (hm : m ≤ 1000) : chkO (ps.map Int.ofNat) (cs.map Int.ofNat) (m : Int) = 0 := by
  have h1 : chkS (ps.map Int.ofNat) (cs.map Int.ofNat) = 0 := by
    rw [chkS, if_pos hS.chk, List.length_map, List.length_map, if_pos (by rw [hl, hS.1]), stk_ok hc _ (Nat.le_refl _)]
  rw [chkO, if_pos h1, tot, if_neg (by omega)]
theorem chkN_nat {ps : List Nat} {n m : Nat} (hS : Siz5 ps n) (hm : m ≤ 1000) : chkN (ps.map Int.ofNat) (m : Int) = 0 := by
  rw [chkN, if_pos hS.chk, tot, if_neg (by omega)]

/-- Sizes with numbers of packets: what the two functions answer. -/
def ansE (l : List (Nat × Nat)) (m : Nat) : Int := if (few l m).isSome then 0 else 12
def ansL (l : List (Nat × Nat)) (m : Nat) : List Nat := if (few l m).isSome then bestL l m else []
theorem bestL_len : ∀ (l : List (Nat × Nat)) (m : Nat), (bestL l m).length = l.length
  | [], _ => rfl
  | (s, c) :: r, m => by simp [bestL, bestL_len r]
theorem ans_two (l : List (Nat × Nat)) (m : Nat) : ansE l m = 0 ∨ ansE l m = 12 := by
  rw [ansE]; split
  · exact .inl rfl
  · exact .inr rfl
theorem ansL_len (l : List (Nat × Nat)) (m : Nat) : (ansL l m).length ≤ l.length := by
  rw [ansL]; split
  · rw [bestL_len]; exact Nat.le_refl _
  · simp
theorem mak_ans {ps : List Nat} {n m : Nat} (hS : Siz5 ps n) (hm : m ≤ 1000) :
    makL (ps.map Int.ofNat) (m : Int) = (ansL (ps.zip (ps.map (m / ·))) m).map Int.ofNat ∧ makE (ps.map Int.ofNat) (m : Int) = ansE (ps.zip (ps.map (m / ·))) m := by
  have c1 := chkN_nat hS hm
  have e1 : enL (ps.map Int.ofNat) (m : Int) = ps.map (m / ·) := by rw [enL, natL_map, Int.toNat_natCast]
  refine ⟨?_, ?_⟩
  · rw [makL, if_pos c1, e1, natL_map, Int.toNat_natCast, bfL_list (List.length_map ..)]; rfl
  · rw [makE, if_pos c1, e1, natL_map, Int.toNat_natCast, bfE_list]; rfl
theorem fil_ans {ps cs : List Nat} {n m : Nat} (hS : Siz5 ps n) (hl : cs.length = n) (hc : ∀ c ∈ cs, c ≤ 40) (hm : m ≤ 1000) :
    filL (ps.map Int.ofNat) (cs.map Int.ofNat) (m : Int) = (ansL (ps.zip cs) m).map Int.ofNat ∧ filE (ps.map Int.ofNat) (cs.map Int.ofNat) (m : Int) = ansE (ps.zip cs) m := by
  have c1 := chkO_nat hS hl hc hm
  refine ⟨?_, ?_⟩
  · rw [filL, if_pos c1, natL_map, natL_map, Int.toNat_natCast, bfL_list (by rw [hl, hS.1])]; rfl
  · rw [filE, if_pos c1, natL_map, natL_map, Int.toNat_natCast, bfE_list]; rfl
/-- With more to choose from no more packets are needed. -/
theorem ans_more {l l' : List (Nat × Nat)} {m : Nat} (hm : m ≤ 1000) (hp : ∀ p ∈ l, 0 < p.1) (h : ∀ v, Fil l m v → Fil l' m v) (h0 : ansE l m = 0) :
    ansE l' m = 0 ∧ (ansL l m).length = l.length ∧ (ansL l' m).length = l'.length ∧ pkS ((ansL l' m).map Int.ofNat) l'.length ≤ pkS ((ansL l m).map Int.ofNat) l.length := by
  cases hv : few l m with
  | none => rw [ansE, hv] at h0; simp at h0
  | some v =>
    obtain ⟨v', h1, h2, h3⟩ := few_more hv h
    have e1 : ansL l m = bestL l m := by rw [ansL, hv]; rfl
    have e2 : ansL l' m = bestL l' m := by rw [ansL, h2]; rfl
    have s1 := bestL_sum l m v hv
    have s2 := bestL_sum l' m v' h2
    have hle := few_le hp m v hv
    refine ⟨by rw [ansE, h2]; rfl, by rw [e1, bestL_len], by rw [e2, bestL_len], ?_⟩
    have p1 := pkS_sum (bestL l m) (by omega)
    have p2 := pkS_sum (bestL l' m) (by omega)
    rw [bestL_len] at p1 p2
    rw [e1, e2, p1, p2]
    omega
theorem zip_pos {ps cs : List Nat} (hp : ∀ s ∈ ps, 0 < s) : ∀ p ∈ ps.zip cs, 0 < p.1 := fun p h => hp _ (List.of_mem_zip (a := p.1) (b := p.2) h).1
theorem Siz5.pair {ps : List Nat} {n : Nat} (h : Siz5 ps n) : ps.Pairwise (· < ·) := by
  rw [List.pairwise_iff_getElem]
  intro i j hi hj hij
  have := h.2.2.2.1 i j hij (by rw [← h.1]; exact hj)
  simpa [NAt, List.getElem?_eq_getElem hi, List.getElem?_eq_getElem hj] using this
theorem more_sizes {ps qs : List Nat} {m v : Nat} (hp : ps.Pairwise (· < ·)) (hq : qs.Pairwise (· < ·)) (h : ∀ x ∈ ps, x ∈ qs) : Fil (ps.zip (ps.map (m / ·))) m v → Fil (qs.zip (qs.map (m / ·))) m v := by
  have e : ∀ l : List Nat, l.zip (l.map (m / ·)) = l.map (fun s => (s, m / s)) := fun l => by
    induction l with
    | nil => rfl
    | cons a t ih => simp [ih]
  rw [e, e]
  exact fil_sub ((sub_sorted ps qs hp hq h).map _) m v
theorem enough_ans {ps : List Nat} {n k : Nat} (hS : Siz5 ps n) (hk : k ≤ 40 * NAt ps 0) : ansL (ps.zip (ps.map fun _ => 40)) k = ansL (ps.zip (ps.map (k / ·))) k ∧ ansE (ps.zip (ps.map fun _ => 40)) k = ansE (ps.zip (ps.map (k / ·))) k := by
  have hE : Enough k (ps.zip (ps.map fun _ => 40)) (ps.zip (ps.map (k / ·))) := enough_zip (N := k) (g := fun _ => 40) (h := (k / ·)) ps fun s hs => by
    have h1 := (hS.2.2.2.2 s hs).1
    refine ⟨h1, ?_, Nat.le_refl _⟩
    obtain ⟨j, hj, rfl⟩ := List.getElem_of_mem hs
    have h0 : NAt ps 0 ≤ ps[j] := by
      have e : NAt ps j = ps[j] := by simp [NAt, List.getElem?_eq_getElem hj]
      rw [← e]
      rcases Nat.eq_zero_or_pos j with rfl | hj0
      · exact Nat.le_refl _
      · exact Nat.le_of_lt (hS.2.2.2.1 0 j hj0 (by rw [← hS.1]; exact hj))
    refine Nat.div_le_of_le_mul ?_
    have := Nat.mul_le_mul_left 40 h0
    rw [Nat.mul_comm]
    omega
  have h1 := few_enough' hE k (Nat.le_refl _)
  have h2 := bestL_enough hE k (Nat.le_refl _)
  exact ⟨by rw [ansL, ansL, h1, h2], by rw [ansE, ansE, h1]⟩
end Go.Proofs.Ytjcoaicpeajpnaa
