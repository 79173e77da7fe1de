/- Walks: fewestPackets. -/
import Derived.Test.YtjcoaicpeajpnaaPkW5
import Derived.Deep.RegionHeld3
import Derived.StillTailTactics
namespace Go.Proofs.Ytjcoaicpeajpnaa
open Go.RowKit Pk

theorem Whole.new1 (w : World) (o : Obj) (t : TypeId) (cs : Array Value) : Whole ((w.alloc o).alloc (.cells cs t)) (w.heap.size + 1) t cs := by
  have := Whole.new (w.alloc o) t cs
  simpa using this
theorem Nats.keepCells {w w' : World} {A : Option Addr} {n : Nat} {xs : List Nat} (h : Nats w A n xs) (hs : w.heap.size ≤ w'.heap.size) (hk : ∀ (q : Addr) (v : Int), w.cell? q = some (.int .i64 v) → w'.cell? q = some (.int .i64 v)) : Nats w' A n xs :=
  ⟨h.1, fun k hk' => by
    obtain ⟨b, off, e, hlt, hc⟩ := h.2 k hk'
    exact ⟨b, off, e, Nat.lt_of_lt_of_le hlt hs, hk _ _ hc⟩⟩
/-- A store over what is no number leaves numbers as they are. -/
theorem Nats.setOther {w : World} {A : Option Addr} {n : Nat} {xs : List Nat} (h : Nats w A n xs) {p : Addr} {u : Value} (hp : ∀ v : Int, w.cell? p ≠ some (.int .i64 v)) : Nats (w.setCell p u) A n xs :=
  h.keepCells (by simp [World.setCell]) fun q v hq => by
    rw [World.cell?_setCell_other _ _ _ _ (fun e => hp v (by subst e; exact hq))]; exact hq

/-- The kinds from the place i on, with their stock. -/
def dp (ps cs : List Nat) (i : Nat) : List (Nat × Nat) := (ps.zip cs).drop i
theorem dp_step {ps cs : List Nat} {n i : Nat} (hp : ps.length = n) (hc : cs.length = n) (hi : i < n) : dp ps cs i = (NAt ps i, NAt cs i) :: dp ps cs (i + 1) := by
  unfold dp
  rw [List.drop_eq_getElem_cons (by simp; omega)]
  simp [NAt, List.getElem?_eq_getElem (show i < ps.length by omega), List.getElem?_eq_getElem (show i < cs.length by omega)]
theorem dp_end {ps cs : List Nat} {n : Nat} (hp : ps.length = n) : dp ps cs n = [] := by
  unfold dp; rw [List.drop_eq_nil_iff]; simp; omega
theorem dp_pos {ps cs : List Nat} (hp : ∀ s ∈ ps, 0 < s) (i : Nat) : ∀ p ∈ dp ps cs i, 0 < p.1 := by
  intro p h
  exact hp _ (List.of_mem_zip (List.mem_of_mem_drop h : (p.1, p.2) ∈ ps.zip cs)).1

/-- The outer row: from lo on its cells are rows of the fewest packets. -/
def TRows (w : World) (g n m lo : Nat) (ps cs : List Nat) : Prop :=
  ∃ cells : Array Value, Whole w g 22 cells ∧ cells.size = n + 1 ∧ (∀ j, j ≤ n → ∃ A a c, cells[j]? = some (.slice A a c)) ∧
    ∀ j, lo ≤ j → j ≤ n → ∃ A c, cells[j]? = some (.slice A (m + 1) c) ∧ Nats w A (m + 1) ((List.range (m + 1)).map (fewN 1001 (dp ps cs j)))
theorem TRows.below {w w' : World} {g n m lo : Nat} {ps cs : List Nat} (h : TRows w g n m lo ps cs) (hb : Below w.heap.size w w') : TRows w' g n m lo ps cs := by
  obtain ⟨cells, h1, h2, h3, h4⟩ := h
  exact ⟨cells, h1.below hb h1.lt, h2, h3, fun j a b => by obtain ⟨A, c, e, hN⟩ := h4 j a b; exact ⟨A, c, e, hN.below hb⟩⟩
theorem TRows.get {w : World} {g n m lo : Nat} {ps cs : List Nat} (h : TRows w g n m lo ps cs) {j : Nat} (h1 : lo ≤ j) (h2 : j ≤ n) :
    ∃ A c, w.cell? ⟨g, j, none⟩ = some (.slice A (m + 1) c) ∧ Nats w A (m + 1) ((List.range (m + 1)).map (fewN 1001 (dp ps cs j))) := by
  obtain ⟨cells, hB, _, _, h4⟩ := h
  obtain ⟨A, c, e, hN⟩ := h4 j h1 h2
  exact ⟨A, c, (hB.cell j).trans e, hN⟩
theorem TRows.any {w : World} {g n m lo : Nat} {ps cs : List Nat} (h : TRows w g n m lo ps cs) {j : Nat} (h2 : j ≤ n) :
    (∃ A a c, w.cell? ⟨g, j, none⟩ = some (.slice A a c)) ∧ w.frozen? ⟨g, j, none⟩ = false := by
  obtain ⟨cells, hB, _, h3, _⟩ := h
  obtain ⟨A, a, c, e⟩ := h3 j h2
  exact ⟨⟨A, a, c, (hB.cell j).trans e⟩, hB.frozen j⟩
theorem TRows.put {w : World} {g n m lo : Nat} {ps cs : List Nat} (h : TRows w g n m (lo + 1) ps cs) (hlo : lo ≤ n) {A : Option Addr} {c : Nat}
    (hN : Nats w A (m + 1) ((List.range (m + 1)).map (fewN 1001 (dp ps cs lo)))) : TRows (w.setCell ⟨g, lo, none⟩ (.slice A (m + 1) c)) g n m lo ps cs := by
  have hany := (h.any hlo).1
  obtain ⟨cells, hB, hsz, h3, h4⟩ := h
  have hno : ∀ v : Int, w.cell? ⟨g, lo, none⟩ ≠ some (.int .i64 v) := by
    obtain ⟨A', a', c', e⟩ := hany
    intro v h; rw [e] at h; cases h
  refine ⟨_, hB.set_ lo _, by simp [hsz], fun j hj => ?_, fun j h1 h2 => ?_⟩
  · by_cases e : j = lo
    · subst e; exact ⟨A, m + 1, c, by simp [hsz, show j < n + 1 by omega]⟩
    · rw [Array.getElem?_setIfInBounds_ne (by omega)]; exact h3 j hj
  · by_cases e : j = lo
    · subst e; exact ⟨A, c, by simp [hsz, show j < n + 1 by omega], hN.setOther hno⟩
    · obtain ⟨A', c', e', hN'⟩ := h4 j (by omega) h2
      exact ⟨A', c', by rw [Array.getElem?_setIfInBounds_ne (by omega)]; exact e', hN'.setOther hno⟩

theorem Try.info_ints : (Try.prog.info? 22).map (fun i => (i.zero, i.size, i.bytes)) = some (some (.slice none 0 0), 1, 24) := by kernel_rfl
theorem mkII (l : Int) (n : Nat) (h : l = n) (hn : n ≤ 100000000) (w : World) :
    (Instr.makeSlice 90 (.int .i64 l) (.int .i64 l)).run Try.prog w = .ok (.slice (some ⟨w.heap.size, 0, none⟩) n n) (w.alloc (.cells (Array.replicate n (.slice none 0 0)) 22)) := by
  subst h
  obtain ⟨i0, hi, hz0, hz1, hz2⟩ := info_parts Try.info_ints
  have hr := run_make (P := Try.prog) w 90 22 i0 (.slice none 0 0) Try.underlying90 hi hz0 .i64 .i64 (n : Int) (n : Int) (by omega) (by omega) (by rw [hz2]; omega) (by omega)
  rw [hr, hz1]
  have e : madeCells (Value.slice none 0 0).cells ((n : Int).toNat * 1) = Array.replicate n (.slice none 0 0) := by
    apply Array.ext_getElem?
    intro j
    simp [madeCells, Value.cells]
    by_cases hj : j < n
    · simp [hj, Nat.mod_one]
    · simp [hj]
  rw [e]
  simp

/-- Where the last row is half filled. -/
def Base0 (w wr : World) (n m x : Nat) : Prop :=
  (∃ O : Array Value, Whole wr w.heap.size 22 O ∧ O.size = n + 1 ∧ O[n]? = some (.slice (some ⟨w.heap.size + 1, 0, none⟩) (m + 1) (m + 1)) ∧ ∀ j, j ≤ n → ∃ A a c, O[j]? = some (.slice A a c)) ∧
  (∃ cs', Whole wr (w.heap.size + 1) 3 cs' ∧ Row cs' (m + 1) (fun j => if 0 < j ∧ j < x then 1001 else 0)) ∧ Below w.heap.size w wr
set_option maxRecDepth 100000 in
set_option maxHeartbeats 2000000 in
theorem pk_fewestPackets (A B : Option Addr) (n : Nat) (ps cs : List Nat) (ca cb m : Nat) (w : World) (hx : Nats w A n ps) (hy : Nats w B n cs) (hp : ∀ s ∈ ps, 0 < s ∧ s ≤ 1000) (hc : ∀ c ∈ cs, c ≤ 1001)
    (hl : n ≤ 5) (hm : m ≤ 1000) :
    Calls Try.prog 93 #[.slice A n ca, .slice B n cb, .int .i64 m] w fun e w' => ∃ g, e = .returned (.slice (some ⟨g, 0, none⟩) (n + 1) (n + 1)) ∧ TRows w' g n m 0 ps cs ∧ Below w.heap.size w w' := by
  have hmk := fun W => mkI ((m : Int) + 1) (m + 1) (by omega) (by omega) W
  have hmk2 := fun W => mkII ((n : Int) + 1) (n + 1) (by omega) (by omega) W
  have h01 : (n : Int) < (n : Int) + 1 := by omega
  have h02 : (0 : Int) ≤ (n : Int) := by omega
  have hB0 : Whole (w.alloc (.cells (Array.replicate (n + 1) (Value.slice none 0 0)) 22)) w.heap.size 22 (Array.replicate (n + 1) (Value.slice none 0 0)) := Whole.new _ _ _
  have hB1 := hB0.alloc (.cells (Array.replicate (m + 1) (Value.int .i64 0)) 3)
  have f1 := hB1.frozen n
  have f2 := hB1.cell n
  go_enter Try.func93, Try.ntmps93
  go_wp2_with fail
  go_loopw [8] (fun v wr => ∃ x : Nat, 1 ≤ x ∧ x ≤ m + 1 ∧ v = .int .i64 x ∧ Base0 w wr n m x) (fun v _ => m + 1 - (intOf v).toNat)
  case atStart =>
    refine ⟨1, by omega, by omega, rfl, ⟨_, (Whole.new _ _ _).alloc _, by simp, ?_, fun j hj => ?_⟩, ⟨_, Whole.new1 _ _ _ _, (Row.zero (m + 1)).congr fun j _ => ?_⟩, ((Below.refl _ _).alloc (Nat.le_refl _) _).alloc (by simp) _⟩
    · simp
    · by_cases e : j = n
      · subst e; exact ⟨_, _, _, by simp; exact ⟨rfl, rfl, rfl⟩⟩
      · rw [Array.getElem?_setIfInBounds_ne (by omega)]; exact ⟨none, 0, 0, by simp [show j < n + 1 by omega]⟩
    · rw [if_neg (by omega)]
  case round =>
    obtain ⟨x, hx1, hx2, rfl, ⟨O, hO, hOs, hOn, hOa⟩, ⟨cs', hB', hR'⟩, hw'⟩ := hrel
    have hx3 : (0 : Int) ≤ (x : Int) := by omega
    by_cases hlt : x ≤ m
    · have hx4 : (x : Int) < (m : Int) + 1 := by omega
      have c1 := (hO.cell n).trans hOn
      have c2 := (hB'.cell x).trans (hR'.2 x (by omega))
      have c3 := hB'.frozen x
      go_wp2_with fail
      refine ⟨⟨x + 1, by omega, by omega, by go_num, ⟨O, hO.far (by simp) _, hOs, hOn, hOa⟩, ⟨_, hB'.set_ x _, (hR'.set_ (by omega)).congr fun j _ => ?_⟩, hw'.setCell (by show _ ≤ w.heap.size + 1; omega) _⟩, by simp [intOf]; omega⟩
      by_cases e : j = x
      · subst e; simp; omega
      · rw [if_neg e]
        by_cases h : 0 < j ∧ j < x
        · rw [if_pos h, if_pos (by omega)]
        · rw [if_neg h, if_neg (by omega)]
    · have hT : TRows wr w.heap.size n m n ps cs := by
        refine ⟨O, hO, hOs, hOa, fun j h1 h2 => ?_⟩
        obtain rfl : j = n := by omega
        refine ⟨_, _, hOn, hB'.nats (hR'.congr fun k hk => ?_) (by simp)⟩
        rw [NAt_range _ _ hk, dp_end hx.len, fewN_nil]
        by_cases e : k = 0
        · subst e; rw [if_neg (by omega)]; rfl
        · rw [if_pos (by omega), if_neg e]; rfl
      clear hO hOs hOn hOa hB' hR'
      have hd : ¬ (x : Int) ≤ (m : Int) := by omega
      go_wp2_with fail
      obtain ⟨wo, rfl⟩ : ∃ wo : World, wo = wr := ⟨_, rfl⟩
      go_loopw [9] (fun v wr => ∃ lo : Nat, lo ≤ n ∧ v = .int .i64 ((lo : Int) - 1) ∧ TRows wr w.heap.size n m lo ps cs ∧ Below w.heap.size w wr) (fun v _ => (intOf v + 1).toNat)
      case atStart => exact ⟨n, Nat.le_refl _, rfl, hT, hw'⟩
      case round =>
        obtain ⟨lo, hlo, rfl, hT, hw⟩ := hrel
        by_cases h0 : lo = 0
        · subst h0
          go_wp2_with fail
          go_ret
          exact ⟨_, rfl, hT, hw⟩
        · obtain ⟨i, rfl⟩ : ∃ i, lo = i + 1 := ⟨lo - 1, by omega⟩
          have hi1 : (0 : Int) ≤ (i : Int) := by omega
          have hi2 : (i : Int) < n := by omega
          have hi3 : (i : Int) < (n : Int) + 1 := by omega
          have hi4 : (i : Int) + 1 < (n : Int) + 1 := by omega
          have e1 : (((i + 1 : Nat) : Int) - 1) = (i : Int) := by omega
          rw [e1]
          obtain ⟨A1, c1, hc1, hN1⟩ := hT.get (j := i + 1) (Nat.le_refl _) (by omega)
          obtain ⟨b, off, rfl, hb, hcl⟩ := (hx.below hw).at_ (k := i) (by omega)
          obtain ⟨b', off', rfl, hb', hcl'⟩ := (hy.below hw).at_ (k := i) (by omega)
          have hs := hp _ (NAt_mem (ps := ps) (k := i) (by rw [hx.len]; omega))
          have hcc := hc _ (NAt_mem (ps := cs) (k := i) (by rw [hy.len]; omega))
          obtain ⟨⟨A0, a0, c0, hany⟩, hfro⟩ := hT.any (j := i) (by omega)
          clear e1
          go_wp2_with fail
          have hcall : Calls Try.prog 108 #[.slice A1 (m + 1) c1, .int .i64 (NAt ps i), .int .i64 (NAt cs i)] wr.drew fun e w2 =>
              ∃ g2, e = .returned (.slice (some ⟨g2, 0, none⟩) (m + 1) (m + 1)) ∧ Nats w2 (some ⟨g2, 0, none⟩) (m + 1) ((List.range (m + 1)).map (fewN 1001 (dp ps cs i))) ∧ TRows w2 w.heap.size n m (i + 1) ps cs ∧
                w2.cell? ⟨w.heap.size, i, none⟩ = some (.slice A0 a0 c0) ∧ w2.frozen? ⟨w.heap.size, i, none⟩ = false ∧ Below w.heap.size w w2 := by
            refine (pk_fewestWith A1 (m + 1) (dp ps cs (i + 1)) (NAt ps i) (NAt cs i) c1 wr.drew (hN1.drewN 1) (dp_pos (fun s h => (hp s h).1) _) hs.1 hs.2 hcc (by omega)).mono ?_
            rintro e w2 ⟨g2, rfl, hN2, hb2⟩
            have hb2 := undrew hb2
            have hlt : w.heap.size < wr.heap.size := World.block_lt_of_cell? _ _ hany
            rw [← dp_step hx.len hy.len (by omega)] at hN2
            exact ⟨g2, rfl, hN2, hT.below (w' := w2) hb2, (hb2.cell (p := ⟨w.heap.size, i, none⟩) hlt).trans hany, (hb2.frozen (p := ⟨w.heap.size, i, none⟩) hlt).trans hfro, hw.trans (hb2.mono (Nat.le_of_lt hlt))⟩
          have z1 : (0 : Int) ≤ (i : Int) + 1 := by omega
          have z2 : ((i : Int) + 1).toNat = i + 1 := by omega
          have z3 : IntKind.i64.wrap ((i : Int) + 1) = (i : Int) + 1 := wrap_ok (by omega) (by omega)
          go_region_with ((go_at_call 108; refine hcall.mono ?_; rintro e w2 ⟨g2, rfl, hN2, hT2, hany2, hfro2, hw2⟩))
          all_goals go_wp2_with fail
          all_goals exact ⟨⟨i, by omega, rfl, hT2.put (by omega) hN2, hw2.setCell (Nat.le_refl _) _⟩, by simp [intOf]⟩
end Go.Proofs.Ytjcoaicpeajpnaa
