/- Walks of the reference: made, remainders, Gaps, Greatest, Even, Needed. -/
import Derived.Test.YtjcoaicpeajpnaaRfA
import Derived.Test.YtjcoaicpeajpnaaRfM
namespace Go.Proofs.Ytjcoaicpeajpnaa
open Go.RowKit Pk

/-- A row of n answers. -/
def BRow (cs : Array Value) (n : Nat) (f : Nat → Bool) : Prop := cs.size = n ∧ ∀ x, x < n → cs[x]? = some (.bool (f x))
theorem BRow.set_ {cs : Array Value} {n : Nat} {f : Nat → Bool} (h : BRow cs n f) {i : Nat} {b : Bool} (hi : i < n) : BRow (cs.setIfInBounds i (.bool b)) n (fun x => if x = i then b else f x) := by
  refine ⟨by simp [h.1], fun x hx => ?_⟩
  by_cases e : x = i
  · subst e; simp [h.1, hi]
  · rw [Array.getElem?_setIfInBounds_ne (by omega)]; simp only [if_neg e]; exact h.2 x hx
theorem BRow.congr {cs : Array Value} {n : Nat} {f g : Nat → Bool} (h : BRow cs n f) (e : ∀ x, x < n → f x = g x) : BRow cs n g := ⟨h.1, fun x hx => by rw [← e x hx]; exact h.2 x hx⟩
theorem BRow.zero (n : Nat) : BRow (Array.replicate n (.bool false)) n (fun _ => false) := ⟨by simp, fun x hx => by simp [hx]⟩
theorem Try.info_bool : (Try.prog.info? 4).map (fun i => (i.zero, i.size, i.bytes)) = some (some (.bool false), 1, 1) := by kernel_rfl
theorem mkB (l : Int) (n : Nat) (h : l = n) (hn : n ≤ 100000000) (w : World) :
    (Instr.makeSlice 48 (.int .i64 l) (.int .i64 l)).run Try.prog w = .ok (.slice (some ⟨w.heap.size, 0, none⟩) n n) (w.alloc (.cells (Array.replicate n (.bool false)) 4)) := by
  subst h
  obtain ⟨i0, hi, hz0, hz1, hz2⟩ := info_parts Try.info_bool
  have hr := run_make (P := Try.prog) w 48 4 i0 (.bool false) Try.underlying48 hi hz0 .i64 .i64 (n : Int) (n : Int) (by omega) (by omega) (by rw [hz2]; omega) (by omega)
  rw [hr, hz1]
  have e : madeCells (Value.bool false).cells ((n : Int).toNat * 1) = Array.replicate n (.bool false) := by
    apply Array.ext_getElem?
    intro j
    simp [madeCells, Value.cells]
    by_cases hj : j < n
    · simp [hj, Nat.mod_one]
    · simp [hj]
  rw [e]
  simp
/-- The slice over A of n answers reads as f. -/
def Bools (w : World) (A : Option Addr) (n : Nat) (f : Nat → Bool) : Prop :=
  ∀ k, k < n → ∃ b off, A = some ⟨b, off, none⟩ ∧ b < w.heap.size ∧ w.cell? ⟨b, off + k, none⟩ = some (.bool (f k))
theorem Bools.at_ {w : World} {A : Option Addr} {n : Nat} {f : Nat → Bool} (h : Bools w A n f) {k : Nat} (hk : k < n) : ∃ b off, A = some ⟨b, off, none⟩ ∧ b < w.heap.size ∧ w.cell? ⟨b, off + k, none⟩ = some (.bool (f k)) := h k hk
theorem Bools.below {w w' : World} {A : Option Addr} {n : Nat} {f : Nat → Bool} (h : Bools w A n f) (hb : Below w.heap.size w w') : Bools w' A n f := fun k hk => by
  obtain ⟨b, off, e, hlt, hc⟩ := h k hk
  exact ⟨b, off, e, Nat.lt_of_lt_of_le hlt hb.size, (hb.cell (p := ⟨b, off + k, none⟩) hlt).trans hc⟩
theorem Whole.bools {w : World} {g n : Nat} {cs : Array Value} {f : Nat → Bool} {t : TypeId} (hB : Whole w g t cs) (hR : BRow cs n f) : Bools w (some ⟨g, 0, none⟩) n f :=
  fun k hk => ⟨g, 0, rfl, hB.lt, by rw [Nat.zero_add]; exact (hB.cell k).trans (hR.2 k hk)⟩

/-- Whether x can be made with one of the first k sizes. -/
def anyTo (ps : List Nat) (x k : Nat) : Bool := (ps.take k).any (fun s => decide (s ≤ x) && rB ps (x - s))
theorem anyTo_succ {ps : List Nat} {x k : Nat} (hk : k < ps.length) : anyTo ps x (k + 1) = (anyTo ps x k || (decide (NAt ps k ≤ x) && rB ps (x - NAt ps k))) := by
  rw [anyTo, take_snoc ps hk, List.any_append]; simp [anyTo]
theorem anyTo_all {ps : List Nat} {x : Nat} (hp : ∀ s ∈ ps, 0 < s) (hx : 0 < x) : anyTo ps x ps.length = rB ps x := by
  rw [Bool.eq_iff_iff, rB_iff hp, R_head, anyTo, List.take_length]
  simp only [List.any_eq_true, Bool.and_eq_true, decide_eq_true_eq]
  constructor
  · rintro ⟨s, h1, h2, h3⟩; exact .inr ⟨s, h1, h2, (rB_iff hp _).1 h3⟩
  · rintro (h | ⟨s, h1, h2, h3⟩)
    · omega
    · exact ⟨s, h1, h2, (rB_iff hp _).2 h3⟩

set_option maxRecDepth 100000 in
set_option maxHeartbeats 2000000 in
theorem rf_made (A : Option Addr) (n : Nat) (ps : List Nat) (ca N : Nat) (w : World) (hx : Nats w A n ps) (hp : ∀ s ∈ ps, 0 < s ∧ s ≤ 1000) (hl : n ≤ 1000) (hN : N ≤ 2000) :
    Calls Try.prog 74 #[.slice A n ca, .int .i64 N] w fun e w' => ∃ c, e = .returned (.slice (some ⟨w.heap.size, 0, none⟩) (N + 1) c) ∧ Bools w' (some ⟨w.heap.size, 0, none⟩) (N + 1) (rB ps) ∧ Below w.heap.size w w' := by
  have hpos : ∀ s ∈ ps, 0 < s := fun s h => (hp s h).1
  have hmk := fun W => mkB ((N : Int) + 1) (N + 1) (by omega) (by omega) W
  have h01 : (0 : Int) < (N : Int) + 1 := by omega
  have h0 := (Whole.new w 4 (Array.replicate (N + 1) (Value.bool false))).frozen 0
  have h00 := (Whole.new w 4 (Array.replicate (N + 1) (Value.bool false))).cell 0
  go_enter Try.func74, Try.ntmps74
  go_wp2_with fail
  go_loopw [6, 7] (fun v _ wr => ∃ x : Nat, 1 ≤ x ∧ x ≤ N + 1 ∧ v = .int .i64 x ∧ (∃ cs, Whole wr w.heap.size 4 cs ∧ BRow cs (N + 1) (fun y => decide (y < x) && rB ps y)) ∧ Below w.heap.size w wr) (fun v _ _ => N + 1 - (intOf v).toNat)
  case atStart =>
    refine ⟨1, by omega, by omega, rfl, ⟨_, Whole.new _ _ _, ((BRow.zero (N + 1)).set_ (i := 0) (b := true) (by omega)).congr fun y _ => ?_⟩, (Below.refl _ _).alloc (Nat.le_refl _) _⟩
    by_cases e : y = 0
    · subst e; rfl
    · rw [if_neg e]; simp; omega
  case round =>
    obtain ⟨x, hx1, hx2, rfl, ⟨cs, hB, hR⟩, hw⟩ := hrel
    by_cases hlt : x ≤ N
    · have hxi : (0 : Int) ≤ (x : Int) := by omega
      have hxn : (x : Int) < (N : Int) + 1 := by omega
      go_wp2_with fail
      obtain ⟨wo, rfl⟩ : ∃ wo : World, wo = wr := ⟨_, rfl⟩
      go_loopw [7] (fun q wr => ∃ k : Nat, k ≤ n ∧ q = .int .i64 k ∧ (∃ cs, Whole wr w.heap.size 4 cs ∧ BRow cs (N + 1) (fun y => if y < x then rB ps y else if y = x then anyTo ps x k else false)) ∧ Below w.heap.size w wr) (fun q _ => n - (intOf q).toNat)
      case atStart =>
        refine ⟨0, by omega, rfl, ⟨_, hB, hR.congr fun y _ => ?_⟩, hw⟩
        by_cases h1 : y < x
        · simp [h1]
        · simp [h1, anyTo]
      case round =>
        obtain ⟨k, hk, rfl, ⟨cs', hB', hR'⟩, hw'⟩ := hrel
        by_cases hkn : k < n
        · obtain ⟨b, off, rfl, hb, hcl⟩ := (hx.below hw').at_ hkn
          have hs := hp _ (NAt_mem (ps := ps) (k := k) (by rw [hx.len]; exact hkn))
          have hki : (0 : Int) ≤ (k : Int) := by omega
          have hkn' : (k : Int) < n := by omega
          have hst := Lib.hid (anyTo_succ (ps := ps) (x := x) (k := k) (by rw [hx.len]; exact hkn))
          have c1 := (hB'.cell x).trans (hR'.2 x (by omega))
          have c2 := hB'.frozen x
          by_cases hle : NAt ps k ≤ x
          · have c3 := (hB'.cell (x - NAt ps k)).trans (hR'.2 (x - NAt ps k) (by omega))
            simp only [if_pos (show x - NAt ps k < x by omega)] at c3
            have z1 : (0 : Int) ≤ (x : Int) - (NAt ps k : Int) := by omega
            have z2 : (x : Int) - (NAt ps k : Int) < (N : Int) + 1 := by omega
            by_cases hr : rB ps (x - NAt ps k) = true
            · have hst' := Lib.hid (show anyTo ps x (k + 1) = true by rw [hst.out]; simp [hle, hr])
              rw [hr] at c3
              clear hr
              go_wp2_with fail
              refine ⟨⟨k + 1, by omega, by go_num, ⟨_, hB'.set_ x _, (hR'.set_ (by omega)).congr fun y _ => ?_⟩, hw'.setCell (Nat.le_refl _) _⟩, by simp [intOf]; omega⟩
              rw [hst'.out]
              by_cases e : y = x
              · subst e; simp
              · simp [e]
            · have hr' : rB ps (x - NAt ps k) = false := by simpa using hr
              have hst' := Lib.hid (show anyTo ps x (k + 1) = anyTo ps x k by rw [hst.out]; simp [hr'])
              rw [hr'] at c3
              clear hr hr'
              go_wp2_with fail
              exact ⟨⟨k + 1, by omega, by go_num, ⟨_, hB', by rw [hst'.out]; exact hR'⟩, hw'⟩, by simp [intOf]; omega⟩
          · have hst' := Lib.hid (show anyTo ps x (k + 1) = anyTo ps x k by rw [hst.out]; simp [hle])
            have hle' : ¬ (NAt ps k : Int) ≤ (x : Int) := by omega
            go_wp2_with fail
            exact ⟨⟨k + 1, by omega, by go_num, ⟨_, hB', by rw [hst'.out]; exact hR'⟩, hw'⟩, by simp [intOf]; omega⟩
        · obtain rfl : k = n := by omega
          go_wp2_with fail
          refine ⟨⟨x + 1, by omega, by omega, by go_num, ⟨_, hB', hR'.congr fun y _ => ?_⟩, hw'⟩, by simp [intOf]; omega⟩
          have hall : anyTo ps x k = rB ps x := by rw [← hx.len]; exact anyTo_all hpos (by omega)
          rw [hall]
          by_cases h1 : y < x
          · rw [if_pos h1]; simp; omega
          · by_cases h2 : y = x
            · subst h2; simp
            · rw [if_neg h1, if_neg h2]; simp; omega
    · obtain rfl : x = N + 1 := by omega
      go_wp2_with fail
      go_ret
      exact ⟨_, rfl, hB.bools (hR.congr fun y hy => by simp [hy]), hw⟩
end Go.Proofs.Ytjcoaicpeajpnaa
