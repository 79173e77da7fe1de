/-
  Rows of numbers that a call makes itself: make, append of one number, what is returned.
-/
import Derived.Test.YtenlmjnejjdnnaaDoorKKit
import Derived.Maps.AppendAt
import Derived.Deep.OwnRows
namespace Go.Proofs.YtenlmjnejjdnnaaDoor
open Go.RowKit

/-- A row of n numbers, each told by f. -/
def Row (cs : Array Value) (n : Nat) (f : Nat → Int) : Prop := cs.size = n ∧ ∀ x, x < n → cs[x]? = some (.int .i64 (f x))
theorem Row.set_ {cs : Array Value} {n : Nat} {f : Nat → Int} (h : Row cs n f) {i : Nat} {b : Int} (hi : i < n) : Row (cs.setIfInBounds i (.int .i64 b)) n (fun x => if x = i then b else f x) := by
  refine ⟨by simp [h.1], fun x hx => ?_⟩
  by_cases e : x = i
  · subst e; simp [h.1, hi]
  · rw [Array.getElem?_setIfInBounds_ne (by omega)]; simp only [if_neg e]; exact h.2 x hx
theorem Row.congr {cs : Array Value} {n : Nat} {f g : Nat → Int} (h : Row cs n f) (e : ∀ x, x < n → f x = g x) : Row cs n g := ⟨h.1, fun x hx => by rw [← e x hx]; exact h.2 x hx⟩
theorem Row.zero (n : Nat) : Row (Array.replicate n (.int .i64 0)) n (fun _ => 0) := ⟨by simp, fun x hx => by simp [hx]⟩
theorem Whole.ints {w : World} {g n : Nat} {cs : Array Value} {xs : List Int} {t : TypeId} (hB : Whole w g t cs) (hR : Row cs n (At xs)) (hl : xs.length = n) : Ints w (some ⟨g, 0, none⟩) n xs :=
  ⟨hl, fun k hk => ⟨g, 0, rfl, hB.lt, by rw [Nat.zero_add]; exact (hB.cell k).trans (hR.2 k hk)⟩⟩
theorem Whole.nats {w : World} {g n : Nat} {cs : Array Value} {xs : List Nat} {t : TypeId} (hB : Whole w g t cs) (hR : Row cs n (fun k => (NAt xs k : Int))) (hl : xs.length = n) : Nats w (some ⟨g, 0, none⟩) n xs :=
  ⟨hl, fun k hk => ⟨g, 0, rfl, hB.lt, by rw [Nat.zero_add]; exact (hB.cell k).trans (hR.2 k hk)⟩⟩

theorem Tryd.info_int : (Tryd.prog.info? 3).map (fun i => (i.zero, i.size, i.bytes)) = some (some (.int .i64 0), 1, 8) := by kernel_rfl

theorem mkI (l : Int) (n : Nat) (h : l = n) (hn : n ≤ 100000000) (w : World) :
    (Instr.makeSlice 22 (.int .i64 l) (.int .i64 l)).run Tryd.prog w = .ok (.slice (some ⟨w.heap.size, 0, none⟩) n n) (w.alloc (.cells (Array.replicate n (.int .i64 0)) 3)) := by
  subst h
  obtain ⟨i0, hi, hz0, hz1, hz2⟩ := info_parts Tryd.info_int
  have hr := run_make (P := Tryd.prog) w 22 3 i0 (.int .i64 0) Tryd.underlying22 hi hz0 .i64 .i64 (n : Int) (n : Int) (by omega) (by omega) (by rw [hz2]; omega) (by omega)
  rw [hr, hz1]
  have e : madeCells (Value.int IntKind.i64 0).cells ((n : Int).toNat * 1) = Array.replicate n (.int .i64 0) := by
    apply Array.ext_getElem?
    intro j
    simp [madeCells, Value.cells]
    by_cases hj : j < n
    · simp [hj, Nat.mod_one]
    · simp [hj]
  rw [e]
  simp

/-- The call's own slice of numbers, made by appends. -/
def OwnI (w : World) (base : Nat) (v : Value) (xs : List Int) : Prop := w.ownsRow base 3 1 v xs.length (xs.map (Value.int .i64))
theorem OwnI.nil_ (w : World) (base : Nat) : OwnI w base (.slice none 0 0) [] := World.ownsRow_nil _ _ _ _
theorem OwnI.form {w : World} {base : Nat} {v : Value} {xs : List Int} (h : OwnI w base v xs) :
    ∃ A c, v = .slice A xs.length c ∧ Ints w A xs.length xs := by
  rcases h.2 with ⟨rfl, hn⟩ | ⟨g, cap, cur, rfl, hg, hh, hnc, hcm, hsz, htake⟩
  · have : xs = [] := List.eq_nil_of_length_eq_zero hn
    subst this
    exact ⟨none, 0, rfl, Ints.nil_ _ _⟩
  · refine ⟨_, _, rfl, rfl, fun k hk => ⟨g, 0, rfl, (Array.getElem?_eq_some_iff.1 hh).1, ?_⟩⟩
    have hc := h.cells (g := g) rfl k (.int .i64 (At xs k)) (by simp [At, List.getElem?_eq_getElem hk])
    simpa [Addr.add_lit] using hc
theorem OwnI.below {w w' : World} {base : Nat} {v : Value} {xs : List Int} (h : OwnI w base v xs) (hb : Below w.heap.size w w') : OwnI w' base v xs := by
  refine ⟨h.1, ?_⟩
  rcases h.2 with hn | ⟨g, cap, cur, rfl, hg, hh, rest⟩
  · exact .inl hn
  · exact .inr ⟨g, cap, cur, rfl, hg, (hb.block g (Array.getElem?_eq_some_iff.1 hh).1).trans hh, rest⟩

theorem wpList_appI {w : World} {ops : Array Oper} {rest : List Oper} {o : Oper} {a : Act} {Q : Exit → Act → World → Prop} (hgd : o.guard = none) (s x : Operand)
    (ho : o.op = .call { callee := .builtin .append, args := #[s, x], argTypes := #[22, 22] })
    (base : Nat) (v : Value) (xs : List Int) (k : Int) (hs : a.eval s = v) (hown : OwnI w base v xs) (hbase : base ≤ w.heap.size) (hlen : xs.length ≤ 1000000000)
    (hx : a.eval x = .slice (some ⟨w.heap.size, 0, none⟩) 1 1)
    (h : ∀ v' w', OwnI w' base v' (xs ++ [k]) → (∀ w0, Below base w0 w → Below base w0 w') → wpList Tryd.prog ops Q rest (a.put o.dst v') w') :
    wpList Tryd.prog ops Q (o :: rest) a (w.alloc (.cells #[.int .i64 k] 3)) := by
  obtain ⟨i0, hi, hz0, hz1, hz2⟩ := info_parts Tryd.info_int
  refine wpList_append_own_at _ hgd s x 22 ho base 3 i0 (.int .i64 0) 1 8 Tryd.underlying22 hi hz0 hz1 hz2 rfl (by decide) v xs.length _ hs (hown.alloc _) ⟨w.heap.size, 0, none⟩ 1 1 [.int .i64 k] hx rfl ?_ ?_ (by unfold maxLen; omega) (by omega) (by simp; omega) ?_
  · intro j u hj
    cases j with
    | zero =>
      simp at hj
      subst hj
      rw [Addr.add_lit]
      simp
    | succ j => simp at hj
  · intro u hu
    simp at hu
    subst hu
    rfl
  · intro v' w' hown' hgrow _ _
    refine h v' w' ?_ ?_
    · unfold OwnI
      rw [List.length_append, List.map_append]
      exact hown'
    · intro w0 h0
      exact (h0.alloc hbase _).grown hgrow (by simp; omega) (fun j hj => (World.ownsRow.lt hown j hj).1)

end Go.Proofs.YtenlmjnejjdnnaaDoor
