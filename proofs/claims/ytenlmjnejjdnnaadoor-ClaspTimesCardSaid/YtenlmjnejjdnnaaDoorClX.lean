/- Bars compared. -/
import Derived.Test.YtenlmjnejjdnnaaDoorClF
import Derived.ChangeKeysEq
namespace Go.Proofs.YtenlmjnejjdnnaaDoor
open Go.RowKit Cl
theorem pk_bool : Tryd.prog.plainKey 4 = true := by kernel_rfl
theorem pk_int : Tryd.prog.plainKey 3 = true := by kernel_rfl
theorem cells_bool : Tryd.prog.cellsOf 4 = 1 := by kernel_rfl
theorem eqItems_bools {w : World} {d : Nat} {xs ys : Array Value} {f g : Nat → Bool} : ∀ (is : List Nat), (∀ i ∈ is, xs[i]? = some (.bool (f i)) ∧ ys[i]? = some (.bool (g i))) →
    (Op.eqItems (d + 1) 4 1 xs ys is).run Tryd.prog w = .ok (is.all fun i => f i == g i) w
  | [], _ => by simp [Op.eqItems]
  | i :: is, h => by
    obtain ⟨h1, h2⟩ := h i (List.mem_cons_self ..)
    have ih := eqItems_bools (w := w) (d := d) is (fun j hj => h j (List.mem_cons_of_mem _ hj))
    have p1 := run_part_plain (P := Tryd.prog) w pk_bool (off := i * 1) (by rw [Nat.mul_one]; exact h1)
    have p2 := run_part_plain (P := Tryd.prog) w pk_bool (off := i * 1) (by rw [Nat.mul_one]; exact h2)
    simp only [Op.eqItems, Sem.run_bind, p1, p2, Result.andThen_ok, run_equalIn_bool' w d 4 (f i) (g i) Tryd.underlying4, List.all_cons]
    cases hfg : (f i == g i)
    · simp
    · simpa using ih
theorem bar_fields : (Tryd.prog.fieldsOf 68).toList.map (fun f => (f.name, f.type, f.offset)) = [("rings", 3, 0), ("on", 66, 1)] := by kernel_rfl
theorem arr_info : (Tryd.prog.info? 66).map (·.size) = some 16 := by kernel_rfl
theorem bar_fields2 : ∃ f0 f1 : Field, (Tryd.prog.fieldsOf 68).toList = [f0, f1] ∧ (f0.name, f0.type, f0.offset) = ("rings", 3, 0) ∧ (f1.name, f1.type, f1.offset) = ("on", 66, 1) := by
  have h := bar_fields
  generalize (Tryd.prog.fieldsOf 68).toList = L at h ⊢
  rcases L with _ | ⟨f0, _ | ⟨f1, _ | ⟨f2, r⟩⟩⟩
  · simp at h
  · simp at h
  · simp only [List.map_cons, List.map_nil, List.cons.injEq, and_true] at h
    exact ⟨f0, f1, rfl, h.1, h.2⟩
  · simp at h
theorem part_arr (w : World) (xs : Array Value) : (part 66 xs 1).run Tryd.prog w = .ok (.agg (xs.extract 1 17)) w := by
  obtain ⟨i16, hi16, hs16⟩ : ∃ i, Tryd.prog.info? 66 = some i ∧ i.size = 16 := by
    have h := arr_info
    generalize Tryd.prog.info? 66 = q at h ⊢
    cases q with
    | none => cases h
    | some i => exact ⟨i, rfl, by simpa using h⟩
  have ha : (isAgg 66).run Tryd.prog w = .ok true w := by
    unfold isAgg; rw [Sem.run_bind, run_underlying Tryd.underlying66 w]; rfl
  simp [part, ha, sizeOf, typeInfo, hi16, hs16]
theorem bar_und : Tryd.prog.underlying 68 = some (.struct (Tryd.prog.fieldsOf 68)) := by kernel_rfl
theorem bar_stood : Tryd.prog.stoodInHeld 68 = false := by kernel_rfl
theorem arr_at {xs : Array Value} {k : List Bool} (h : BarC xs k) : ∀ i ∈ List.range 16, (xs.extract 1 17)[i]? = some (.bool (bit k i)) := by
  intro i hi
  have hi := List.mem_range.1 hi
  rw [Array.getElem?_extract, if_pos (by rw [h.1]; omega)]
  exact h.2.2.1 i hi
theorem arr_eq (d : Nat) (cs ds : Array Value) (l m : List Bool) (w : World) (hc : BarC cs l) (hd : BarC ds m) :
    (Op.equalIn (d + 2) 66 (.agg (cs.extract 1 17)) (.agg (ds.extract 1 17))).run Tryd.prog w = .ok ((List.range 16).all fun i => bit l i == bit m i) w := by
  have r := eqItems_bools (w := w) (d := d) (xs := cs.extract 1 17) (ys := ds.extract 1 17) (f := bit l) (g := bit m) (List.range 16) (fun i hi => ⟨arr_at hc i hi, arr_at hd i hi⟩)
  obtain ⟨i4, hi4⟩ := info_of_underlying (P := Tryd.prog) Tryd.underlying4
  rw [run_equalIn_array (P := Tryd.prog) w (d + 1) (cs.extract 1 17) (ds.extract 1 17) Tryd.underlying66 hi4, cells_bool, r]
theorem bits_eq {l m : List Bool} (hl : l.length ≤ 16) : decide (l = m) = (((l.length : Int) == (m.length : Int)) && (List.range 16).all fun i => bit l i == bit m i) := by
  rw [Bool.eq_iff_iff]
  simp only [decide_eq_true_eq, Bool.and_eq_true, beq_iff_eq, List.all_eq_true, List.mem_range]
  constructor
  · rintro rfl; exact ⟨rfl, fun _ _ => rfl⟩
  · rintro ⟨h1, h2⟩
    exact bit_ext (by omega) fun k hk => h2 k (by omega)
theorem bar_eq (d : Nat) (cs ds : Array Value) (l m : List Bool) (w : World) (hc : BarC cs l) (hd : BarC ds m) :
    (Op.equalIn (d + 3) 68 (.agg cs) (.agg ds)).run Tryd.prog w = .ok (decide (l = m)) w := by
  rw [run_equalIn_struct w (d + 2) 68 cs ds bar_und bar_stood]
  obtain ⟨f0, f1, hf, e0, e1⟩ := bar_fields2
  rw [hf]
  simp only [Prod.mk.injEq] at e0 e1
  obtain ⟨n0, t0, o0⟩ := e0
  obtain ⟨n1, t1, o1⟩ := e1
  have p1 := run_part_plain (P := Tryd.prog) w pk_int (off := 0) hc.2.1
  have p2 := run_part_plain (P := Tryd.prog) w pk_int (off := 0) hd.2.1
  have r2 := arr_eq d cs ds l m w hc hd
  have ei : (Op.equalIn (d + 2) 3 (.int .i64 (l.length : Int)) (.int .i64 (m.length : Int))).run Tryd.prog w = .ok ((l.length : Int) == (m.length : Int)) w := run_equalIn_int (P := Tryd.prog) w (d + 1) 3 .i64 .i64 _ _ Tryd.underlying3
  rw [bits_eq hc.2.2.2]
  generalize ((List.range 16).all fun i => bit l i == bit m i) = y at r2 ⊢
  have g0 : ¬ (f0.name = "_") := by rw [n0]; decide
  have g1 : ¬ (f1.name = "_") := by rw [n1]; decide
  simp only [Op.eqFields, g0, g1, t0, t1, o0, o1, ne_eq, not_false_eq_true, if_true, Sem.run_bind, p1, p2, part_arr, Result.andThen_ok, ei, r2]
  generalize ((l.length : Int) == (m.length : Int)) = x
  cases x
  · simp
  · cases y
    · simp [Sem.run_bind, part_arr, r2]
    · simp [Sem.run_bind, part_arr, r2]
theorem bar_neq (cs ds : Array Value) (l m : List Bool) (w : World) (hc : BarC cs l) (hd : BarC ds m) :
    (binOp .neq 68 (.agg cs) (.agg ds)).run Tryd.prog w = .ok (.bool (!decide (l = m))) w := by
  rw [run_neq_struct]
  have := bar_eq 9997 cs ds l m w hc hd
  rw [this]; rfl
end Go.Proofs.YtenlmjnejjdnnaaDoor
