/- The evaluator's operations on memory: blocks made, read, written. -/
import Derived.Test.YtkdbgkibifigiaaEvE
namespace Go.Proofs.Ytkdbgkibifigiaa.Ev
set_option linter.unusedVariables false
open Go

/-! The same, handed on when it is worked out. -/
noncomputable def posK {β : Type} (f : Nat) : Nat → (Pos → β) → β := Nat.rec (motive := fun _ => Nat → (Pos → β) → β) (fun _ k => k .h)
  (fun _ ih n k => Bool.rec (Bool.rec (ih (Nat.div n 2) fun p => k (.i p)) (ih (Nat.div n 2) fun p => k (.o p)) (Nat.beq (Nat.mod n 2) 0)) (k .h) (Nat.ble n 1)) f
theorem posK_eq {β : Type} : ∀ (f n : Nat) (k : Pos → β), posK f n k = k (posF f n)
  | 0, _, _ => rfl
  | f + 1, n, k => by
    show (Bool.rec (Bool.rec (posK f (n / 2) fun p => k (.i p)) (posK f (n / 2) fun p => k (.o p)) (Nat.beq (n % 2) 0)) (k .h) (Nat.ble n 1) : β) = _
    rw [posK_eq, posK_eq, posF]
    by_cases h1 : n ≤ 1
    · have e : Nat.ble n 1 = true := by rw [Nat.ble_eq]; exact h1
      rw [e, if_pos h1]
    · have e : Nat.ble n 1 = false := by rw [← Bool.not_eq_true, Nat.ble_eq]; exact h1
      rw [e, if_neg h1]
      by_cases h2 : n % 2 = 0
      · have e : Nat.beq (n % 2) 0 = true := by rw [h2]; rfl
        rw [e, if_pos h2]
      · have e : Nat.beq (n % 2) 0 = false := by rw [show n % 2 = 1 by omega]; rfl
        rw [e, if_neg h2]
noncomputable def Tr.setK {β : Type} (x : V) (p : Pos) : Tr → (Tr → β) → β :=
  Pos.rec (motive := fun _ => Tr → (Tr → β) → β) (fun t k => Tr.rec (motive := fun _ => β) (k (.nd .lf x .lf)) (fun l _ r _ _ => k (.nd l x r)) t)
   (fun _ ih t k => Tr.rec (motive := fun _ => β) (ih .lf fun l' => k (.nd l' .bad .lf)) (fun l v r _ _ => ih l fun l' => k (.nd l' v r)) t)
   (fun _ ih t k => Tr.rec (motive := fun _ => β) (ih .lf fun r' => k (.nd .lf .bad r')) (fun l v r _ _ => ih r fun r' => k (.nd l v r')) t) p
theorem Tr.setK_eq {β : Type} (x : V) : ∀ (p : Pos) (t : Tr) (k : Tr → β), t.setK x p k = k (t.set x p)
  | .h, .lf, _ => rfl | .h, .nd .., _ => rfl
  | .o p, .lf, k => Tr.setK_eq x p .lf _ | .o p, .nd l v r, k => Tr.setK_eq x p l _
  | .i p, .lf, k => Tr.setK_eq x p .lf _ | .i p, .nd l v r, k => Tr.setK_eq x p r _
noncomputable def Hp.putK {β : Type} (x : Option Blk) (p : Pos) : Hp → (Hp → β) → β :=
  Pos.rec (motive := fun _ => Hp → (Hp → β) → β) (fun t k => Hp.rec (motive := fun _ => β) (k (.nd .lf x .lf)) (fun l _ r _ _ => k (.nd l x r)) t)
   (fun _ ih t k => Hp.rec (motive := fun _ => β) (ih .lf fun l' => k (.nd l' none .lf)) (fun l v r _ _ => ih l fun l' => k (.nd l' v r)) t)
   (fun _ ih t k => Hp.rec (motive := fun _ => β) (ih .lf fun r' => k (.nd .lf none r')) (fun l v r _ _ => ih r fun r' => k (.nd l v r')) t) p
theorem Hp.putK_eq {β : Type} (x : Option Blk) : ∀ (p : Pos) (t : Hp) (k : Hp → β), t.putK x p k = k (t.put x p)
  | .h, .lf, _ => rfl | .h, .nd .., _ => rfl
  | .o p, .lf, k => Hp.putK_eq x p .lf _ | .o p, .nd l v r, k => Hp.putK_eq x p l _
  | .i p, .lf, k => Hp.putK_eq x p .lf _ | .i p, .nd l v r, k => Hp.putK_eq x p r _

theorem Hp.put_get (x : Option Blk) (p : Pos) (h : Hp) : (h.put x p).get = hput h.get p x := by
  funext q; exact Hp.get_put x p q h
theorem Hp.put_get' (x : Option Blk) (p : Pos) (h : Hp) : (fun q => (h.put x p).get q) = hput (fun q => h.get q) p x := Hp.put_get x p h

/-! A new block. -/
noncomputable def newB (b : Blk) (k : Pos → V) (h : Hp) (n : Nat) : Res :=
  Bool.rec .no (posK 63 n fun p => fN (Nat.succ n) fun n' => h.putK (some b) p fun h' => .ok (k p) h' n') (Nat.ble 1 n)

theorem newB_soundF {b : Blk} {k : Pos → V} {h h' : Hp} {n n' lim : Nat} {v : V} (e : newB b k h n = .ok v h' n') {g : Sig} {w : World} (m : Mem g h.get w) (hd : Dom h.get n) (hf : Fresh g n n') (hn : n' < 9223372036854775808)
    (cur : Array Value) (hs : b.size ≤ cur.size) (hm : b.size ≤ maxSize) (hc : ∀ j, j < b.size → ∃ u, cur[j]? = some u ∧ u.oneCell' = true ∧ (b.cell j).rel g u) (fz : Nat × Nat) (hz : NoFz cur.size fz) :
    ∃ p g', g.le g' ∧ g' p = some (w.heap.size, 0, cur.size) ∧ v = k p ∧ Mem g' h'.get (w.alloc (.cells cur b.el fz)) ∧ Fr lim n g h.get w n' g' h'.get (w.alloc (.cells cur b.el fz)) := by
  unfold newB at e
  cases hb : Nat.ble 1 n
  · rw [hb] at e; cases e
  · rw [hb] at e
    have e : posK 63 n (fun p => fN (Nat.succ n) fun n' => h.putK (some b) p fun h' => Res.ok (k p) h' n') = .ok v h' n' := e
    rw [posK_eq, fN_eq, Hp.putK_eq] at e
    cases e
    rw [Nat.ble_eq] at hb
    have hp : (posF 63 n).num = n := num_posF 63 n hb (by omega)
    have h0 : g (posF 63 n) = none := hf _ (by omega) (by omega)
    refine ⟨posF 63 n, gput g (posF 63 n) (w.heap.size, 0, cur.size), gput_le _ h0, by simp [gput], rfl, ?_, ?_⟩
    · rw [Hp.put_get]; exact mem_allocF m h0 b cur hs hm hc fz hz
    · rw [Hp.put_get]; exact fr_alloc hd hp b cur fz

theorem newB_sound {b : Blk} {k : Pos → V} {h h' : Hp} {n n' lim : Nat} {v : V} (e : newB b k h n = .ok v h' n') {g : Sig} {w : World} (m : Mem g h.get w) (hd : Dom h.get n) (hf : Fresh g n n') (hn : n' < 9223372036854775808)
    (cur : Array Value) (hs : b.size ≤ cur.size) (hm : b.size ≤ maxSize) (hc : ∀ j, j < b.size → ∃ u, cur[j]? = some u ∧ u.oneCell' = true ∧ (b.cell j).rel g u) :
    ∃ p g', g.le g' ∧ g' p = some (w.heap.size, 0, cur.size) ∧ v = k p ∧ Mem g' h'.get (w.alloc (.cells cur b.el)) ∧ Fr lim n g h.get w n' g' h'.get (w.alloc (.cells cur b.el)) := newB_soundF e m hd hf hn cur hs hm hc (0, 0) (noFz0 _)

/-- A block whose cells are those of a list. -/
theorem cell_list {g : Sig} {l : L} {vs : List Value} (hr : l.rel g vs) (hc : l.allC = true) (el : TypeId) : ∀ j, j < l.length → ∃ u, (⟨vs⟩ : Array Value)[j]? = some u ∧ u.oneCell' = true ∧ ((⟨el, l.length, l.length, l, .lf⟩ : Blk).cell j).rel g u := by
  intro j hj
  have hl := L.rel_length hr
  have h1 := L.rel_get j hr
  have e : ((⟨el, l.length, l.length, l, .lf⟩ : Blk).cell j) = l.get j := by
    show orZ .bad (nthL (j % l.length) l) = _
    rw [nthL_eq, Nat.mod_eq_of_lt hj]; rfl
  have hC : ∀ {l : L} {j : Nat}, l.allC = true → j < l.length → (l.get j).isC = true := by
    intro l
    induction l using L.rec (motive_1 := fun _ => True) with
    | nil => intro j _ hj; simp [L.length] at hj
    | cons v l _ ih =>
      intro j hc hj
      simp [L.allC] at hc
      cases j with
      | zero => exact hc.1
      | succ j => exact ih hc.2 (by simp [L.length] at hj; omega)
    | _ => trivial
  refine ⟨vs.getD j undef, ?_, (V.isC_one (hC hc hj) h1).1, by rw [e]; exact h1⟩
  simp [List.getD, List.getElem?_eq_getElem (show j < vs.length by omega)]

section
variable {P : Program} {o : Oper}

noncomputable def evAlloc (el : TypeId) (z : L) (zl : Nat) (_ : Tr) (_ : Nat) (h : Hp) (n : Nat) : Res := newB ⟨el, zl, zl, z, .lf⟩ (fun p => .p p 0) h n
theorem ok_alloc {el : TypeId} {i : TypeInfo} {zv : Value} {z : L} {zl : Nat} (hi : P.info? el = some i) (hz : i.zero = some zv) (hzl : ofVals zv.cells.toList = some z) (hC : z.allC = true) (hl : zl = z.length) (hm : zl ≤ maxSize) (ho : o.op = .alloc el) :
    OpOK P o (evAlloc el z zl) := by
  subst hl
  intro e lim h n v h' n' hr ρ g w he m hd hf hn
  have zr : z.rel g zv.cells.toList := ofVals_rel g _ hzl
  have hsz : zv.cells.size = z.length := by have := L.rel_length zr; simpa using this
  obtain ⟨p, g', hle, hg', rfl, m', f'⟩ := newB_sound (lim := lim) hr m hd hf hn zv.cells (by show z.length ≤ _; omega) hm (fun j hj => by
    obtain ⟨u, h1, h2, h3⟩ := cell_list zr hC el j hj
    exact ⟨u, by simpa using h1, h2, h3⟩)
  refine ⟨.value (.pointer (some ⟨w.heap.size, 0, none⟩)), g', _, ?_, ⟨_, _, _, hg', rfl⟩, m', f'⟩
  simp [execOp, ho, Instr.alloc, zeroValue, typeInfo, hi, hz, newVar, newRow]

noncomputable def evBox (el : TypeId) (x : X) (e : Tr) (_ : Nat) (h : Hp) (n : Nat) : Res :=
  let l := (evX x e).toL
  Bool.rec .no (fN l.length fun k => Bool.rec .no (newB ⟨el, k, k, l, .lf⟩ (fun p => .p p 0) h n) (Nat.ble k 1099511627776)) l.allC
theorem ok_box {el : TypeId} {ox : Operand} {x : X} (hx : compX ox = some x) (ho : o.op = .box el ox) : OpOK P o (evBox el x) := by
  intro e lim h n v h' n' hr ρ g w he m hd hf hn
  unfold evBox at hr
  dsimp only at hr
  cases hc : (evX x e).toL.allC
  · rw [hc] at hr; cases hr
  · rw [hc] at hr
    have hr : fN (evX x e).toL.length (fun k => (Bool.rec .no (newB ⟨el, k, k, (evX x e).toL, .lf⟩ (fun p => .p p 0) h n) (Nat.ble k 1099511627776) : Res)) = .ok v h' n' := hr
    rw [fN_eq] at hr
    cases hb : Nat.ble (evX x e).toL.length 1099511627776
    · rw [hb] at hr; cases hr
    · rw [hb] at hr
      rw [Nat.ble_eq] at hb
      have rx := toL_rel (he ox x hx) hc
      have hlen := L.rel_length rx
      have hr : newB ⟨el, (evX x e).toL.length, (evX x e).toL.length, (evX x e).toL, .lf⟩ (fun p => .p p 0) h n = .ok v h' n' := hr
      obtain ⟨p, g', hle, hg', rfl, m', f'⟩ := newB_sound (lim := lim) hr m hd hf hn (ρ ox).cells (by show (evX x e).toL.length ≤ _; rw [← hlen]; simp) hb (fun j hj => by
        obtain ⟨u, h1, h2, h3⟩ := cell_list rx hc el j hj
        exact ⟨u, by simpa using h1, h2, h3⟩)
      refine ⟨.value (.pointer (some ⟨w.heap.size, 0, none⟩)), g', _, ?_, ⟨_, _, _, hg', rfl⟩, m', f'⟩
      simp [execOp, ho, Instr.box, newVar, newRow]

/-! Reading. -/
noncomputable def evLd (n : Nat) (agg : Bool) (x : X) (e : Tr) (_ : Nat) (h : Hp) (c : Nat) : Res :=
  onP (evX x e) (fun a o => Option.rec .no (fun b => Bool.rec .no (Bool.rec (.ok (b.cell o) h c) (.ok (.ag (b.getL o n)) h c) agg) (Nat.ble (Nat.add o n) b.size)) (h.get a)) .no
theorem ok_ld {t : TypeId} {i : TypeInfo} {agg : Bool} {ox : Operand} {x : X} (hx : compX ox = some x) (hi : P.info? t = some i) (ha : P_isAgg P t = some agg) (h1 : agg = false → i.size = 1) (ho : o.op = .load t ox) :
    OpOK P o (evLd i.size agg x) := by
  intro e lim h n v h' n' hr ρ g w he m hd hf hn
  unfold evLd at hr
  have rx := he ox x hx
  rcases onP_or (evX x e) (fun a o => (Option.rec .no (fun b => Bool.rec .no (Bool.rec (.ok (b.cell o) h n) (.ok (.ag (b.getL o i.size)) h n) agg) (Nat.ble (Nat.add o i.size) b.size)) (h.get a) : Res)) .no with ⟨a, off, h1', h2⟩ | h2
  · rw [h2] at hr
    rw [h1', V.rel] at rx
    obtain ⟨r, base, tot, hg, hv⟩ := rx
    cases hh : h.get a with
    | none => rw [hh] at hr; cases hr
    | some b =>
      rw [hh] at hr
      have hr : (Bool.rec .no (Bool.rec (.ok (b.cell off) h n) (.ok (.ag (b.getL off i.size)) h n) agg) (Nat.ble (off + i.size) b.size) : Res) = .ok v h' n' := hr
      cases hb : Nat.ble (off + i.size) b.size
      · rw [hb] at hr; cases hr
      · rw [hb] at hr
        rw [Nat.ble_eq] at hb
        cases agg
        · have hr : Res.ok (b.cell off) h n = .ok v h' n' := hr
          cases hr
          obtain ⟨u, c1, c2, c3, c4⟩ := mem_cell m hh hg (k := off) (by have := h1 rfl; omega)
          refine ⟨.value u, g, w, ?_, c3, m, Fr.refl hd⟩
          simp [execOp, ho, hv, Instr.loadAt, Instr.sureAddr, loadVar, run_isAgg ha, c1]
        · have hr : Res.ok (.ag (b.getL off i.size)) h n = .ok v h' n' := hr
          cases hr
          obtain ⟨vs, g1, g2, g3, g4⟩ := getL_rel m hh hg i.size off (by omega)
          refine ⟨.value (.agg ⟨vs⟩), g, w, ?_, ⟨vs, rfl, g2⟩, m, Fr.refl hd⟩
          have hl := run_loadCells_list (P := P) w ⟨r, base + off, none⟩ vs g4
          rw [g1] at hl
          simp [execOp, ho, hv, Instr.loadAt, Instr.sureAddr, loadVar, run_isAgg ha, sizeOf, typeInfo, hi, hl]
  · rw [h2] at hr; cases hr

/-! Writing. -/
noncomputable def Blk.setLK {β : Type} (b : Blk) (k : Nat) (l : L) (c : Blk → β) : β := c (b.setL k l)
noncomputable def evSt (n : Nat) (x y : X) (e : Tr) (lim : Nat) (h : Hp) (c : Nat) : Res :=
  onP (evX x e) (fun a o => Option.rec .no (fun b =>
    let l := (evX y e).toL
    Bool.rec .no (h.putK (some (b.setL o l)) a fun h' => .ok (.tu .nil) h' c) (and (Nat.ble (Nat.add o n) b.size) (and (Nat.beq l.length n) (and l.allC (Nat.ble lim a.num))))) (h.get a)) .no
theorem ok_st {t : TypeId} {i : TypeInfo} {ox oy : Operand} {x y : X} (hx : compX ox = some x) (hy : compX oy = some y) (hi : P.info? t = some i) (ho : o.op = .store t ox oy) : OpOK P o (evSt i.size x y) := by
  intro e lim h n v h' n' hr ρ g w he m hd hf hn
  unfold evSt at hr
  have rx := he ox x hx
  rcases onP_or (evX x e) (fun a o => (Option.rec .no (fun b =>
    Bool.rec .no (h.putK (some (b.setL o (evX y e).toL)) a fun h' => .ok (.tu .nil) h' n) (and (Nat.ble (Nat.add o i.size) b.size) (and (Nat.beq (evX y e).toL.length i.size) (and (evX y e).toL.allC (Nat.ble lim a.num))))) (h.get a) : Res)) .no with ⟨a, off, h1', h2⟩ | h2
  · dsimp only at hr
    rw [h2] at hr
    rw [h1', V.rel] at rx
    obtain ⟨r, base, tot, hg, hv⟩ := rx
    cases hh : h.get a with
    | none => rw [hh] at hr; cases hr
    | some b =>
      rw [hh] at hr
      have hr : (Bool.rec .no (h.putK (some (b.setL off (evX y e).toL)) a fun h' => .ok (.tu .nil) h' n) (and (Nat.ble (off + i.size) b.size) (and (Nat.beq (evX y e).toL.length i.size) (and (evX y e).toL.allC (Nat.ble lim a.num)))) : Res) = .ok v h' n' := hr
      cases hb : and (Nat.ble (off + i.size) b.size) (and (Nat.beq (evX y e).toL.length i.size) (and (evX y e).toL.allC (Nat.ble lim a.num)))
      · rw [hb] at hr; cases hr
      · rw [hb] at hr
        simp only [Bool.and_eq_true, Nat.ble_eq, Nat.beq_eq] at hb
        obtain ⟨b1, b2, b3, b4⟩ := hb
        have hr : h.putK (some (b.setL off (evX y e).toL)) a (fun h' => Res.ok (.tu .nil) h' n) = .ok v h' n' := hr
        rw [Hp.putK_eq] at hr
        cases hr
        have ry := toL_rel (he oy y hy) b3
        have hlen := L.rel_length ry
        obtain ⟨w', s1, s2, s3⟩ := stores P hg b4 (evX y e).toL (ρ oy).cells.toList off b h.get w 0 m hd hh (by omega) b3 ry
        simp only [Nat.add_zero] at s2 s3
        refine ⟨.skip, g, w', ?_, ⟨[], rfl, rfl⟩, by rw [Hp.put_get]; exact s2, by rw [Hp.put_get]; exact s3⟩
        have hsz : (ρ oy).cells.size = i.size := by rw [← b2, ← hlen]; simp
        simp only [execOp, ho, hv, Instr.storeAt, Instr.sureAddr, storeVar, Sem.run_bind, Sem.run_pure, Result.andThen_ok, sizeOf, typeInfo, run_program, hi, hsz, ne_eq, not_true_eq_false, if_false, s1]
  · dsimp only at hr; rw [h2] at hr; cases hr
end
end Go.Proofs.Ytkdbgkibifigiaa.Ev
