/- The texts EvF, EvG, EvH, EvI, EvJ, EvK, EvY. -/
import Derived.Test.YthgaekbcmhbbgaaQ1
import Derived.Laws.Slices
import Derived.Laws.StructEq
/- The evaluator's operations on memory: blocks made, read, written. -/
namespace Go.Proofs.Ythgaekbcmhbbgaa.Ev
set_option linter.unusedVariables false
open Go

/-! The same, handed on when it is worked out. -/
noncomputable def posK {β : Type} (f : Nat) : Nat → (Pos → β) → β := Nat.rec (motive := fun _ => Nat → (Pos → β) → β) (fun _ k => k .h)
  (fun _ ih n k => Bool.rec (Bool.rec (ih (Nat.div n 2) fun p => k (.i p)) (ih (Nat.div n 2) fun p => k (.o p)) (Nat.beq (Nat.mod n 2) 0)) (k .h) (Nat.ble n 1)) f
theorem posK_eq {β : Type} : ∀ (f n : Nat) (k : Pos → β), posK f n k = k (posF f n)
  | 0, _, _ => rfl
  | f + 1, n, k => by
    show (Bool.rec (Bool.rec (posK f (n / 2) fun p => k (.i p)) (posK f (n / 2) fun p => k (.o p)) (Nat.beq (n % 2) 0)) (k .h) (Nat.ble n 1) : β) = _
    rw [posK_eq, posK_eq, posF]
    by_cases h1 : n ≤ 1
    · have e : Nat.ble n 1 = true := by rw [Nat.ble_eq]; exact h1
      rw [e, if_pos h1]
    · have e : Nat.ble n 1 = false := by rw [← Bool.not_eq_true, Nat.ble_eq]; exact h1
      rw [e, if_neg h1]
      by_cases h2 : n % 2 = 0
      · have e : Nat.beq (n % 2) 0 = true := by rw [h2]; rfl
        rw [e, if_pos h2]
      · have e : Nat.beq (n % 2) 0 = false := by rw [show n % 2 = 1 by omega]; rfl
        rw [e, if_neg h2]
noncomputable def Tr.setK {β : Type} (x : V) (p : Pos) (t : Tr) (k : Tr → β) : β := k (t.set x p)
theorem Tr.setK_eq {β : Type} (x : V) (p : Pos) (t : Tr) (k : Tr → β) : t.setK x p k = k (t.set x p) := rfl
noncomputable def Hp.fo' {β : Type} (k : Hp → β) (t : Hp) : β := Hp.rec (motive := fun _ => β) (k .lf) (fun l v r _ _ => k (.nd l v r)) t
noncomputable def Hp.putK {β : Type} (x : Option Blk) (p : Pos) (t : Hp) (k : Hp → β) : β := Hp.fo' k (t.put x p)
theorem Hp.putK_eq {β : Type} (x : Option Blk) (p : Pos) (t : Hp) (k : Hp → β) : t.putK x p k = k (t.put x p) := by
  unfold Hp.putK Hp.fo'
  cases t.put x p <;> rfl

theorem Hp.put_get (x : Option Blk) (p : Pos) (h : Hp) : (h.put x p).get = hput h.get p x := by
  funext q; exact Hp.get_put x p q h
theorem Hp.put_get' (x : Option Blk) (p : Pos) (h : Hp) : (fun q => (h.put x p).get q) = hput (fun q => h.get q) p x := Hp.put_get x p h

/-! A new block. -/
noncomputable def newB (b : Blk) (k : Pos → V) (h : Hp) (n : Nat) : Res :=
  Bool.rec .no (posK 63 n fun p => fN (Nat.succ n) fun n' => h.putK (some b) p fun h' => .ok (k p) h' n') (Nat.ble 1 n)

theorem newB_soundF {b : Blk} {k : Pos → V} {h h' : Hp} {n n' lim : Nat} {v : V} (e : newB b k h n = .ok v h' n') {g : Sig} {w : World} (m : Mem g h.get w) (hd : Dom h.get n) (hf : Fresh g n n') (hn : n' < 9223372036854775808)
    (cur : Array Value) (hs : b.size ≤ cur.size) (hm : b.size ≤ maxSize) (hc : ∀ j, j < b.size → ∃ u, cur[j]? = some u ∧ u.oneCell' = true ∧ (b.cell j).rel g u) (fz : Nat × Nat) (hz : NoFz cur.size fz) :
    ∃ p g', g.le g' ∧ g' p = some (w.heap.size, 0, cur.size) ∧ v = k p ∧ Mem g' h'.get (w.alloc (.cells cur b.el fz)) ∧ Fr lim n g h.get w n' g' h'.get (w.alloc (.cells cur b.el fz)) := by
  unfold newB at e
  cases hb : Nat.ble 1 n
  · rw [hb] at e; cases e
  · rw [hb] at e
    have e : posK 63 n (fun p => fN (Nat.succ n) fun n' => h.putK (some b) p fun h' => Res.ok (k p) h' n') = .ok v h' n' := e
    rw [posK_eq, fN_eq, Hp.putK_eq] at e
    cases e
    rw [Nat.ble_eq] at hb
    have hp : (posF 63 n).num = n := num_posF 63 n hb (by omega)
    have h0 : g (posF 63 n) = none := hf _ (by omega) (by omega)
    refine ⟨posF 63 n, gput g (posF 63 n) (w.heap.size, 0, cur.size), gput_le _ h0, by simp [gput], rfl, ?_, ?_⟩
    · rw [Hp.put_get]; exact mem_allocF m h0 b cur hs hm hc fz hz
    · rw [Hp.put_get]; exact fr_alloc hd hp b cur fz

theorem newB_sound {b : Blk} {k : Pos → V} {h h' : Hp} {n n' lim : Nat} {v : V} (e : newB b k h n = .ok v h' n') {g : Sig} {w : World} (m : Mem g h.get w) (hd : Dom h.get n) (hf : Fresh g n n') (hn : n' < 9223372036854775808)
    (cur : Array Value) (hs : b.size ≤ cur.size) (hm : b.size ≤ maxSize) (hc : ∀ j, j < b.size → ∃ u, cur[j]? = some u ∧ u.oneCell' = true ∧ (b.cell j).rel g u) :
    ∃ p g', g.le g' ∧ g' p = some (w.heap.size, 0, cur.size) ∧ v = k p ∧ Mem g' h'.get (w.alloc (.cells cur b.el)) ∧ Fr lim n g h.get w n' g' h'.get (w.alloc (.cells cur b.el)) := newB_soundF e m hd hf hn cur hs hm hc (0, 0) (noFz0 _)

/-- A block whose cells are those of a list. -/
theorem cell_list {g : Sig} {l : L} {vs : List Value} (hr : l.rel g vs) (hc : l.allC = true) (el : TypeId) : ∀ j, j < l.length → ∃ u, (⟨vs⟩ : Array Value)[j]? = some u ∧ u.oneCell' = true ∧ ((⟨el, l.length, l.length, l, .lf⟩ : Blk).cell j).rel g u := by
  intro j hj
  have hl := L.rel_length hr
  have h1 := L.rel_get j hr
  have e : ((⟨el, l.length, l.length, l, .lf⟩ : Blk).cell j) = l.get j := by
    rw [cell_lf]; show orZ .bad (nthL (j % l.length) l) = _
    rw [nthL_eq, Nat.mod_eq_of_lt hj]; rfl
  have hC : ∀ {l : L} {j : Nat}, l.allC = true → j < l.length → (l.get j).isC = true := by
    intro l
    induction l using L.rec (motive_1 := fun _ => True) with
    | nil => intro j _ hj; simp [L.length] at hj
    | cons v l _ ih =>
      intro j hc hj
      simp [L.allC] at hc
      cases j with
      | zero => exact hc.1
      | succ j => exact ih hc.2 (by simp [L.length] at hj; omega)
    | _ => trivial
  refine ⟨vs.getD j undef, ?_, (V.isC_one (hC hc hj) h1).1, by rw [e]; exact h1⟩
  simp [List.getD, List.getElem?_eq_getElem (show j < vs.length by omega)]

section
variable {P : Program} {o : Oper}

noncomputable def evAlloc (el : TypeId) (z : L) (zl : Nat) (_ : Tr) (_ : Nat) (h : Hp) (n : Nat) : Res := newB ⟨el, zl, zl, z, .lf⟩ (fun p => .p p 0) h n
theorem ok_alloc {el : TypeId} {i : TypeInfo} {zv : Value} {z : L} {zl : Nat} (hi : P.info? el = some i) (hz : i.zero = some zv) (hzl : ofVals zv.cells.toList = some z) (hC : z.allC = true) (hl : zl = z.length) (hm : zl ≤ maxSize) (ho : o.op = .alloc el) :
    OpOK P o (evAlloc el z zl) := by
  subst hl
  intro e lim h n v h' n' hr ρ g w he m hd hf hn
  have zr : z.rel g zv.cells.toList := ofVals_rel g _ hzl
  have hsz : zv.cells.size = z.length := by have := L.rel_length zr; simpa using this
  obtain ⟨p, g', hle, hg', rfl, m', f'⟩ := newB_sound (lim := lim) hr m hd hf hn zv.cells (by show z.length ≤ _; omega) hm (fun j hj => by
    obtain ⟨u, h1, h2, h3⟩ := cell_list zr hC el j hj
    exact ⟨u, by simpa using h1, h2, h3⟩)
  refine ⟨.value (.pointer (some ⟨w.heap.size, 0, none⟩)), g', _, ?_, ⟨_, _, _, hg', rfl⟩, m', f'⟩
  simp [execOp, ho, Instr.alloc, zeroValue, typeInfo, hi, hz, newVar, newRow]

/-! The same, quicker. -/
noncomputable def lenW (l : L) : Nat := L.rec (motive_1 := fun _ => Unit) (motive_2 := fun _ => Nat) () (fun _ => ()) (fun _ _ => ()) (fun _ => ()) (fun _ _ => ()) () (fun _ _ _ _ _ => ()) () (fun _ _ => ()) (fun _ _ => ()) (fun _ _ _ _ _ => ()) () (fun _ => ()) (fun _ _ _ => ()) () (fun _ => ()) () (fun _ => ()) (fun _ _ _ _ => ()) 0 (fun _ _ _ ih => Nat.succ ih) l
theorem lenW_eq : ∀ l : L, lenW l = l.length
  | .nil => rfl
  | .cons v l => by show lenW l + 1 = _; rw [lenW_eq l]; rfl
noncomputable def isW (v : V) : Bool := V.rec (motive_1 := fun _ => Bool) (motive_2 := fun _ => Unit) false (fun _ => true) (fun _ _ => true) (fun _ => true) (fun _ _ => true) true (fun _ _ _ _ _ => true) true (fun _ _ => false) (fun _ _ => false) (fun _ _ _ _ _ => true) true (fun _ => true) (fun _ _ _ => true) true (fun _ => true) true (fun _ => true) (fun _ _ _ _ => true) () (fun _ _ _ _ => ()) v
theorem isW_eq (v : V) : isW v = v.isC := by cases v <;> rfl
noncomputable def allW (l : L) : Bool := L.rec (motive_1 := fun _ => Unit) (motive_2 := fun _ => Bool) () (fun _ => ()) (fun _ _ => ()) (fun _ => ()) (fun _ _ => ()) () (fun _ _ _ _ _ => ()) () (fun _ _ => ()) (fun _ _ => ()) (fun _ _ _ _ _ => ()) () (fun _ => ()) (fun _ _ _ => ()) () (fun _ => ()) () (fun _ => ()) (fun _ _ _ _ => ()) true (fun v _ _ ih => and (isW v) ih) l
theorem allW_eq : ∀ l : L, allW l = l.allC
  | .nil => rfl
  | .cons v l => by show and (isW v) (allW l) = _; rw [allW_eq l, isW_eq]; rfl
/-- A block's cells, all at once where they are listed. -/
noncomputable def Blk.getW (b : Blk) (o n : Nat) : L := Tb.rec (motive := fun _ => L) (Bool.rec (b.getL o n) b.z (and (Nat.beq o 0) (and (Nat.beq n b.pr) (Nat.beq (lenW b.z) n)))) (fun _ _ _ _ _ => b.getL o n) b.m
theorem L_extF : ∀ {l m : L}, l.length = m.length → (∀ j, j < l.length → l.get j = m.get j) → l = m
  | .nil, .nil, _, _ => rfl
  | .nil, .cons .., h, _ => by simp [L.length] at h
  | .cons .., .nil, h, _ => by simp [L.length] at h
  | .cons v l, .cons u m, h, hg => by
    have h0 := hg 0 (by simp [L.length])
    have hv : v = u := h0
    subst hv
    rw [L_extF (l := l) (m := m) (by simpa [L.length] using h) (fun j hj => by
      have := hg (j + 1) (by simp [L.length]; omega)
      exact this)]
theorem getL_lengthF (b : Blk) : ∀ (n k : Nat), (b.getL k n).length = n
  | 0, _ => rfl
  | n + 1, k => by show (b.getL (k + 1) n).length + 1 = _; rw [getL_lengthF b n]
theorem getL_getF (b : Blk) : ∀ (n k j : Nat), j < n → (b.getL k n).get j = b.cell (k + j)
  | 0, _, _, h => by omega
  | n + 1, k, 0, _ => rfl
  | n + 1, k, j + 1, h => by
    show (b.getL (k + 1) n).get j = _
    rw [getL_getF b n (k + 1) j (by omega)]
    congr 1; omega
theorem getW_eq (b : Blk) (o n : Nat) : b.getW o n = b.getL o n := by
  obtain ⟨el, size, pr, z, m⟩ := b
  cases m with
  | nd => rfl
  | lf =>
    show (Bool.rec (Blk.getL ⟨el, size, pr, z, .lf⟩ o n) z (and (Nat.beq o 0) (and (Nat.beq n pr) (Nat.beq (lenW z) n))) : L) = _
    cases hc : and (Nat.beq o 0) (and (Nat.beq n pr) (Nat.beq (lenW z) n)) with
    | false => rfl
    | true =>
      simp only [Bool.and_eq_true, Nat.beq_eq, lenW_eq] at hc
      obtain ⟨rfl, rfl, h3⟩ := hc
      show z = _
      refine L_extF (by rw [getL_lengthF]; exact h3) fun j hj => ?_
      have hj' : j < n := by omega
      rw [getL_getF _ _ _ _ hj', Nat.zero_add]
      rw [cell_lf]; show _ = orZ .bad (nthL (j % n) z)
      rw [Nat.mod_eq_of_lt hj', nthL_eq]
      rfl
/-- A block written; all at once where it is written whole. -/
noncomputable def Blk.setW (b : Blk) (n o : Nat) (l : L) : Blk := Bool.rec (b.setL o l) ⟨b.el, n, n, l, .lf⟩ (and (Nat.ble 5 n) (and (Nat.beq o 0) (Nat.beq b.size n)))
theorem setW_small {b : Blk} {n o : Nat} {l : L} (h : n < 5) : b.setW n o l = b.setL o l := by
  unfold Blk.setW
  cases hc : Nat.ble 5 n with
  | false => rfl
  | true => rw [Nat.ble_eq] at hc; omega
theorem setW_all {b : Blk} {n : Nat} {l : L} (h : 5 ≤ n) (hs : b.size = n) : b.setW n 0 l = ⟨b.el, n, n, l, .lf⟩ := by
  unfold Blk.setW
  rw [show and (Nat.ble 5 n) (and (Nat.beq 0 0) (Nat.beq b.size n)) = true by simp only [Bool.and_eq_true, Nat.ble_eq, Nat.beq_eq]; exact ⟨h, trivial, hs⟩]
theorem setL_sameF (b : Blk) : ∀ (l : L) (k : Nat), (b.setL k l).el = b.el ∧ (b.setL k l).size = b.size
  | .nil, _ => ⟨rfl, rfl⟩
  | .cons x l, k => setL_sameF (b.setC k x) l (k + 1)
theorem cell_setL_outF (b : Blk) : ∀ (l : L) (k j : Nat), k + l.length ≤ maxSize → j ≤ maxSize → (j < k ∨ k + l.length ≤ j) → (b.setL k l).cell j = b.cell j
  | .nil, k, j, _, _, _ => rfl
  | .cons x l, k, j, hk, hj, h => by
    have e : (L.cons x l).length = l.length + 1 := rfl
    rw [e] at hk h
    show ((b.setC k x).setL (k + 1) l).cell j = _
    rw [cell_setL_outF _ l (k + 1) j (by omega) hj (by omega), cell_setC _ _ _ _ (by omega) hj, if_neg (by omega)]
theorem cell_setL_inF (b : Blk) : ∀ (l : L) (k j : Nat), k + l.length ≤ maxSize → j ≤ maxSize → l.allC = true → k ≤ j → j < k + l.length → (b.setL k l).cell j = l.get (j - k)
  | .nil, k, j, _, _, _, h1, h2 => by simp [L.length] at h2; omega
  | .cons x l, k, j, hk, hj, hc, h1, h2 => by
    have e : (L.cons x l).length = l.length + 1 := rfl
    rw [e] at hk h2
    have hcs : x.isC = true ∧ l.allC = true := by
      have : (x.isC && l.allC) = true := hc
      rwa [Bool.and_eq_true] at this
    show ((b.setC k x).setL (k + 1) l).cell j = _
    by_cases hjk : j = k
    · subst hjk
      rw [cell_setL_outF _ l (j + 1) j (by omega) hj (by omega), cell_setC _ _ _ _ (by omega) hj, if_pos rfl, Nat.sub_self]
      show orZ x _ = x
      cases x <;> first | rfl | (simp [V.isC] at hcs)
    · rw [cell_setL_inF _ l (k + 1) j (by omega) hj hcs.2 (by omega) (by omega), show j - k = (j - (k + 1)) + 1 by omega]; rfl
/-- A block of the same cells is as good. -/
theorem mem_same {g : Sig} {h : Hm} {w : World} {p : Pos} {B B' : Blk} (m : Mem g (hput h p (some B)) w) (hs : B'.size = B.size) (h0 : 0 < B.size) (he : B'.el = B.el) (hc : ∀ k, k < B.size → B'.cell k = B.cell k) : Mem g (hput h p (some B')) w where
  inj := by
    intro q q' bq bq' r b1 t1 b2 t2 hq hq' e e'
    have : ∀ {q : Pos} {c : Blk}, hput h p (some B') q = some c → ∃ c', hput h p (some B) q = some c' := by
      intro q c e
      unfold hput at e ⊢
      split at e
      · rename_i e'; rw [if_pos e']; exact ⟨_, rfl⟩
      · rename_i e'; rw [if_neg e']; exact ⟨c, e⟩
    obtain ⟨c, hc⟩ := this hq
    obtain ⟨c', hc'⟩ := this hq'
    exact m.inj q q' c c' r b1 t1 b2 t2 hc hc' e e'
  blk := by
    intro q c e
    by_cases hq : q = p
    · have e1 : hput h p (some B) q = some B := by unfold hput; rw [if_pos hq]
      have e2 : c = B' := by unfold hput at e; rw [if_pos hq] at e; cases e; rfl
      subst e2
      obtain ⟨r, base, tot, cur, c1, c2, c3, c4, c5, c6⟩ := m.blk q B e1
      refine ⟨r, base, tot, cur, c1, .inl ?_, c3, by rw [hs]; exact c4, by rw [hs]; exact c5, fun k hk => ?_⟩
      · rcases c2 with c2 | ⟨_, _, c2, _⟩
        · rw [he]; exact c2
        · omega
      · rw [hs] at hk
        obtain ⟨v, d1, d2, d3⟩ := c6 k hk
        exact ⟨v, d1, d2, by rw [hc k hk]; exact d3⟩
    · have e1 : hput h p (some B) q = some c := by
        unfold hput at e ⊢
        rw [if_neg hq] at e ⊢
        exact e
      exact m.blk q c e1
theorem fr_same {lim n n' : Nat} {g g' : Sig} {h0 h : Hm} {w w' : World} {p : Pos} {B B' : Blk} (f : Fr lim n g h0 w n' g' (hput h p (some B)) w') : Fr lim n g h0 w n' g' (hput h p (some B')) w' :=
  ⟨f.le, f.os, f.tape, f.output, f.size, f.keep, f.sig, fun q c e => by
    by_cases hq : q = p
    · exact f.dom q B (by unfold hput; rw [if_pos hq])
    · refine f.dom q c ?_
      unfold hput at e ⊢
      rw [if_neg hq] at e ⊢
      exact e, f.new⟩

noncomputable def evBox (el : TypeId) (x : X) (e : Tr) (_ : Nat) (h : Hp) (n : Nat) : Res :=
  let l := (evX x e).toL
  Bool.rec .no (fN (lenW l) fun k => Bool.rec .no (newB ⟨el, k, k, l, .lf⟩ (fun p => .p p 0) h n) (Nat.ble k 1099511627776)) (allW l)
theorem ok_box {el : TypeId} {ox : Operand} {x : X} (hx : compX ox = some x) (ho : o.op = .box el ox) : OpOK P o (evBox el x) := by
  intro e lim h n v h' n' hr ρ g w he m hd hf hn
  unfold evBox at hr
  simp only [lenW_eq, allW_eq] at hr
  cases hc : (evX x e).toL.allC
  · rw [hc] at hr; cases hr
  · rw [hc] at hr
    have hr : fN (evX x e).toL.length (fun k => (Bool.rec .no (newB ⟨el, k, k, (evX x e).toL, .lf⟩ (fun p => .p p 0) h n) (Nat.ble k 1099511627776) : Res)) = .ok v h' n' := hr
    rw [fN_eq] at hr
    cases hb : Nat.ble (evX x e).toL.length 1099511627776
    · rw [hb] at hr; cases hr
    · rw [hb] at hr
      rw [Nat.ble_eq] at hb
      have rx := toL_rel (he ox x hx) hc
      have hlen := L.rel_length rx
      have hr : newB ⟨el, (evX x e).toL.length, (evX x e).toL.length, (evX x e).toL, .lf⟩ (fun p => .p p 0) h n = .ok v h' n' := hr
      obtain ⟨p, g', hle, hg', rfl, m', f'⟩ := newB_sound (lim := lim) hr m hd hf hn (ρ ox).cells (by show (evX x e).toL.length ≤ _; rw [← hlen]; simp) hb (fun j hj => by
        obtain ⟨u, h1, h2, h3⟩ := cell_list rx hc el j hj
        exact ⟨u, by simpa using h1, h2, h3⟩)
      refine ⟨.value (.pointer (some ⟨w.heap.size, 0, none⟩)), g', _, ?_, ⟨_, _, _, hg', rfl⟩, m', f'⟩
      simp [execOp, ho, Instr.box, newVar, newRow]

/-! Reading. -/
noncomputable def evLd (n : Nat) (agg : Bool) (x : X) (e : Tr) (_ : Nat) (h : Hp) (c : Nat) : Res :=
  onP (evX x e) (fun a o => Option.rec .no (fun b => Bool.rec .no (Bool.rec (.ok (b.cell o) h c) (.ok (.ag (b.getW o n)) h c) agg) (Nat.ble (Nat.add o n) b.size)) (h.get a)) .no
theorem ok_ld {t : TypeId} {i : TypeInfo} {agg : Bool} {ox : Operand} {x : X} (hx : compX ox = some x) (hi : P.info? t = some i) (ha : P_isAgg P t = some agg) (h1 : agg = false → i.size = 1) (ho : o.op = .load t ox) :
    OpOK P o (evLd i.size agg x) := by
  intro e lim h n v h' n' hr ρ g w he m hd hf hn
  unfold evLd at hr
  simp only [getW_eq] at hr
  have rx := he ox x hx
  rcases onP_or (evX x e) (fun a o => (Option.rec .no (fun b => Bool.rec .no (Bool.rec (.ok (b.cell o) h n) (.ok (.ag (b.getL o i.size)) h n) agg) (Nat.ble (Nat.add o i.size) b.size)) (h.get a) : Res)) .no with ⟨a, off, h1', h2⟩ | h2
  · rw [h2] at hr
    rw [h1', V.rel] at rx
    obtain ⟨r, base, tot, hg, hv⟩ := rx
    cases hh : h.get a with
    | none => rw [hh] at hr; cases hr
    | some b =>
      rw [hh] at hr
      have hr : (Bool.rec .no (Bool.rec (.ok (b.cell off) h n) (.ok (.ag (b.getL off i.size)) h n) agg) (Nat.ble (off + i.size) b.size) : Res) = .ok v h' n' := hr
      cases hb : Nat.ble (off + i.size) b.size
      · rw [hb] at hr; cases hr
      · rw [hb] at hr
        rw [Nat.ble_eq] at hb
        cases agg
        · have hr : Res.ok (b.cell off) h n = .ok v h' n' := hr
          cases hr
          obtain ⟨u, c1, c2, c3, c4⟩ := mem_cell m hh hg (k := off) (by have := h1 rfl; omega)
          refine ⟨.value u, g, w, ?_, c3, m, Fr.refl hd⟩
          simp [execOp, ho, hv, Instr.loadAt, Instr.sureAddr, loadVar, run_isAgg ha, c1]
        · have hr : Res.ok (.ag (b.getL off i.size)) h n = .ok v h' n' := hr
          cases hr
          obtain ⟨vs, g1, g2, g3, g4⟩ := getL_rel m hh hg i.size off (by omega)
          refine ⟨.value (.agg ⟨vs⟩), g, w, ?_, ⟨vs, rfl, g2⟩, m, Fr.refl hd⟩
          have hl := run_loadCells_list (P := P) w ⟨r, base + off, none⟩ vs g4
          rw [g1] at hl
          simp [execOp, ho, hv, Instr.loadAt, Instr.sureAddr, loadVar, run_isAgg ha, sizeOf, typeInfo, hi, hl]
  · rw [h2] at hr; cases hr

/-! Writing. -/
noncomputable def Blk.setLK {β : Type} (b : Blk) (k : Nat) (l : L) (c : Blk → β) : β := c (b.setL k l)
noncomputable def evSt (n : Nat) (x y : X) (e : Tr) (lim : Nat) (h : Hp) (c : Nat) : Res :=
  onP (evX x e) (fun a o => Option.rec .no (fun b =>
    let l := (evX y e).toL
    Bool.rec .no (h.putK (some (b.setW n o l)) a fun h' => .ok (.tu .nil) h' c) (and (Nat.ble (Nat.add o n) b.size) (and (Nat.beq (lenW l) n) (and (allW l) (Nat.ble lim a.num))))) (h.get a)) .no
theorem ok_st {t : TypeId} {i : TypeInfo} {ox oy : Operand} {x y : X} (hx : compX ox = some x) (hy : compX oy = some y) (hi : P.info? t = some i) (ho : o.op = .store t ox oy) : OpOK P o (evSt i.size x y) := by
  intro e lim h n v h' n' hr ρ g w he m hd hf hn
  unfold evSt at hr
  simp only [lenW_eq, allW_eq] at hr
  have rx := he ox x hx
  rcases onP_or (evX x e) (fun a o => (Option.rec .no (fun b =>
    Bool.rec .no (h.putK (some (b.setW i.size o (evX y e).toL)) a fun h' => .ok (.tu .nil) h' n) (and (Nat.ble (Nat.add o i.size) b.size) (and (Nat.beq (evX y e).toL.length i.size) (and (evX y e).toL.allC (Nat.ble lim a.num))))) (h.get a) : Res)) .no with ⟨a, off, h1', h2⟩ | h2
  · try dsimp only at hr
    rw [h2] at hr
    rw [h1', V.rel] at rx
    obtain ⟨r, base, tot, hg, hv⟩ := rx
    cases hh : h.get a with
    | none => rw [hh] at hr; cases hr
    | some b =>
      rw [hh] at hr
      have hr : (Bool.rec .no (h.putK (some (b.setW i.size off (evX y e).toL)) a fun h' => .ok (.tu .nil) h' n) (and (Nat.ble (off + i.size) b.size) (and (Nat.beq (evX y e).toL.length i.size) (and (evX y e).toL.allC (Nat.ble lim a.num)))) : Res) = .ok v h' n' := hr
      cases hb : and (Nat.ble (off + i.size) b.size) (and (Nat.beq (evX y e).toL.length i.size) (and (evX y e).toL.allC (Nat.ble lim a.num)))
      · rw [hb] at hr; cases hr
      · rw [hb] at hr
        simp only [Bool.and_eq_true, Nat.ble_eq, Nat.beq_eq] at hb
        obtain ⟨b1, b2, b3, b4⟩ := hb
        have hr : h.putK (some (b.setW i.size off (evX y e).toL)) a (fun h' => Res.ok (.tu .nil) h' n) = .ok v h' n' := hr
        rw [Hp.putK_eq] at hr
        cases hr
        have ry := toL_rel (he oy y hy) b3
        have hlen := L.rel_length ry
        obtain ⟨w', s1, s2, s3⟩ := stores P hg b4 (evX y e).toL (ρ oy).cells.toList off b h.get w 0 m hd hh (by omega) b3 ry
        simp only [Nat.add_zero] at s2 s3
        have s23 : Mem g (hput h.get a (some (b.setW i.size off (evX y e).toL))) w' ∧ Fr lim n g h.get w n g (hput h.get a (some (b.setW i.size off (evX y e).toL))) w' := by
          cases hW : and (Nat.ble 5 i.size) (and (Nat.beq off 0) (Nat.beq b.size i.size)) with
          | false =>
            have e1 : b.setW i.size off (evX y e).toL = b.setL off (evX y e).toL := by unfold Blk.setW; rw [hW]
            rw [e1]
            exact ⟨s2, s3⟩
          | true =>
            have e1 : b.setW i.size off (evX y e).toL = ⟨b.el, i.size, i.size, (evX y e).toL, .lf⟩ := by unfold Blk.setW; rw [hW]
            simp only [Bool.and_eq_true, Nat.ble_eq, Nat.beq_eq] at hW
            obtain ⟨w1, rfl, w3⟩ := hW
            rw [e1]
            obtain ⟨_, _, _, _, _, _, _, _, hmx, _⟩ := m.blk a b hh
            have q1 := (setL_sameF b (evX y e).toL 0).2
            refine ⟨mem_same s2 (by rw [q1]; exact w3.symm) (by rw [q1]; omega) (setL_sameF b (evX y e).toL 0).1.symm fun k hk => ?_, fr_same s3⟩
            rw [q1] at hk
            rw [cell_setL_inF _ _ _ _ (by omega) (by omega) b3 (Nat.zero_le _) (by omega)]
            rw [cell_lf]; show orZ .bad (nthL (k % i.size) (evX y e).toL) = _
            rw [Nat.mod_eq_of_lt (by omega), nthL_eq]
            rfl
        refine ⟨.skip, g, w', ?_, ⟨[], rfl, rfl⟩, by rw [Hp.put_get]; exact s23.1, by rw [Hp.put_get]; exact s23.2⟩
        have hsz : (ρ oy).cells.size = i.size := by rw [← b2, ← hlen]; simp
        simp only [execOp, ho, hv, Instr.storeAt, Instr.sureAddr, storeVar, Sem.run_bind, Sem.run_pure, Result.andThen_ok, sizeOf, typeInfo, run_program, hi, hsz, ne_eq, not_true_eq_false, if_false, s1]
  · rw [h2] at hr; cases hr
end
end Go.Proofs.Ythgaekbcmhbbgaa.Ev
/- The evaluator's operations on slices, and that the model answers so. -/
namespace Go.Proofs.Ythgaekbcmhbbgaa.Ev
set_option linter.unusedVariables false
open Go

section
variable {P : Program} {o : Oper}

/-! A slice literal. -/
noncomputable def evBsl (el esz len : Nat) (z : L) (ps : PL) (e : Tr) (_ : Nat) (h : Hp) (n : Nat) : Res :=
  Option.rec .no (fun l => Bool.rec .no (newB ⟨el, len * esz, len * esz, l, .lf⟩ (fun p => .sl p 0 esz len (some len)) h n) (and l.allC (Nat.beq l.length (len * esz)))) (evPL e ps z)
theorem ok_bsl {t el : TypeId} {len : Nat} {parts : Array (Nat × Operand)} {ps : PL} {i : TypeInfo} {zv : Value} {z : L} (ht : P.underlying t = some (.slice el)) (hi : P.info? el = some i) (hz : i.zero = some zv)
    (h0 : 0 < i.size) (hzs : zv.cells.size = i.size) (hlen : len * i.size ≤ 16777216)
    (hzl : ofVals ((Array.range (len * i.size)).map (zv.cells[· % zv.cells.size]!)).toList = some z)
    (hp : compPL (fun j => some (j * i.size, i.size)) parts.toList = some ps) (ho : o.op = .buildSlice t len parts) : OpOK P o (evBsl el i.size len z ps) := by
  intro e lim h n v h' n' hr ρ g w he m hd hf hn
  unfold evBsl at hr
  cases hl : evPL e ps z with
  | none => rw [hl] at hr; cases hr
  | some l =>
    rw [hl] at hr
    have hr : (Bool.rec .no (newB ⟨el, len * i.size, len * i.size, l, .lf⟩ (fun p => .sl p 0 i.size len (some len)) h n) (and l.allC (Nat.beq l.length (len * i.size))) : Res) = .ok v h' n' := hr
    cases hb : and l.allC (Nat.beq l.length (len * i.size))
    · rw [hb] at hr; cases hr
    · rw [hb] at hr
      simp only [Bool.and_eq_true, Nat.beq_eq] at hb
      obtain ⟨hc, hll⟩ := hb
      have zr := ofVals_rel g _ hzl
      obtain ⟨zs', hfl, hrel⟩ := evPL_rel he parts.toList hp hl zr
      have hlz := L.rel_length hrel
      rw [← hll] at hr
      obtain ⟨p, g', hle, hg', rfl, m', f'⟩ := newB_sound (lim := lim) hr m hd hf hn ⟨zs'⟩ (by show l.length ≤ _; simp [hlz]) (by show l.length ≤ _; unfold maxSize; omega) (fun j hj => cell_list hrel hc el j hj)
      have hll2 : len ≤ len * i.size := Nat.le_mul_of_pos_right _ h0
      refine ⟨.value (.slice (some ⟨w.heap.size, 0, none⟩) len len), g', _, ?_, ⟨_, _, _, len, 0, hg', rfl, h0, Nat.le_refl _, by unfold maxLen; omega, fun _ => by simp, by simp [hlz, hll], rfl⟩, m', f'⟩
      have hflt : Instr.fill (fun j => some (j * i.size, i.size)) ((Array.range (len * i.size)).map (zv.cells[· % zv.cells.size]!)) (parts.map fun (j, x) => (j, ρ x)).toList = some ⟨zs'⟩ := by
        have e1 : (parts.map fun (j, x) => (j, ρ x)).toList = parts.toList.map fun (j, x) => (j, ρ x) := by simp
        rw [e1]; exact hfl
      have hne : len * i.size = 0 → Array.map (fun x => zv.cells[x % zv.cells.size]!) (Array.range (len * i.size)) = #[] := by intro e; rw [e]; simp
      have h24 : ¬ (len * i.size > 2 ^ 24) := by omega
      by_cases hzero : len * i.size = 0
      · simp only [execOp, ho, Instr.buildSlice, Sem.run_bind, Sem.run_pure, run_underlying ht, sizeOf, typeInfo, run_program, hi, Result.andThen_ok, h24, if_false]
        rw [if_pos hzero]
        simp only [Sem.run_bind, Sem.run_pure, Result.andThen_ok]
        have e1 : (Array.map (fun x => (#[] : Array Value)[x % (#[] : Array Value).size]!) (Array.range (len * i.size))) = Array.map (fun x => zv.cells[x % zv.cells.size]!) (Array.range (len * i.size)) := by rw [hne hzero, hzero]; simp
        rw [e1, hflt]
        simp [newRow]
      · simp only [execOp, ho, Instr.buildSlice, Sem.run_bind, Sem.run_pure, run_underlying ht, sizeOf, typeInfo, run_program, hi, Result.andThen_ok, h24, if_false]
        rw [if_neg hzero]
        simp only [Sem.run_bind, zeroValue, typeInfo, run_program, hi, hz, Sem.run_pure, Result.andThen_ok]
        rw [hflt]
        rfl

/-! A slice made. -/
noncomputable def evMks (el esz by_ zl : Nat) (z : L) (xl xc : X) (e : Tr) (_ : Nat) (h : Hp) (n : Nat) : Res :=
  onI (evX xl e) (fun a => onI (evX xc e) (fun b => Bool.rec .no (fN (Nat.mul b esz) fun s => newB ⟨el, s, zl, z, .lf⟩ (fun p => .sl p 0 esz a (some b)) h n) (and (Nat.ble a b) (and (Nat.ble (Nat.mul b esz) 1099511627776) (Nat.ble (Nat.mul by_ b) 281474976710656)))) .no) .no
theorem ok_mks {t el : TypeId} {ol oc : Operand} {xl xc : X} {i : TypeInfo} {zv : Value} {z : L} {zl : Nat} (ht : P.underlying t = some (.slice el)) (hi : P.info? el = some i) (hz : i.zero = some zv)
    (h0 : 0 < i.size) (hzl : ofVals zv.cells.toList = some z) (hC : z.allC = true) (hl : zl = z.length) (hsz : zl = i.size) (hxl : compX ol = some xl) (hxc : compX oc = some xc) (ho : o.op = .makeSlice t ol oc) :
    OpOK P o (evMks el i.size i.bytes zl z xl xc) := by
  subst hl
  intro e lim h n v h' n' hr ρ g w he m hd hf hn
  have rl := he ol xl hxl
  have rc := he oc xc hxc
  unfold evMks at hr
  rcases onI_or rl (fun a => onI (evX xc e) (fun b => (Bool.rec .no (fN (Nat.mul b i.size) fun s => newB ⟨el, s, z.length, z, .lf⟩ (fun p => .sl p 0 i.size a (some b)) h n) (and (Nat.ble a b) (and (Nat.ble (Nat.mul b i.size) 1099511627776) (Nat.ble (Nat.mul i.bytes b) 281474976710656))) : Res)) .no) .no with ⟨a, ka, h1, h2⟩ | h2
  · rw [h2] at hr
    rcases onI_or rc (fun b => (Bool.rec .no (fN (Nat.mul b i.size) fun s => newB ⟨el, s, z.length, z, .lf⟩ (fun p => .sl p 0 i.size a (some b)) h n) (and (Nat.ble a b) (and (Nat.ble (Nat.mul b i.size) 1099511627776) (Nat.ble (Nat.mul i.bytes b) 281474976710656))) : Res)) .no with ⟨b, kb, h3, h4⟩ | h4
    · rw [h4] at hr
      cases hb : and (Nat.ble a b) (and (Nat.ble (Nat.mul b i.size) 1099511627776) (Nat.ble (Nat.mul i.bytes b) 281474976710656))
      · rw [hb] at hr; cases hr
      · rw [hb] at hr
        simp only [Bool.and_eq_true, Nat.ble_eq] at hb
        obtain ⟨b1, b2, b3⟩ := hb
        have hr : fN (Nat.mul b i.size) (fun s => newB ⟨el, s, z.length, z, .lf⟩ (fun p => .sl p 0 i.size a (some b)) h n) = .ok v h' n' := hr
        rw [fN_eq] at hr
        have zr : z.rel g zv.cells.toList := ofVals_rel g _ hzl
        have hzz : zv.cells.size = z.length := by have := L.rel_length zr; simpa using this
        have hbs : b ≤ b * i.size := Nat.le_mul_of_pos_right _ h0
        have b2' : b * i.size ≤ 1099511627776 := b2
        have b3' : i.bytes * b ≤ 281474976710656 := b3
        obtain ⟨p, g', hle, hg', rfl, m', f'⟩ := newB_sound (lim := lim) hr m hd hf hn (madeCells zv.cells (b * i.size)) (by rw [size_madeCells]; exact Nat.le_refl _) b2 (fun j hj => by
          have hj : j < b * i.size := hj
          have hlt : j % z.length < z.length := Nat.mod_lt _ (by omega)
          obtain ⟨u, c1, c2, c3⟩ := cell_list zr hC el (j % z.length) hlt
          refine ⟨u, ?_, c2, ?_⟩
          · simp only [madeCells, Array.getElem?_map, Array.getElem?_range, hj, if_true, Option.map_some, hzz]
            rw [← c1]
            have : (⟨zv.cells.toList⟩ : Array Value) = zv.cells := rfl
            rw [this, Array.getElem?_eq_getElem (by omega), getElem!_pos zv.cells _ (by omega)]
          · have e1 : (⟨el, b * i.size, z.length, z, .lf⟩ : Blk).cell j = (⟨el, z.length, z.length, z, .lf⟩ : Blk).cell (j % z.length) := by
              rw [cell_lf, cell_lf]; show orZ .bad (nthL (j % z.length) z) = orZ .bad (nthL (j % z.length % z.length) z)
              rw [Nat.mod_mod]
            rw [← e1] at c3; exact c3)
        refine ⟨.value (.slice (some ⟨w.heap.size, 0, none⟩) a b), g', _, ?_, ⟨_, _, _, b, 0, hg', rfl, h0, b1, by unfold maxLen; omega, fun _ => by simp, by rw [size_madeCells]; simp, rfl⟩, m', f'⟩
        have hrun := run_make (P := P) w t el i zv ht hi hz ka kb a b (by omega) (by omega) (by rw [← Int.natCast_mul]; omega) (by omega)
        simp only [Int.toNat_natCast] at hrun
        simp only [execOp, ho, h1, h3, Sem.run_bind, hrun, Result.andThen_ok, Sem.run_pure]
    · rw [h4] at hr; cases hr
  · rw [h2] at hr; cases hr

/-! A slice of a slice, or of an array. -/
noncomputable def onO (xo : Option X) (e : Tr) (d : Nat) (k : Nat → V) : V := Option.rec (k d) (fun x => onN (evX x e) k .bad) xo
def compXO : Option Operand → Option (Option X)
  | none => some none
  | some o => (compX o).map some
def natV (k : Nat) : Value := .int .i64 (k : Int)
theorem onO_or {g : Sig} {e : Tr} {ρ : Operand → Value} (he : EnvOK g e ρ) {oo : Option Operand} {xo : Option X} (hx : compXO oo = some xo) (d : Nat) (k : Nat → V) :
    (∃ a, oo.map ρ = (oo.map fun _ => natV a) ∧ (oo = none → a = d) ∧ onO xo e d k = k a) ∨ onO xo e d k = .bad := by
  cases oo with
  | none =>
    simp [compXO] at hx
    subst hx
    exact .inl ⟨d, rfl, fun _ => rfl, rfl⟩
  | some o =>
    simp only [compXO, Option.map_eq_some_iff] at hx
    obtain ⟨x, h1, rfl⟩ := hx
    have rx := he o x h1
    rcases onN_or (evX x e) k .bad with ⟨a, h2, h3⟩ | h3
    · rw [h2, V.rel] at rx
      exact .inl ⟨a, by simp [natV, rx.1], by simp, h3⟩
    · exact .inr h3

theorem run_bounds (w : World) (isSlice : Bool) (len cap : Nat) (ol oh om : Option Operand) (l h m : Nat) (hl : ol = none → l = 0) (hh : oh = none → h = len) (hm : om = none → m = cap)
    (hoh : om.isSome = true → oh.isSome = true) (c1 : l ≤ h) (c2 : h ≤ m) (c3 : m ≤ cap) :
    (Instr.sliceBounds isSlice len cap (ol.map fun _ => natV l) (oh.map fun _ => natV h) (om.map fun _ => natV m)).run P w = .ok (l, h, m) w := by
  have s1 : ∀ (k y : Nat) (c : BoundsCode), k ≤ y → (Instr.sliceBound (natV k) y c).run P w = .ok k w := by
    intro k y c hk
    have := run_sliceBound (P := P) w .i64 k y c (by omega) (by omega)
    simpa [natV] using this
  cases om with
  | none =>
    have := hm rfl
    subst this
    cases oh with
    | none =>
      have := hh rfl
      subst this
      cases ol with
      | none => have := hl rfl; subst this; simp [Instr.sliceBounds]
      | some _ => simp [Instr.sliceBounds, s1 l h _ c1]
    | some _ =>
      cases ol with
      | none => have := hl rfl; subst this; simp [Instr.sliceBounds, s1 h m _ c2]
      | some _ => simp [Instr.sliceBounds, s1 h m _ c2, s1 l h _ c1]
  | some _ =>
    cases oh with
    | none => simp at hoh
    | some _ =>
      cases ol with
      | none => have := hl rfl; subst this; simp [Instr.sliceBounds, s1 m cap _ c3, s1 h m _ c2]
      | some _ => simp [Instr.sliceBounds, s1 m cap _ c3, s1 h m _ c2, s1 l h _ c1]

/-- A slice out of one: of the length, and of the room if that is known. -/
noncomputable def slcV (esz : Nat) (xl xh xm : Option X) (e : Tr) (a : Pos) (off e' len : Nat) (cap : Option Nat) : V :=
  Bool.rec .bad (onO xl e 0 fun l => onO xh e len fun h => Option.rec
    (Option.rec (Bool.rec .bad (fN (Nat.add off (Nat.mul l esz)) fun o' => fN (Nat.sub h l) fun k => .sl a o' esz k none) (and (Nat.ble l h) (Nat.ble h len)))
      (fun x => onN (evX x e) (fun m => Bool.rec .bad (fN (Nat.add off (Nat.mul l esz)) fun o' => fN (Nat.sub h l) fun k => fN (Nat.sub m l) fun c => .sl a o' esz k (some c)) (and (Nat.ble l h) (and (Nat.ble h m) (Nat.ble m len)))) .bad) xm)
    (fun c0 => onO xm e c0 fun m => Bool.rec .bad (fN (Nat.add off (Nat.mul l esz)) fun o' => fN (Nat.sub h l) fun k => fN (Nat.sub m l) fun c => .sl a o' esz k (some c)) (and (Nat.ble l h) (and (Nat.ble h m) (Nat.ble m c0)))) cap) (Nat.beq e' esz)
noncomputable def evSlc (esz : Nat) (x : X) (xl xh xm : Option X) (e : Tr) (_ : Nat) (h : Hp) (n : Nat) : Res :=
  pv (onS (evX x e) (slcV esz xl xh xm e) (onO xl e 0 fun l => onO xh e 0 fun h => onO xm e 0 fun m => Bool.rec .bad .ns (Nat.beq (Nat.add l (Nat.add h m)) 0)) .bad) h n

theorem sl_rel {g : Sig} {a : Pos} {r base tot : Nat} (hg : g a = some (r, base, tot)) {off esz l k c o' : Nat} {cap : Option Nat} (c0 : Nat) (he : 0 < esz) (h1 : k ≤ c) (h2 : c ≤ c0) (h3 : l + c ≤ c0) (hm : c0 ≤ maxLen) (ho : 0 < c0 → o' = base + off)
    (ht : base + off + c0 * esz ≤ tot) (hc : match cap with | some c' => c = c' | none => l + c = c0 ∧ base + off + c0 * esz = tot) :
    (V.sl a (off + l * esz) esz k cap).rel g (.slice ((if l + c = l then some (⟨r, o', none⟩ : Addr) else some ⟨r, o' + l * esz, none⟩)) k c) := by
  have e1 : (l + c) * esz ≤ c0 * esz := Nat.mul_le_mul_right _ h3
  rw [Nat.add_mul] at e1
  rw [V.rel]
  by_cases hz : c = 0
  · subst hz
    refine ⟨r, base, tot, 0, o', hg, by simp, he, h1, Nat.zero_le _, fun h => by omega, by omega, ?_⟩
    cases cap with
    | some c' => exact hc
    | none =>
      obtain ⟨q1, q2⟩ := hc
      show base + (off + l * esz) + 0 * esz = tot
      have : l = c0 := by omega
      subst this
      omega
  · refine ⟨r, base, tot, c, o' + l * esz, hg, by rw [if_neg (by omega)], he, h1, by omega, fun _ => by have := ho (by omega); omega, by omega, ?_⟩
    cases cap with
    | some c' => exact hc
    | none =>
      obtain ⟨q1, q2⟩ := hc
      show base + (off + l * esz) + c * esz = tot
      subst q1
      rw [Nat.add_mul] at q2
      omega

theorem ok_slc {t el : TypeId} {i : TypeInfo} {ox : Operand} {x : X} {ol oh om : Option Operand} {xl xh xm : Option X} (hx : compX ox = some x) (hxl : compXO ol = some xl) (hxh : compXO oh = some xh) (hxm : compXO om = some xm)
    (hoh : om.isSome = true → oh.isSome = true) (ht : P.underlying t = some (.slice el)) (hi : P.info? el = some i) (ho : o.op = .slice t ox ol oh om) : OpOK P o (evSlc i.size x xl xh xm) :=
  ok_pure (val := fun e => onS (evX x e) (slcV i.size xl xh xm e) (onO xl e 0 fun l => onO xh e 0 fun h => onO xm e 0 fun m => Bool.rec .bad .ns (Nat.beq (Nat.add l (Nat.add h m)) 0)) .bad) fun e g ρ w he hne => by
    have rx := he ox x hx
    have key : ∀ (b : Option Addr) (len cap l h m : Nat), ρ ox = .slice b len cap → ol.map ρ = (ol.map fun _ => natV l) → oh.map ρ = (oh.map fun _ => natV h) → om.map ρ = (om.map fun _ => natV m) →
        (ol = none → l = 0) → (oh = none → h = len) → (om = none → m = cap) → l ≤ h → h ≤ m → m ≤ cap →
        (execOp ρ o).run P w = .ok (.value (.slice (if m = l then b else b.map (·.add (l * i.size))) (h - l) (m - l))) w := by
      intro b len cap l h m hv e1 e2 e3 n1 n2 n3 c1 c2 c3
      have hb := run_bounds (P := P) w true len cap ol oh om l h m n1 n2 n3 hoh c1 c2 c3
      simp only [execOp, ho, hv, Instr.sliceAt, Sem.run_bind, run_underlying ht, Result.andThen_ok, Instr.slice, e1, e2, e3, hb, sizeOf, typeInfo, run_program, hi, Sem.run_pure]
    rcases onS_or (evX x e) (slcV i.size xl xh xm e) (onO xl e 0 fun l => onO xh e 0 fun h => onO xm e 0 fun m => Bool.rec .bad .ns (Nat.beq (Nat.add l (Nat.add h m)) 0)) .bad with ⟨a, off, e', len, cap, h1, h2⟩ | ⟨h1, h2⟩ | h2
    · rw [h2] at hne ⊢
      rw [h1, V.rel] at rx
      obtain ⟨r, base, tot, c0, o', hg, hv, hesz, hlc, hcm, ho', hbt, hcap⟩ := rx
      unfold slcV at hne ⊢
      cases hz : Nat.beq e' i.size
      · rw [hz] at hne; exact absurd rfl hne
      · rw [hz] at hne
        rw [Nat.beq_eq] at hz
        subst hz
        dsimp only at hne ⊢
        rcases onO_or he hxl 0 (fun l => onO xh e len fun h => (Option.rec
            (Option.rec (Bool.rec .bad (fN (Nat.add off (Nat.mul l i.size)) fun o' => fN (Nat.sub h l) fun k => .sl a o' i.size k none) (and (Nat.ble l h) (Nat.ble h len)))
              (fun x => onN (evX x e) (fun m => Bool.rec .bad (fN (Nat.add off (Nat.mul l i.size)) fun o' => fN (Nat.sub h l) fun k => fN (Nat.sub m l) fun c => .sl a o' i.size k (some c)) (and (Nat.ble l h) (and (Nat.ble h m) (Nat.ble m len)))) .bad) xm)
            (fun c0 => onO xm e c0 fun m => Bool.rec .bad (fN (Nat.add off (Nat.mul l i.size)) fun o' => fN (Nat.sub h l) fun k => fN (Nat.sub m l) fun c => .sl a o' i.size k (some c)) (and (Nat.ble l h) (and (Nat.ble h m) (Nat.ble m c0)))) cap : V)) with ⟨l, l1, l2, l3⟩ | l3
        · rw [l3] at hne ⊢
          rcases onO_or he hxh len (fun h => (Option.rec
            (Option.rec (Bool.rec .bad (fN (Nat.add off (Nat.mul l i.size)) fun o' => fN (Nat.sub h l) fun k => .sl a o' i.size k none) (and (Nat.ble l h) (Nat.ble h len)))
              (fun x => onN (evX x e) (fun m => Bool.rec .bad (fN (Nat.add off (Nat.mul l i.size)) fun o' => fN (Nat.sub h l) fun k => fN (Nat.sub m l) fun c => .sl a o' i.size k (some c)) (and (Nat.ble l h) (and (Nat.ble h m) (Nat.ble m len)))) .bad) xm)
            (fun c0 => onO xm e c0 fun m => Bool.rec .bad (fN (Nat.add off (Nat.mul l i.size)) fun o' => fN (Nat.sub h l) fun k => fN (Nat.sub m l) fun c => .sl a o' i.size k (some c)) (and (Nat.ble l h) (and (Nat.ble h m) (Nat.ble m c0)))) cap : V)) with ⟨h, h3, h4, h5⟩ | h5
          · rw [h5] at hne ⊢
            cases cap with
            | some c' =>
              have hcap : c0 = c' := hcap
              subst hcap
              have hne : onO xm e c0 (fun m => (Bool.rec .bad (fN (Nat.add off (Nat.mul l i.size)) fun o' => fN (Nat.sub h l) fun k => fN (Nat.sub m l) fun c => .sl a o' i.size k (some c)) (and (Nat.ble l h) (and (Nat.ble h m) (Nat.ble m c0))) : V)) ≠ .bad := hne
              show ∃ u, _ ∧ V.rel g (onO xm e c0 (fun m => (Bool.rec .bad (fN (Nat.add off (Nat.mul l i.size)) fun o' => fN (Nat.sub h l) fun k => fN (Nat.sub m l) fun c => .sl a o' i.size k (some c)) (and (Nat.ble l h) (and (Nat.ble h m) (Nat.ble m c0))) : V))) u
              rcases onO_or he hxm c0 (fun m => (Bool.rec .bad (fN (Nat.add off (Nat.mul l i.size)) fun o' => fN (Nat.sub h l) fun k => fN (Nat.sub m l) fun c => .sl a o' i.size k (some c)) (and (Nat.ble l h) (and (Nat.ble h m) (Nat.ble m c0))) : V)) with ⟨m, m1, m2, m3⟩ | m3
              · rw [m3] at hne ⊢
                cases hb : and (Nat.ble l h) (and (Nat.ble h m) (Nat.ble m c0))
                · rw [hb] at hne; exact absurd rfl hne
                · simp only [Bool.and_eq_true, Nat.ble_eq] at hb
                  obtain ⟨b1, b2, b3⟩ := hb
                  refine ⟨_, key _ len c0 l h m hv l1 h3 m1 l2 h4 m2 b1 b2 b3, ?_⟩
                  show V.rel g (fN (off + l * i.size) fun o' => fN (h - l) fun k => fN (m - l) fun c => .sl a o' i.size k (some c)) _
                  rw [fN_eq, fN_eq, fN_eq]
                  have := sl_rel (cap := some (m - l)) hg c0 (off := off) (l := l) (k := h - l) (c := m - l) (o' := o') hesz (by omega) (by omega) (by omega) hcm ho' hbt rfl
                  rw [show l + (m - l) = m by omega] at this
                  simpa [Addr.add_lit] using this
              · rw [m3] at hne; exact absurd rfl hne
            | none =>
              have hcap : base + off + c0 * i.size = tot := hcap
              cases xm with
              | none =>
                have hom : om = none := by cases om <;> simp_all [compXO]
                have hne : (Bool.rec .bad (fN (Nat.add off (Nat.mul l i.size)) fun o' => fN (Nat.sub h l) fun k => .sl a o' i.size k none) (and (Nat.ble l h) (Nat.ble h len)) : V) ≠ .bad := hne
                show ∃ u, _ ∧ V.rel g (Bool.rec .bad (fN (Nat.add off (Nat.mul l i.size)) fun o' => fN (Nat.sub h l) fun k => .sl a o' i.size k none) (and (Nat.ble l h) (Nat.ble h len)) : V) u
                cases hb : and (Nat.ble l h) (Nat.ble h len)
                · rw [hb] at hne; exact absurd rfl hne
                · simp only [Bool.and_eq_true, Nat.ble_eq] at hb
                  obtain ⟨b1, b2⟩ := hb
                  refine ⟨_, key _ len c0 l h c0 hv l1 h3 (by rw [hom]; rfl) l2 h4 (fun _ => rfl) b1 (by omega) (Nat.le_refl _), ?_⟩
                  show V.rel g (fN (off + l * i.size) fun o' => fN (h - l) fun k => .sl a o' i.size k none) _
                  rw [fN_eq, fN_eq]
                  have := sl_rel (cap := none) hg c0 (off := off) (l := l) (k := h - l) (c := c0 - l) (o' := o') hesz (by omega) (by omega) (by omega) hcm ho' hbt ⟨by omega, hcap⟩
                  rw [show l + (c0 - l) = c0 by omega] at this
                  simpa [Addr.add_lit] using this
              | some x' =>
                have hne : onN (evX x' e) (fun m => (Bool.rec .bad (fN (Nat.add off (Nat.mul l i.size)) fun o' => fN (Nat.sub h l) fun k => fN (Nat.sub m l) fun c => .sl a o' i.size k (some c)) (and (Nat.ble l h) (and (Nat.ble h m) (Nat.ble m len))) : V)) .bad ≠ .bad := hne
                show ∃ u, _ ∧ V.rel g (onN (evX x' e) (fun m => (Bool.rec .bad (fN (Nat.add off (Nat.mul l i.size)) fun o' => fN (Nat.sub h l) fun k => fN (Nat.sub m l) fun c => .sl a o' i.size k (some c)) (and (Nat.ble l h) (and (Nat.ble h m) (Nat.ble m len))) : V)) .bad) u
                have := onO_or he hxm 0 (fun m => (Bool.rec .bad (fN (Nat.add off (Nat.mul l i.size)) fun o' => fN (Nat.sub h l) fun k => fN (Nat.sub m l) fun c => .sl a o' i.size k (some c)) (and (Nat.ble l h) (and (Nat.ble h m) (Nat.ble m len))) : V))
                rcases this with ⟨m, m1, m2, m3⟩ | m3
                · have m3 : onN (evX x' e) (fun m => (Bool.rec .bad (fN (Nat.add off (Nat.mul l i.size)) fun o' => fN (Nat.sub h l) fun k => fN (Nat.sub m l) fun c => .sl a o' i.size k (some c)) (and (Nat.ble l h) (and (Nat.ble h m) (Nat.ble m len))) : V)) .bad = _ := m3
                  rw [m3] at hne ⊢
                  cases hb : and (Nat.ble l h) (and (Nat.ble h m) (Nat.ble m len))
                  · rw [hb] at hne; exact absurd rfl hne
                  · simp only [Bool.and_eq_true, Nat.ble_eq] at hb
                    obtain ⟨b1, b2, b3⟩ := hb
                    have hom : om ≠ none := by intro e; subst e; simp [compXO] at hxm
                    refine ⟨_, key _ len c0 l h m hv l1 h3 m1 l2 h4 (fun e => absurd e hom) b1 b2 (by omega), ?_⟩
                    show V.rel g (fN (off + l * i.size) fun o' => fN (h - l) fun k => fN (m - l) fun c => .sl a o' i.size k (some c)) _
                    rw [fN_eq, fN_eq, fN_eq]
                    have := sl_rel (cap := some (m - l)) hg c0 (off := off) (l := l) (k := h - l) (c := m - l) (o' := o') hesz (by omega) (by omega) (by omega) hcm ho' hbt rfl
                    rw [show l + (m - l) = m by omega] at this
                    simpa [Addr.add_lit] using this
                · have m3 : onN (evX x' e) (fun m => (Bool.rec .bad (fN (Nat.add off (Nat.mul l i.size)) fun o' => fN (Nat.sub h l) fun k => fN (Nat.sub m l) fun c => .sl a o' i.size k (some c)) (and (Nat.ble l h) (and (Nat.ble h m) (Nat.ble m len))) : V)) .bad = _ := m3
                  rw [m3] at hne; exact absurd rfl hne
          · rw [h5] at hne; exact absurd rfl hne
        · rw [l3] at hne; exact absurd rfl hne
    · rw [h2] at hne ⊢
      rw [h1, V.rel] at rx
      rcases onO_or he hxl 0 (fun l => onO xh e 0 fun h => onO xm e 0 fun m => (Bool.rec .bad .ns (Nat.beq (Nat.add l (Nat.add h m)) 0) : V)) with ⟨l, l1, l2, l3⟩ | l3
      · rw [l3] at hne ⊢
        rcases onO_or he hxh 0 (fun h => onO xm e 0 fun m => (Bool.rec .bad .ns (Nat.beq (Nat.add l (Nat.add h m)) 0) : V)) with ⟨h, h3, h4, h5⟩ | h5
        · rw [h5] at hne ⊢
          rcases onO_or he hxm 0 (fun m => (Bool.rec .bad .ns (Nat.beq (Nat.add l (Nat.add h m)) 0) : V)) with ⟨m, m1, m2, m3⟩ | m3
          · rw [m3] at hne ⊢
            cases hb : Nat.beq (Nat.add l (Nat.add h m)) 0
            · rw [hb] at hne; exact absurd rfl hne
            · have hb' : l + (h + m) = 0 := by simpa [Nat.beq_eq] using hb
              refine ⟨_, key _ 0 0 l h m rx l1 h3 m1 l2 h4 m2 (by omega) (by omega) (by omega), ?_⟩
              have e1 : l = 0 := by omega
              have e2 : h = 0 := by omega
              have e3 : m = 0 := by omega
              subst e1 e2 e3
              rfl
          · rw [m3] at hne; exact absurd rfl hne
        · rw [h5] at hne; exact absurd rfl hne
      · rw [l3] at hne; exact absurd rfl hne
    · rw [h2] at hne; exact absurd rfl hne
/-! A slice of a slice that may reach beyond the length, where the memory shows that there is room. -/
noncomputable def evSlm (esz : Nat) (x xl xh : X) (e : Tr) (lim : Nat) (h : Hp) (n : Nat) : Res :=
  onS (evX x e)
    (fun a off e' len cap => Option.rec
      (onN (evX xl e) (fun l => onN (evX xh e) (fun hi => Bool.rec
        (Option.rec .no (fun bs => Bool.rec .no (fN (Nat.add off (Nat.mul l esz)) fun o' => fN (Nat.sub hi l) fun k => .ok (.sl a o' esz k none) h n) (and (Nat.beq e' esz) (and (Nat.ble l hi) (Nat.ble (Nat.add off (Nat.mul hi esz)) bs.size)))) (h.get a))
        (evSlc esz x (some xl) (some xh) none e lim h n) (Nat.ble hi len)) .no) .no)
      (fun _ => evSlc esz x (some xl) (some xh) none e lim h n) cap)
    (evSlc esz x (some xl) (some xh) none e lim h n) .no

theorem ok_slm {t el : TypeId} {i : TypeInfo} {ox ol oh : Operand} {x xl xh : X} (hx : compX ox = some x) (hxl : compX ol = some xl) (hxh : compX oh = some xh)
    (ht : P.underlying t = some (.slice el)) (hi : P.info? el = some i) (ho : o.op = .slice t ox (some ol) (some oh) none) : OpOK P o (evSlm i.size x xl xh) := by
  have old := ok_slc (P := P) (o := o) hx (ol := some ol) (oh := some oh) (om := none) (xl := some xl) (xh := some xh) (xm := none) (by simp [compXO, hxl]) (by simp [compXO, hxh]) rfl (by simp) ht hi ho
  intro e lim h n v h' n' hr ρ g w he m hd hf hn
  have rx := he ox x hx
  unfold evSlm at hr
  cases hv : evX x e <;> rw [hv] at hr rx <;> dsimp only [onS, V.asS] at hr
  case ns => exact old e lim h n v h' n' hr ρ g w he m hd hf hn
  case sl a off e' len cap =>
    cases cap with
    | some c => exact old e lim h n v h' n' hr ρ g w he m hd hf hn
    | none =>
      dsimp only at hr
      rcases onN_or (evX xl e) (fun l => (onN (evX xh e) (fun hi => Bool.rec
        (Option.rec .no (fun bs => Bool.rec .no (fN (Nat.add off (Nat.mul l i.size)) fun o' => fN (Nat.sub hi l) fun k => .ok (.sl a o' i.size k none) h n) (and (Nat.beq e' i.size) (and (Nat.ble l hi) (Nat.ble (Nat.add off (Nat.mul hi i.size)) bs.size)))) (h.get a))
        (evSlc i.size x (some xl) (some xh) none e lim h n) (Nat.ble hi len)) .no : Res)) .no with ⟨l, l1, l2⟩ | l2
      · rw [l2] at hr
        rcases onN_or (evX xh e) (fun hi => (Bool.rec
          (Option.rec .no (fun bs => Bool.rec .no (fN (Nat.add off (Nat.mul l i.size)) fun o' => fN (Nat.sub hi l) fun k => .ok (.sl a o' i.size k none) h n) (and (Nat.beq e' i.size) (and (Nat.ble l hi) (Nat.ble (Nat.add off (Nat.mul hi i.size)) bs.size)))) (h.get a))
          (evSlc i.size x (some xl) (some xh) none e lim h n) (Nat.ble hi len) : Res)) .no with ⟨u, u1, u2⟩ | u2
        · rw [u2] at hr
          cases hb : Nat.ble u len
          · rw [hb] at hr
            dsimp only at hr
            cases hhs : h.get a with
            | none => rw [hhs] at hr; cases hr
            | some bs =>
              rw [hhs] at hr
              dsimp only at hr
              cases hc : and (Nat.beq e' i.size) (and (Nat.ble l u) (Nat.ble (Nat.add off (Nat.mul u i.size)) bs.size))
              · rw [hc] at hr; cases hr
              · rw [hc] at hr
                dsimp only at hr
                rw [fN_eq, fN_eq] at hr
                cases hr
                simp only [Bool.and_eq_true, Nat.beq_eq, Nat.ble_eq] at hc
                obtain ⟨hce, hcl, hcs⟩ := hc
                have hcs : off + u * i.size ≤ bs.size := hcs
                subst hce
                rw [V.rel] at rx
                obtain ⟨r, base, tot, c0, o', hg, hv2, hesz, hlc, hcm, ho', hbt, hcap⟩ := rx
                have hcap : base + off + c0 * i.size = tot := hcap
                have hfit : u ≤ c0 := by
                  obtain ⟨rr, bb, tt, cur, c1, c2, c3, c4, c5, c6⟩ := m.blk a bs hhs
                  rw [hg] at c1
                  cases c1
                  have : u * i.size ≤ c0 * i.size := by omega
                  exact Nat.le_of_mul_le_mul_right this hesz
                have e1 : ρ ol = natV l := by have := he ol xl hxl; rw [l1, V.rel] at this; simpa [natV] using this.1
                have e2 : ρ oh = natV u := by have := he oh xh hxh; rw [u1, V.rel] at this; simpa [natV] using this.1
                have hbd := run_bounds (P := P) w true len c0 (some ol) (some oh) none l u c0 (by simp) (by simp) (fun _ => rfl) (by simp) hcl hfit (Nat.le_refl _)
                refine ⟨.value (.slice (if c0 = l then some ⟨r, o', none⟩ else (some (⟨r, o', none⟩ : Addr)).map (·.add (l * i.size))) (u - l) (c0 - l)), g, w, ?_, ?_, m, Fr.refl hd⟩
                · simp only [Option.map_some, Option.map_none] at hbd
                  simp only [execOp, ho, hv2, Instr.sliceAt, Sem.run_bind, run_underlying ht, Result.andThen_ok, Instr.slice, Option.map_some, Option.map_none, e1, e2, hbd, sizeOf, typeInfo, run_program, hi, Sem.run_pure]
                · show V.rel g (.sl a (off + l * i.size) i.size (u - l) none) _
                  have := sl_rel (cap := none) hg c0 (off := off) (l := l) (k := u - l) (c := c0 - l) (o' := o') hesz (by omega) (by omega) (by omega) hcm ho' hbt ⟨by omega, hcap⟩
                  rw [show l + (c0 - l) = c0 by omega] at this
                  simpa [Addr.add_lit] using this
          · rw [hb] at hr
            exact old e lim h n v h' n' hr ρ g w he m hd hf hn
        · rw [u2] at hr; cases hr
      · rw [l2] at hr; cases hr
  all_goals cases hr
end
end Go.Proofs.Ythgaekbcmhbbgaa.Ev
/- append, and slices of arrays. -/
namespace Go.Proofs.Ythgaekbcmhbbgaa.Ev
set_option linter.unusedVariables false
open Go

theorem allC_app : ∀ {l m : L}, l.allC = true → m.allC = true → (l.app m).allC = true
  | .nil, _, _, h => h
  | .cons v l, m, h, h' => by simp [L.allC] at h; simp [L.app, L.allC, h.1, allC_app h.2 h']
theorem length_app : ∀ (l m : L), (l.app m).length = l.length + m.length
  | .nil, m => by simp [L.app, L.length]
  | .cons v l, m => by simp [L.app, L.length, length_app l m]; omega
theorem getL_length (b : Blk) : ∀ (n k : Nat), (b.getL k n).length = n
  | 0, _ => rfl
  | n + 1, k => by simp [Blk.getL, L.length, getL_length b n]
theorem cell_setL_out (b : Blk) : ∀ (l : L) (k j : Nat), k + l.length ≤ maxSize → j ≤ maxSize → (j < k ∨ k + l.length ≤ j) → (b.setL k l).cell j = b.cell j
  | .nil, k, j, _, _, _ => rfl
  | .cons x l, k, j, hk, hj, h => by
    have e : (L.cons x l).length = l.length + 1 := rfl
    rw [e] at hk h
    show ((b.setC k x).setL (k + 1) l).cell j = _
    rw [cell_setL_out (b.setC k x) l (k + 1) j (by omega) hj (by omega), cell_setC b k j x (by omega) hj, if_neg (by omega)]
theorem cell_setL_in (b : Blk) : ∀ (l : L) (k j : Nat), k + l.length ≤ maxSize → j ≤ maxSize → l.allC = true → k ≤ j → j < k + l.length → (b.setL k l).cell j = l.get (j - k)
  | .nil, k, j, _, _, _, h1, h2 => by simp [L.length] at h2; omega
  | .cons x l, k, j, hk, hj, hc, h1, h2 => by
    have e : (L.cons x l).length = l.length + 1 := rfl
    rw [e] at hk h2
    simp only [L.allC, Bool.and_eq_true] at hc
    have hx : x ≠ .bad := by intro e; rw [e] at hc; simp [V.isC] at hc
    show ((b.setC k x).setL (k + 1) l).cell j = _
    by_cases h3 : j = k
    · subst h3
      rw [cell_setL_out (b.setC j x) l (j + 1) j (by omega) hj (by omega), cell_setC b j j x (by omega) hj, if_pos rfl, orZ_ne _ hx, Nat.sub_self]; rfl
    · rw [cell_setL_in (b.setC k x) l (k + 1) j (by omega) hj hc.2 (by omega) (by omega), show j - k = (j - (k + 1)) + 1 by omega]; rfl

section
variable {P : Program} {o : Oper}

/-- The block of a slice that was appended to. -/
noncomputable def grown (bs : Blk) (so k : Nat) (news : L) : Blk :=
  Bool.rec (let l := (bs.getL so k).app news; ⟨bs.el, l.length, l.length, l, .lf⟩) { bs.setL k news with size := k + news.length } (Nat.beq so 0)
noncomputable def lst (el : TypeId) (l : L) : Blk := fN l.length fun k => ⟨el, k, k, l, .lf⟩
noncomputable def evApp (el esz by_ : Nat) (s x : X) (e : Tr) (lim : Nat) (h : Hp) (n : Nat) : Res :=
  onS (evX x e)
    (fun xp xo xe xl _ => Bool.rec
      (Option.rec .no (fun bx => Bool.rec .no
        (onS (evX s e)
          (fun sp so se sl cap => Option.rec .no (fun bs => Bool.rec .no
            (Option.rec
              (Bool.rec
                (Bool.rec .no (fN (Nat.add sl xl) fun k => newB (grown bs so (sl * esz) (bx.getL xo (xl * esz))) (fun p => .sl p 0 esz k none) (h.put none sp) n)
                  (Nat.ble lim sp.num))
                (Bool.rec .no (h.putK (some (bs.setL (so + sl * esz) (bx.getL xo (xl * esz)))) sp fun h' => fN (Nat.add sl xl) fun k => .ok (.sl sp so esz k none) h' n)
                  (Nat.ble lim sp.num))
                (Nat.ble (so + (sl + xl) * esz) bs.size))
              (fun c => Bool.rec
                (Bool.rec .no (fN (Nat.add sl xl) fun k => newB (lst el ((bs.getL so (sl * esz)).app (bx.getL xo (xl * esz)))) (fun p => .sl p 0 esz k none) h n)
                  (bs.getL so (sl * esz)).allC)
                (Bool.rec .no (h.putK (some (bs.setL (so + sl * esz) (bx.getL xo (xl * esz)))) sp fun h' => fN (Nat.add sl xl) fun k => .ok (.sl sp so esz k (some c)) h' n)
                  (and (Nat.ble lim sp.num) (Nat.ble (so + (sl + xl) * esz) bs.size)))
                (Nat.ble (sl + xl) c))
              cap)
            (and (Nat.beq se esz) (and (Nat.beq bs.el el) (and (Nat.ble (so + sl * esz) bs.size) (and (Nat.ble ((sl + xl) * by_) 140737488355328) (Nat.ble ((sl + xl) * esz) 1099511627776)))))) (h.get sp))
          (newB (lst el (bx.getL xo (xl * esz))) (fun p => .sl p 0 esz xl none) h n)
          .no)
        (and (Nat.beq xe esz) (and (Nat.ble (xo + xl * esz) bx.size) (and (bx.getL xo (xl * esz)).allC (and (Nat.ble (xl * by_) 140737488355328) (Nat.ble (xl * esz) 1099511627776)))))) (h.get xp))
      (onS (evX s e) (fun a b c d f => .ok (.sl a b c d f) h n) (.ok .ns h n) .no) (Nat.beq xl 0))
    (onS (evX s e) (fun a b c d f => .ok (.sl a b c d f) h n) (.ok .ns h n) .no)
    .no

theorem run_app_none {t el : TypeId} {i : TypeInfo} (ht : P.underlying t = some (.slice el)) (hi : P.info? el = some i) (ty : TypeId) (b : Option Addr) (len cap : Nat) (hlc : len ≤ cap) (b' : Option Addr) (c' : Nat) (w : World) :
    (Builtin.append_ #[t, t] ty #[.slice b len cap, .slice b' 0 c']).run P w = .ok (.slice b len cap) w := by
  cases b <;> cases b' <;> simp [Builtin.append_, run_underlying ht, sizeOf, typeInfo, hi, Builtin.lenOf, hlc, Builtin.firstCells, loadCells, loadCellsFrom, storeCells]

theorem sl_len {g : Sig} {a : Pos} {o' e l : Nat} {c : Option Nat} {u : Value} (h : (V.sl a o' e l c).rel g u) : ∃ b c', u = .slice (some b) l c' ∧ l ≤ c' := by
  rw [V.rel] at h
  obtain ⟨r, base, tot, c0, oo, hg, hv, hesz, hlc, _⟩ := h
  exact ⟨_, c0, hv, hlc⟩

theorem exec_app {t t' : TypeId} {os ox : Operand} (ho : o.op = .call { callee := .builtin .append, args := #[os, ox], argTypes := #[t, t] }) (ρ : Operand → Value) (w : World) :
    (execOp ρ o).run P w = ((Builtin.append_ #[t, t] o.type #[ρ os, ρ ox]).run P w).andThen fun v w' => .ok (.value v) w' := by
  simp [execOp, ho, resolve, invoke, builtin]

theorem lst_eq (el : TypeId) (l : L) : lst el l = ⟨el, l.length, l.length, l, .lf⟩ := fN_eq _ _

theorem getL_get (b : Blk) : ∀ (n k j : Nat), j < n → (b.getL k n).get j = b.cell (k + j)
  | 0, _, _, h => by omega
  | n + 1, k, 0, _ => rfl
  | n + 1, k, j + 1, h => by
    show (b.getL (k + 1) n).get j = _
    rw [getL_get b n (k + 1) j (by omega)]; congr 1; omega

theorem allC_one {g : Sig} : ∀ {l : L} {vs : List Value}, l.allC = true → l.rel g vs → ∀ u ∈ vs, u.oneCell' = true
  | .nil, _, _, e => by rw [L.rel] at e; subst e; simp
  | .cons v l, _, hc, e => by
    rw [L.rel] at e
    obtain ⟨u, us, rfl, h2, h3⟩ := e
    simp only [L.allC, Bool.and_eq_true] at hc
    intro x hx
    rcases List.mem_cons.1 hx with rfl | hx
    · exact (V.isC_one hc.1 h2).1
    · exact allC_one hc.2 h3 x hx

/-- A new row of the length of a list of cells, and more behind it. -/
theorem newGrown {el k : Nat} {i : TypeInfo} {h h' : Hp} {n n' lim : Nat} {v : V} {b : Blk} (hb : b.el = el) {g : Sig} {w : World} (m : Mem g h.get w) (hd : Dom h.get n) (hf : Fresh g n n') (hn : n' < 9223372036854775808) (h0 : 0 < i.size)
    (hr : newB b (fun p => .sl p 0 i.size k none) h n = .ok v h' n') (vs rest : List Value) (cap : Nat) (hkc : k ≤ cap) (hcm : cap ≤ maxLen) (hcap : vs.length + rest.length = cap * i.size)
    (hs : b.size = vs.length) (hm : b.size ≤ maxSize) (hc : ∀ j, j < b.size → ∃ u, vs[j]? = some u ∧ u.oneCell' = true ∧ (b.cell j).rel g u) :
    ∃ g', NX g' v (.value (.slice (some ⟨w.heap.size, 0, none⟩) k cap)) ∧ Mem g' h'.get (w.alloc (.cells ⟨vs ++ rest⟩ el)) ∧ Fr lim n g h.get w n' g' h'.get (w.alloc (.cells ⟨vs ++ rest⟩ el)) := by
  obtain ⟨p, g', hle, hg', rfl, m', f'⟩ := newB_sound (lim := lim) hr m hd hf hn ⟨vs ++ rest⟩ (by simp; omega) hm (fun j hj => by
    obtain ⟨u, h1, h2, h3⟩ := hc j hj
    refine ⟨u, ?_, h2, h3⟩
    have : j < vs.length := by omega
    simp only [List.getElem?_toArray]
    rw [List.getElem?_append_left this]; exact h1)
  rw [hb] at m' f'
  refine ⟨g', ?_, m', f'⟩
  show V.rel g' (.sl p 0 i.size k none) _
  rw [V.rel]
  refine ⟨_, _, _, cap, 0, hg', rfl, h0, hkc, hcm, fun _ => rfl, ?_, ?_⟩
  · simp; omega
  · show 0 + 0 + cap * i.size = (⟨vs ++ rest⟩ : Array Value).size
    simp; omega
end
end Go.Proofs.Ythgaekbcmhbbgaa.Ev
/- append: the model answers as the evaluator. -/
namespace Go.Proofs.Ythgaekbcmhbbgaa.Ev
set_option linter.unusedVariables false
open Go

theorem get_app : ∀ (l m : L) (j : Nat), (l.app m).get j = if j < l.length then l.get j else m.get (j - l.length)
  | .nil, m, j => by simp [L.app, L.length]
  | .cons v l, m, 0 => by simp [L.app, L.length, L.get]
  | .cons v l, m, j + 1 => by
    show (l.app m).get j = _
    rw [get_app l m j]
    have e : (L.cons v l).length = l.length + 1 := rfl
    by_cases h : j < l.length
    · rw [if_pos h, if_pos (by omega)]; rfl
    · rw [if_neg h, if_neg (by omega), e]; congr 1; omega

theorem cell_lst (el : TypeId) (l : L) (j : Nat) (hj : j < l.length) : (⟨el, l.length, l.length, l, .lf⟩ : Blk).cell j = l.get j := by
  rw [cell_lf]; show orZ .bad (nthL (j % l.length) l) = _
  rw [nthL_eq, Nat.mod_eq_of_lt hj]; rfl

theorem grown_spec (bs : Blk) (so k : Nat) (news : L) (hc : news.allC = true) (hm : k + news.length ≤ maxSize) :
    (grown bs so k news).el = bs.el ∧ (grown bs so k news).size = k + news.length ∧ ∀ j, j < k + news.length → (grown bs so k news).cell j = if j < k then bs.cell (so + j) else news.get (j - k) := by
  unfold grown
  cases hz : Nat.beq so 0
  · refine ⟨rfl, by show ((bs.getL so k).app news).length = _; rw [length_app, getL_length], ?_⟩
    intro j hj
    show (⟨bs.el, ((bs.getL so k).app news).length, ((bs.getL so k).app news).length, (bs.getL so k).app news, .lf⟩ : Blk).cell j = _
    rw [cell_lst _ _ _ (by rw [length_app, getL_length]; exact hj), get_app, getL_length]
    by_cases h : j < k
    · rw [if_pos h, if_pos h, getL_get bs k so j h]
    · rw [if_neg h, if_neg h]
  · rw [Nat.beq_eq] at hz
    subst hz
    refine ⟨(setL_size bs news k).2.1, rfl, ?_⟩
    intro j hj
    show (bs.setL k news).cell j = _
    by_cases h : j < k
    · rw [if_pos h, cell_setL_out bs news k j hm (by omega) (.inl h), Nat.zero_add]
    · rw [if_neg h, cell_setL_in bs news k j hm (by omega) hc (by omega) hj]

theorem newB_inv {b : Blk} {k : Pos → V} {h h' : Hp} {n n' : Nat} {v : V} (e : newB b k h n = .ok v h' n') (hn : n' < 9223372036854775808) : ∃ p, p.num = n ∧ v = k p ∧ h'.get = hput h.get p (some b) ∧ n' = n + 1 := by
  unfold newB at e
  cases hb : Nat.ble 1 n
  · rw [hb] at e; cases e
  · rw [hb] at e
    have e : posK 63 n (fun p => fN (Nat.succ n) fun n' => h.putK (some b) p fun h' => Res.ok (k p) h' n') = .ok v h' n' := e
    rw [posK_eq, fN_eq, Hp.putK_eq] at e
    cases e
    rw [Nat.ble_eq] at hb
    exact ⟨posF 63 n, num_posF 63 n hb (by omega), rfl, Hp.put_get _ _ _, rfl⟩

section
variable {P : Program}

theorem run_room {t el : TypeId} {i : TypeInfo} (ht : P.underlying t = some (.slice el)) (hi : P.info? el = some i) (ty : TypeId) (b : Addr) (sl sc : Nat) (xa : Addr) (xl xc : Nat) (news : List Value) (w w' : World)
    (hl : news.length = xl * i.size) (hnews : ∀ j v, news[j]? = some v → w.cell? (xa.add j) = some v) (hroom : sl + xl ≤ sc) (hst : (storeCells (b.add (sl * i.size)) news).run P w = .ok () w') :
    (Builtin.append_ #[t, t] ty #[.slice (some b) sl sc, .slice (some xa) xl xc]).run P w = .ok (.slice (some b) (sl + xl) sc) w' := by
  have hf := run_firstCells_some (P := P) w i.size xl xa xl xc news hl hnews
  simp [Builtin.append_, run_underlying ht, sizeOf, typeInfo, hi, Builtin.lenOf, hroom, hf, hst]

theorem zeroCells_len (z : Array Value) (n : Nat) : (Builtin.zeroCells z n).toList.length = n * z.size := by simp [Builtin.zeroCells]

/-- Several cells stored into a row of which no cell is frozen. -/
theorem storeCells_at (P : Program) (g o : Nat) (t : TypeId) : ∀ (vs : List Value) (i : Nat) (cur : Array Value) (w : World), RowIs w g cur t → o + i + vs.length ≤ cur.size → (∀ v ∈ vs, v.oneCell' = true) →
    (storeCells ⟨g, o, none⟩ vs i).run P w = .ok () (w.setRow g (cur.toList.take (o + i) ++ vs ++ cur.toList.drop (o + i + vs.length)).toArray)
  | [], i, cur, w, ⟨fz, hg, _⟩, _, _ => by
    simp only [storeCells, List.append_nil, List.length_nil, Nat.add_zero, List.take_append_drop, Array.toArray_toList]
    rw [setRow_self w g cur t fz hg]
    rfl
  | v :: rest, i, cur, w, ⟨(lo, hi'), hg, hz⟩, hl, h1 => by
    have hi : o + i < cur.size := by simp at hl; omega
    have hadd : (⟨g, o, none⟩ : Addr).add i = ⟨g, o + i, none⟩ := by unfold Addr.add; split <;> simp_all
    have hcell : w.cell? ⟨g, o + i, none⟩ = some cur[o + i] := by simp [World.cell?, hg, hi]
    have hfro : w.frozen? ⟨g, o + i, none⟩ = false := by
      have := hz _ hi
      simp only [World.frozen?, hg]
      simpa using this
    have hst : (store ((⟨g, o, none⟩ : Addr).add i) v).run P w = .ok () (w.setRow g (cur.setIfInBounds (o + i) v)) := by
      rw [hadd, run_store P w _ v _ (h1 v (by simp)), hcell]
      simp [hfro, setCell_eq_setRow w g (o + i) cur t (lo, hi') v hg]
    have ih := storeCells_at P g o t rest (i + 1) (cur.setIfInBounds (o + i) v) (w.setRow g (cur.setIfInBounds (o + i) v)) ⟨(lo, hi'), setRow_heap w g cur _ t _ hg, by simpa using hz⟩ (by simp at hl ⊢; omega) (fun x hx => h1 x (by simp [hx]))
    simp only [storeCells, Sem.run_bind, hst, Result.andThen_ok, ih, setRow_setRow]
    congr 3
    have e := list_seg_step cur.toList (o + i) v rest (by simp at hl ⊢; omega)
    simpa [Array.toList_setIfInBounds, Nat.add_assoc] using e

/-- The unknown room: the cells go into the block. -/
theorem app_in {lim n : Nat} {g : Sig} {h : Hm} {w : World} (m : Mem g h w) (hd : Dom h n) {sp p : Pos} (hp : p.num = n) (h0 : g p = none) {bs nb : Blk} (hsp : h sp = some bs) (hlim : lim ≤ sp.num) {r base tot : Nat} (hg : g sp = some (r, base, tot))
    {cur : Array Value} (hr : RowIs w r cur bs.el) {so k : Nat} (hcur : cur.size = tot) (vs : List Value) (hel : nb.el = bs.el) (hs : nb.size = k + vs.length) (hms : nb.size ≤ maxSize) (hroom : base + so + k + vs.length ≤ tot)
    (hold : ∀ j, j < k → ∃ u, cur[base + so + j]? = some u ∧ u.oneCell' = true ∧ (nb.cell j).rel g u) (hnew : ∀ j, j < vs.length → ∃ u, vs[j]? = some u ∧ u.oneCell' = true ∧ (nb.cell (k + j)).rel g u) :
    ∃ w', (storeCells ⟨r, base + so + k, none⟩ vs).run P w = .ok () w' ∧ Mem (gput g p (r, base + so, tot)) (hput (hput h sp none) p (some nb)) w' ∧ Fr lim n g h w (n + 1) (gput g p (r, base + so, tot)) (hput (hput h sp none) p (some nb)) w' := by
  have hone : ∀ v ∈ vs, v.oneCell' = true := by
    intro v hv
    obtain ⟨j, hj, e⟩ := List.getElem_of_mem hv
    obtain ⟨u, h1, h2, _⟩ := hnew j hj
    rw [List.getElem?_eq_getElem hj] at h1
    cases h1; rw [← e]; exact h2
  have hsz : ((cur.toList.take (base + so + k) ++ vs ++ cur.toList.drop (base + so + k + vs.length)).toArray).size = cur.size := by
    simp only [List.size_toArray, List.length_append, List.length_take, List.length_drop, Array.length_toList]; omega
  have hst := storeCells_at P r (base + so + k) bs.el vs 0 cur w hr (by omega) hone
  simp only [Nat.add_zero] at hst
  have hpsp : p ≠ sp := by intro e; have := hd sp bs hsp; rw [← e] at this; omega
  refine ⟨_, hst, ⟨?_, ?_⟩, ?_⟩
  · intro q q' bq bq' r' b1 t1 b2 t2 hq hq' e e'
    unfold hput at hq hq'
    unfold gput at e e'
    by_cases x : q = p <;> by_cases y : q' = p
    · rw [x, y]
    · rw [if_pos x] at e
      rw [if_neg y] at hq' e'
      cases e
      by_cases z : q' = sp
      · rw [if_pos z] at hq'; cases hq'
      · rw [if_neg z] at hq'
        exact absurd (m.inj q' sp bq' bs r b2 t2 base tot hq' hsp e' hg) z
    · rw [if_pos y] at e'
      rw [if_neg x] at hq e
      cases e'
      by_cases z : q = sp
      · rw [if_pos z] at hq; cases hq
      · rw [if_neg z] at hq
        exact absurd (m.inj q sp bq bs r b1 t1 base tot hq hsp e hg) z
    · rw [if_neg x] at hq e
      rw [if_neg y] at hq' e'
      by_cases z : q = sp
      · rw [if_pos z] at hq; cases hq
      · by_cases z' : q' = sp
        · rw [if_pos z'] at hq'; cases hq'
        · rw [if_neg z] at hq
          rw [if_neg z'] at hq'
          exact m.inj q q' bq bq' r' b1 t1 b2 t2 hq hq' e e'
  · intro q c e
    unfold hput at e
    by_cases x : q = p
    · rw [if_pos x] at e
      cases e
      refine ⟨r, base + so, tot, _, by simp [gput, x], .inl ⟨by rw [hel]; exact (let ⟨fz, h2, hz⟩ := hr; ⟨fz, setRow_heap w r cur _ bs.el _ h2, by rw [hsz]; exact hz⟩), by omega⟩, ?_, by omega, hms, ?_⟩
      · simp only [List.size_toArray, List.length_append, List.length_take, List.length_drop, Array.length_toList]; omega
      · intro j hj
        by_cases hjk : j < k
        · obtain ⟨u, h1, h2, h3⟩ := hold j hjk
          refine ⟨u, ?_, h2, V.rel_mono (gput_le _ h0) _ h3⟩
          simp only [List.getElem?_toArray]
          rw [List.append_assoc, List.getElem?_append_left (by simp; omega), List.getElem?_take_of_lt (by omega)]
          simpa using h1
        · obtain ⟨u, h1, h2, h3⟩ := hnew (j - k) (by omega)
          rw [show k + (j - k) = j by omega] at h3
          refine ⟨u, ?_, h2, V.rel_mono (gput_le _ h0) _ h3⟩
          simp only [List.getElem?_toArray]
          rw [List.append_assoc, List.getElem?_append_right (by simp; omega), List.getElem?_append_left (by simp; omega)]
          rw [← h1]; congr 1; simp; omega
    · rw [if_neg x] at e
      by_cases z : q = sp
      · rw [if_pos z] at e; cases e
      · rw [if_neg z] at e
        obtain ⟨r', base', tot', cur', h1, h2, h3, h4, h5, h6⟩ := m.blk q c e
        refine ⟨r', base', tot', cur', by simp [gput, x, h1], ?_, h3, h4, h5, fun j hj => ?_⟩
        · refine (h2.mono (gput_le _ h0)).keep (setRow_other w r r' _ ?_)
          intro e'; subst e'
          exact z (m.inj q sp c bs r' base' tot' base tot e hsp h1 hg)
        · obtain ⟨v, h7, h8, h9⟩ := h6 j hj
          exact ⟨v, h7, h8, V.rel_mono (gput_le _ h0) _ h9⟩
  · exact {
      le := by omega
      os := rfl
      tape := rfl
      output := rfl
      size := by simp
      keep := by
        intro r' _ hW
        refine setRow_other w r r' _ fun e => ?_
        subst e
        exact hW sp bs base tot hsp hlim hg
      sig := by
        intro q hq
        unfold gput
        rw [if_neg]
        intro e; subst e; omega
      dom := by
        intro q c e
        unfold hput at e
        split at e
        · rename_i e'; subst e'; exact ⟨fun x => by omega, by omega⟩
        · split at e
          · cases e
          · exact ⟨fun _ => ⟨c, e⟩, by have := hd q c e; omega⟩
      new := by
        intro q r' base' tot' a b e
        have : q = p := Pos.num_inj (by omega)
        subst this
        simp only [gput, if_pos] at e
        cases e
        exact .inr ⟨sp, bs, base, tot, hsp, hlim, hg⟩ }
end
end Go.Proofs.Ythgaekbcmhbbgaa.Ev
/- append, whole. -/
namespace Go.Proofs.Ythgaekbcmhbbgaa.Ev
set_option linter.unusedVariables false
open Go

section
variable {P : Program} {o : Oper}

theorem getL_rel' {g : Sig} {h : Hm} {w : World} (m : Mem g h w) {p : Pos} {b : Blk} (hp : h p = some b) {r base tot : Nat} (hg : g p = some (r, base, tot)) (n k o' len : Nat) (hk : k + n ≤ b.size) (ho : 0 < n → o' = base + k) :
    ∃ vs : List Value, vs.length = n ∧ (b.getL k n).rel g vs ∧ ∀ j v, vs[j]? = some v → w.cell? ((⟨r, o', none⟩ : Addr).add j) = some v := by
  by_cases hn : n = 0
  · subst hn; exact ⟨[], rfl, rfl, by simp⟩
  · obtain ⟨vs, h1, h2, _, h4⟩ := getL_rel m hp hg n k hk
    rw [ho (by omega)]
    exact ⟨vs, h1, h2, h4⟩

theorem getL_one {g : Sig} {h : Hm} {w : World} (m : Mem g h w) {p : Pos} {b : Blk} (hp : h p = some b) {r base tot : Nat} (hg : g p = some (r, base, tot)) (n k o' : Nat) (hk : k + n ≤ b.size) (ho : 0 < n → o' = base + k) :
    ∃ vs : List Value, vs.length = n ∧ (b.getL k n).rel g vs ∧ (∀ j v, vs[j]? = some v → w.cell? ((⟨r, o', none⟩ : Addr).add j) = some v) ∧ ∀ v ∈ vs, v.oneCell' = true := by
  by_cases hn : n = 0
  · subst hn; exact ⟨[], rfl, rfl, by simp, by simp⟩
  · obtain ⟨vs, h1, h2, h3, h4⟩ := getL_rel m hp hg n k hk
    rw [ho (by omega)]
    exact ⟨vs, h1, h2, h4, h3⟩

theorem ok_app {t el : TypeId} {os ox : Operand} {s x : X} {i : TypeInfo} {zv : Value} (hs : compX os = some s) (hx : compX ox = some x) (ht : P.underlying t = some (.slice el)) (hi : P.info? el = some i) (hz : i.zero = some zv) (h0 : 0 < i.size) (hzs : zv.cells.size = i.size)
    (ho : o.op = .call { callee := .builtin .append, args := #[os, ox], argTypes := #[t, t] }) : OpOK P o (evApp el i.size i.bytes s x) := by
  intro e lim h n v h' n' hr ρ g w he m hd hf hn
  have rs := he os s hs
  have rx := he ox x hx
  have hex := exec_app (P := P) (o := o) (t' := 0) ho ρ w
  unfold evApp at hr
  -- nothing to append
  have none_case : ∀ (b' : Option Addr) (c' : Nat), ρ ox = .slice b' 0 c' → onS (evX s e) (fun a b c d f => Res.ok (.sl a b c d f) h n) (.ok .ns h n) .no = .ok v h' n' →
      ∃ nx g' w', (execOp ρ o).run P w = .ok nx w' ∧ NX g' v nx ∧ Mem g' h'.get w' ∧ Fr lim n g h.get w n' g' h'.get w' := by
    intro b' c' hv hr
    cases hsv : evX s e <;> rw [hsv] at hr rs <;> dsimp only [onS, V.asS] at hr
    case sl a off e' l c =>
      cases hr
      obtain ⟨b, c0, hv2, hlc⟩ := sl_len rs
      rw [hv2, hv, run_app_none ht hi o.type (some b) l c0 hlc b' c' w] at hex
      exact ⟨_, g, w, hex, by show V.rel g _ _; rw [← hv2]; exact rs, m, Fr.refl hd⟩
    case ns =>
      cases hr
      have rs' : ρ os = .slice none 0 0 := rs
      rw [rs', hv, run_app_none ht hi o.type none 0 0 (Nat.le_refl _) b' c' w] at hex
      exact ⟨_, g, w, hex, rfl, m, Fr.refl hd⟩
    all_goals cases hr
  cases hxv : evX x e <;> rw [hxv] at hr rx <;> dsimp only [onS, V.asS] at hr
  case ns => exact none_case none 0 rx hr
  case sl xp xo xe xl xcap =>
    obtain ⟨r, base, tot, xc, xo', hg, hv, hesz, hlc, hcm, ho', hbt, _⟩ : ∃ r base tot c o', g xp = some (r, base, tot) ∧ ρ ox = .slice (some ⟨r, o', none⟩) xl c ∧ 0 < xe ∧ xl ≤ c ∧ c ≤ maxLen ∧ (0 < c → o' = base + xo) ∧ base + xo + c * xe ≤ tot ∧ _ := by rw [V.rel] at rx; exact rx
    cases hb0 : Nat.beq xl 0
    case true =>
      rw [hb0] at hr
      dsimp only at hr
      rw [Nat.beq_eq] at hb0
      subst hb0
      exact none_case _ _ hv hr
    case false =>
      rw [hb0] at hr
      dsimp only at hr
      have hxl : xl ≠ 0 := by intro e; subst e; cases hb0
      cases hhx : h.get xp with
      | none => rw [hhx] at hr; cases hr
      | some bx =>
        rw [hhx] at hr
        dsimp only at hr
        cases hb : and (Nat.beq xe i.size) (and (Nat.ble (xo + xl * i.size) bx.size) (and (bx.getL xo (xl * i.size)).allC (and (Nat.ble (xl * i.bytes) 140737488355328) (Nat.ble (xl * i.size) 1099511627776))))
        · rw [hb] at hr; cases hr
        · rw [hb] at hr
          dsimp only at hr
          simp only [Bool.and_eq_true, Nat.beq_eq, Nat.ble_eq] at hb
          obtain ⟨hxe, hxs, hxC, hxb, hxz⟩ := hb
          subst hxe
          obtain ⟨news, nl, nr, nc⟩ := getL_rel' m hhx hg (xl * i.size) xo xo' xl hxs (fun _ => ho' (by omega))
          have ndc : ∀ j v, news[j]? = some v → w.drew.cell? ((⟨r, xo', none⟩ : Addr).add j) = some v := nc
          have nC := allC_one hxC nr
          have nlen : (bx.getL xo (xl * i.size)).length = xl * i.size := getL_length _ _ _
          have hdw : Dom h.get n := hd
          have grow_len : ∀ need cap : Nat, need ≤ cap → ∀ l : List Value, l.length = need * i.size → l.length + (Builtin.zeroCells zv.cells (cap - need)).toList.length = cap * i.size := by
            intro need cap hnc l hl
            rw [hl, zeroCells_len, hzs, ← Nat.add_mul]; congr 1; omega
          cases hsv : evX s e <;> rw [hsv] at hr rs <;> dsimp only [onS, V.asS] at hr
          case ns =>
            have rs' : ρ os = .slice none 0 0 := rs
            have hxz' : xl ≤ xl * i.size := Nat.le_mul_of_pos_right _ h0
            have hrun := run_append_nil (P := P) w t o.type el i zv ht hi hz ⟨r, xo', none⟩ xl xc news nl nc (by omega) (by omega) (by omega)
            rw [rs', hv, hrun] at hex
            rw [lst_eq, nlen] at hr
            have hgc : grownCap w xl 0 el ≤ maxLen := grownCap_le_maxLen w xl 0 el (by unfold maxLen; omega)
            have hgg := grownCap_ge w xl 0 el
            obtain ⟨g', nx, m', f'⟩ := newGrown (lim := lim) (el := el) (i := i) (k := xl) (w := w.drew) (b := ⟨el, xl * i.size, xl * i.size, bx.getL xo (xl * i.size), .lf⟩) rfl m.drew hd hf hn h0 hr news (Builtin.zeroCells zv.cells (grownCap w xl 0 el - xl)).toList (grownCap w xl 0 el) hgg hgc (grow_len _ _ hgg _ nl) (by show xl * i.size = _; omega) hxz (fun j hj => by
              have := cell_list nr hxC el j (by rw [nlen]; exact hj)
              rw [nlen] at this
              obtain ⟨u, c1, c2, c3⟩ := this
              exact ⟨u, by simpa using c1, c2, c3⟩)
            refine ⟨_, g', _, hex, nx, ?_, ?_⟩
            · have e1 : (⟨news ++ (Builtin.zeroCells zv.cells (grownCap w xl 0 el - xl)).toList⟩ : Array Value) = news.toArray ++ Builtin.zeroCells zv.cells (grownCap w xl 0 el - xl) := by apply Array.ext'; simp
              rw [e1] at m'; exact m'
            · have e1 : (⟨news ++ (Builtin.zeroCells zv.cells (grownCap w xl 0 el - xl)).toList⟩ : Array Value) = news.toArray ++ Builtin.zeroCells zv.cells (grownCap w xl 0 el - xl) := by apply Array.ext'; simp
              rw [e1] at f'; exact (Fr.drew hd).trans f'
          case sl sp so se sl cap =>
            have rs2 := rs
            rw [V.rel] at rs2
            obtain ⟨r2, base2, tot2, sc, so', hg2, hv2, hesz2, hlc2, hcm2, ho2, hbt2, hcap⟩ := rs2
            cases hhs : h.get sp with
            | none => rw [hhs] at hr; cases hr
            | some bs =>
              rw [hhs] at hr
              dsimp only at hr
              cases hb : and (Nat.beq se i.size) (and (Nat.beq bs.el el) (and (Nat.ble (so + sl * i.size) bs.size) (and (Nat.ble ((sl + xl) * i.bytes) 140737488355328) (Nat.ble ((sl + xl) * i.size) 1099511627776))))
              · rw [hb] at hr; cases hr
              · rw [hb] at hr
                dsimp only at hr
                simp only [Bool.and_eq_true, Nat.beq_eq, Nat.ble_eq] at hb
                obtain ⟨hse, hel, hss, hsb, hsz⟩ := hb
                subst hse
                obtain ⟨olds, ol, or_, oc, oone⟩ := getL_one m hhs hg2 (sl * i.size) so so' hss (fun hp => ho2 (by
                  have : 0 < sl := Nat.pos_of_ne_zero fun e => by subst e; omega
                  omega))
                have olen : (bs.getL so (sl * i.size)).length = sl * i.size := getL_length _ _ _
                have hn1 : (sl + xl) * i.size = sl * i.size + xl * i.size := Nat.add_mul _ _ _
                have hle1 : sl + xl ≤ (sl + xl) * i.size := Nat.le_mul_of_pos_right _ h0
                have hall : (olds ++ news).length = (sl + xl) * i.size := by simp [ol, nl, hn1]
                have hrelA : ((bs.getL so (sl * i.size)).app (bx.getL xo (xl * i.size))).rel g (olds ++ news) := L.rel_app or_ nr
                have hlenA : ((bs.getL so (sl * i.size)).app (bx.getL xo (xl * i.size))).length = (sl + xl) * i.size := by rw [length_app, olen, nlen, hn1]
                have hgc : grownCap w (sl + xl) sc el ≤ maxLen := grownCap_le_maxLen w (sl + xl) sc el (by unfold maxLen; omega)
                have hgg := grownCap_ge w (sl + xl) sc el
                have eA : (⟨olds ++ news ++ (Builtin.zeroCells zv.cells (grownCap w (sl + xl) sc el - (sl + xl))).toList⟩ : Array Value) = olds.toArray ++ news.toArray ++ Builtin.zeroCells zv.cells (grownCap w (sl + xl) sc el - (sl + xl)) := by apply Array.ext'; simp
                cases cap with
                | some c =>
                  have hcap : sc = c := hcap
                  subst hcap
                  dsimp only at hr
                  cases hfit : Nat.ble (sl + xl) sc
                  · -- a new row
                    rw [hfit] at hr
                    dsimp only at hr
                    cases hsC : (bs.getL so (sl * i.size)).allC
                    · rw [hsC] at hr; cases hr
                    rw [hsC] at hr
                    dsimp only at hr
                    have hCA := allC_app hsC hxC
                    rw [fN_eq, lst_eq, hlenA] at hr
                    have hlt : sc < sl + xl := by
                      have : ¬ (Nat.ble (sl + xl) sc = true) := by rw [hfit]; simp
                      rw [Nat.ble_eq] at this; omega
                    have hrun := run_append_grow (P := P) w t o.type el i zv ht hi hz ⟨r2, so', none⟩ sl sc olds ol oc ⟨r, xo', none⟩ xl xc news nl nc hlt (by omega) (growslice_fits hlt hsb)
                    rw [hv2, hv, hrun] at hex
                    obtain ⟨g', nx, m', f'⟩ := newGrown (lim := lim) (el := el) (i := i) (k := sl + xl) (w := w.drew) (b := ⟨el, (sl + xl) * i.size, (sl + xl) * i.size, (bs.getL so (sl * i.size)).app (bx.getL xo (xl * i.size)), .lf⟩) rfl m.drew hd hf hn h0 hr (olds ++ news) (Builtin.zeroCells zv.cells (grownCap w (sl + xl) sc el - (sl + xl))).toList (grownCap w (sl + xl) sc el) hgg hgc (grow_len _ _ hgg _ hall) (by show (sl + xl) * i.size = _; omega) hsz (fun j hj => by
                      have := cell_list hrelA hCA el j (by rw [hlenA]; exact hj)
                      rw [hlenA] at this
                      obtain ⟨u, c1, c2, c3⟩ := this
                      exact ⟨u, by simpa using c1, c2, c3⟩)
                    rw [eA] at m' f'
                    exact ⟨_, g', _, hex, nx, m', (Fr.drew hd).trans f'⟩
                  · -- within the room
                    rw [hfit] at hr
                    dsimp only at hr
                    rw [Nat.ble_eq] at hfit
                    cases hb2 : and (Nat.ble lim sp.num) (Nat.ble (so + (sl + xl) * i.size) bs.size)
                    · rw [hb2] at hr; cases hr
                    · rw [hb2] at hr
                      dsimp only at hr
                      rw [Hp.putK_eq, fN_eq] at hr
                      simp only [Bool.and_eq_true, Nat.ble_eq] at hb2
                      obtain ⟨hlim, hroom⟩ := hb2
                      cases hr
                      have hso := ho2 (by omega)
                      subst hso
                      obtain ⟨w', s1, s2, s3⟩ := stores P hg2 hlim (bx.getL xo (xl * i.size)) news (so + sl * i.size) bs h.get w 0 m hd hhs (by rw [nlen]; omega) hxC nr
                      simp only [Nat.add_zero] at s2 s3
                      have hrun := run_room (P := P) ht hi o.type ⟨r2, base2 + so, none⟩ sl sc ⟨r, xo', none⟩ xl xc news w w' nl nc hfit (by rw [Addr.add_lit, Nat.add_assoc]; exact s1)
                      rw [hv2, hv, hrun] at hex
                      refine ⟨_, g, w', hex, ?_, by rw [Hp.put_get]; exact s2, by rw [Hp.put_get]; exact s3⟩
                      show V.rel g (.sl sp so i.size (sl + xl) (some sc)) _
                      rw [V.rel]
                      exact ⟨r2, base2, tot2, sc, base2 + so, hg2, rfl, h0, hfit, hcm2, fun _ => rfl, hbt2, rfl⟩
                | none =>
                  have hcap : base2 + so + sc * i.size = tot2 := hcap
                  dsimp only at hr
                  cases hfb : Nat.ble (so + (sl + xl) * i.size) bs.size
                  case true =>
                    rw [hfb] at hr
                    dsimp only at hr
                    rw [Nat.ble_eq] at hfb
                    cases hlim : Nat.ble lim sp.num
                    · rw [hlim] at hr; cases hr
                    rw [hlim] at hr
                    dsimp only at hr
                    rw [Hp.putK_eq, fN_eq] at hr
                    rw [Nat.ble_eq] at hlim
                    cases hr
                    have hfit : sl + xl ≤ sc := by
                      obtain ⟨rr, bb, tt, cur, c1, c2, c3, c4, c5, c6⟩ := m.blk sp bs hhs
                      rw [hg2] at c1
                      cases c1
                      have : (sl + xl) * i.size ≤ sc * i.size := by omega
                      exact Nat.le_of_mul_le_mul_right this h0
                    have hso := ho2 (by omega)
                    subst hso
                    obtain ⟨w', s1, s2, s3⟩ := stores P hg2 hlim (bx.getL xo (xl * i.size)) news (so + sl * i.size) bs h.get w 0 m hd hhs (by rw [nlen]; omega) hxC nr
                    simp only [Nat.add_zero] at s2 s3
                    have hrun := run_room (P := P) ht hi o.type ⟨r2, base2 + so, none⟩ sl sc ⟨r, xo', none⟩ xl xc news w w' nl nc hfit (by rw [Addr.add_lit, Nat.add_assoc]; exact s1)
                    rw [hv2, hv, hrun] at hex
                    refine ⟨_, g, w', hex, ?_, by rw [Hp.put_get]; exact s2, by rw [Hp.put_get]; exact s3⟩
                    show V.rel g (.sl sp so i.size (sl + xl) none) _
                    rw [V.rel]
                    exact ⟨r2, base2, tot2, sc, base2 + so, hg2, rfl, h0, hfit, hcm2, fun _ => rfl, hbt2, hcap⟩
                  case false =>
                  rw [hfb] at hr
                  dsimp only at hr
                  cases hlim : Nat.ble lim sp.num
                  · rw [hlim] at hr; cases hr
                  · rw [hlim] at hr
                    dsimp only at hr
                    rw [fN_eq] at hr
                    rw [Nat.ble_eq] at hlim
                    obtain ⟨gs1, gs2, gs3⟩ := grown_spec bs so (sl * i.size) (bx.getL xo (xl * i.size)) hxC (by rw [nlen]; unfold maxSize; omega)
                    rw [nlen] at gs2 gs3
                    have m1 : Mem g (h.put none sp).get w := m.sub fun p b e => by
                      have e := (Hp.get_put _ _ _ _).symm.trans e; split at e
                      · cases e
                      · exact e
                    have hd1 : Dom (h.put none sp).get n := fun p b e => by
                      have e := (Hp.get_put _ _ _ _).symm.trans e; split at e
                      · cases e
                      · exact hd p b e
                    by_cases hfit : sl + xl ≤ sc
                    · obtain ⟨p, pn, rfl, ph, pn'⟩ := newB_inv hr hn
                      subst pn'
                      have hso := ho2 (by omega)
                      subst hso
                      obtain ⟨rr, bb, tt, cur, c1, c2, c3, c4, c5, c6⟩ := m.blk sp bs hhs
                      rw [hg2] at c1
                      cases c1
                      have hp0 : g p = none := hf p (by omega) (by omega)
                      have hscm : (sl + xl) * i.size ≤ sc * i.size := Nat.mul_le_mul_right _ hfit
                      obtain ⟨w', s1, s2, s3⟩ := app_in (P := P) (lim := lim) (so := so) (k := sl * i.size) m hd pn hp0 hhs hlim hg2 (c2.row (.inr (by omega))) c3 news gs1 (by rw [gs2]; omega) (by rw [gs2]; unfold maxSize; omega) (by omega)
                        (fun j hj => by
                          obtain ⟨u, d1, d2, d3⟩ := c6 (so + j) (by omega)
                          refine ⟨u, by rw [Nat.add_assoc]; exact d1, d2, ?_⟩
                          rw [gs3 j (by omega), if_pos hj]; exact d3)
                        (fun j hj => by
                          rw [nl] at hj
                          have hjr := L.rel_get j nr
                          have hone := allC_one hxC nr (news.getD j undef) (by
                            rw [List.getD, List.getElem?_eq_getElem (by omega)]; simp)
                          refine ⟨news.getD j undef, by simp [List.getD, List.getElem?_eq_getElem (show j < news.length by omega)], hone, ?_⟩
                          rw [gs3 (sl * i.size + j) (by omega), if_neg (by omega), show sl * i.size + j - sl * i.size = j by omega]; exact hjr)
                      have hrun := run_room (P := P) ht hi o.type ⟨r2, base2 + so, none⟩ sl sc ⟨r, xo', none⟩ xl xc news w w' nl nc hfit (by rw [Addr.add_lit]; exact s1)
                      rw [hv2, hv, hrun] at hex
                      rw [ph, Hp.put_get]
                      refine ⟨_, _, w', hex, ?_, s2, s3⟩
                      show V.rel _ (.sl p 0 i.size (sl + xl) none) _
                      rw [V.rel]
                      exact ⟨r2, base2 + so, tot2, sc, base2 + so, by simp [gput], rfl, h0, hfit, hcm2, fun _ => rfl, by omega, by omega⟩
                    · have hlt : sc < sl + xl := by omega
                      have hrun := run_append_grow (P := P) w t o.type el i zv ht hi hz ⟨r2, so', none⟩ sl sc olds ol oc ⟨r, xo', none⟩ xl xc news nl nc hlt (by omega) (growslice_fits hlt hsb)
                      rw [hv2, hv, hrun] at hex
                      obtain ⟨g', nx, m', f'⟩ := newGrown (lim := lim) (el := el) (i := i) (k := sl + xl) (w := w.drew) (h := h.put none sp) (gs1.trans hel) m1.drew hd1 hf hn h0 hr (olds ++ news) (Builtin.zeroCells zv.cells (grownCap w (sl + xl) sc el - (sl + xl))).toList (grownCap w (sl + xl) sc el) hgg hgc (grow_len _ _ hgg _ hall) (by rw [gs2]; omega) (by rw [gs2]; unfold maxSize; omega) (fun j hj => by
                        rw [gs2] at hj
                        rw [gs3 j hj]
                        by_cases hjk : j < sl * i.size
                        · rw [if_pos hjk]
                          have hjr := L.rel_get j or_
                          rw [getL_get bs _ so j hjk] at hjr
                          have hone := oone (olds.getD j undef) (by rw [List.getD, List.getElem?_eq_getElem (by omega)]; simp)
                          exact ⟨olds.getD j undef, by rw [List.getElem?_append_left (by omega)]; simp [List.getD, List.getElem?_eq_getElem (show j < olds.length by omega)], hone, hjr⟩
                        · rw [if_neg hjk]
                          have hjr := L.rel_get (j - sl * i.size) nr
                          have hone := allC_one hxC nr (news.getD (j - sl * i.size) undef) (by rw [List.getD, List.getElem?_eq_getElem (by omega)]; simp)
                          refine ⟨news.getD (j - sl * i.size) undef, ?_, hone, hjr⟩
                          rw [List.getElem?_append_right (by omega), ol]
                          simp [List.getD, List.getElem?_eq_getElem (show j - sl * i.size < news.length by omega)])
                      rw [eA] at m' f'
                      have fsub : Fr lim n g h.get w n' g' h'.get (w.drew.alloc (.cells (olds.toArray ++ news.toArray ++ Builtin.zeroCells zv.cells (grownCap w (sl + xl) sc el - (sl + xl))) el)) := by
                        have f1 := (Fr.drew (lim := lim) hd1 (g := g) (w := w)).trans f'
                        have sub : ∀ p b, (h.put none sp).get p = some b → h.get p = some b := by
                          intro p b e
                          have e := (Hp.get_put _ _ _ _).symm.trans e; split at e
                          · cases e
                          · exact e
                        exact { f1 with
                          keep := fun r hr hW => f1.keep r hr fun p b base tot hp => hW p b base tot (sub p b hp)
                          dom := fun p b e => ⟨fun hp => let ⟨b', hb'⟩ := (f1.dom p b e).1 hp; ⟨b', sub p b' hb'⟩, (f1.dom p b e).2⟩
                          new := fun p r base tot a b e => (f1.new p r base tot a b e).imp id fun ⟨q, b, x, y, hq, hql, hge⟩ => ⟨q, b, x, y, sub q b hq, hql, hge⟩ }
                      exact ⟨_, g', _, hex, nx, m', fsub⟩
          all_goals cases hr
  all_goals cases hr
end
end Go.Proofs.Ythgaekbcmhbbgaa.Ev
/- max, min, and slices of arrays. -/
namespace Go.Proofs.Ythgaekbcmhbbgaa.Ev
set_option linter.unusedVariables false
open Go

noncomputable def mm2 (mx : Bool) (x y : V) : V :=
  onNN x y (fun a b => Bool.rec (Bool.rec (.n a) (.n b) (Nat.blt b a)) (Bool.rec (.n a) (.n b) (Nat.blt a b)) mx)
    (onK x (fun k a => onK y (fun _ b => mkI k (if mx then (if b > a then b else a) else (if b < a then b else a))) .bad) .bad)
noncomputable def mmL (mx : Bool) : V → L → V
  | x, .nil => x
  | x, .cons y l => mmL mx (mm2 mx x y) l
theorem mm2_sound (P : Program) (w : World) (g : Sig) (mx : Bool) {x y : V} {a b : Value} (ha : x.rel g a) (hb : y.rel g b) (h : mm2 mx x y ≠ .bad) :
    ∃ u, ((if mx then Builtin.max2 else Builtin.min2) a b).run P w = .ok u w ∧ (mm2 mx x y).rel g u := by
  have slow : onK x (fun k a => onK y (fun _ b => mkI k (if mx then (if b > a then b else a) else (if b < a then b else a))) .bad) .bad ≠ .bad →
      ∃ u, ((if mx then Builtin.max2 else Builtin.min2) a b).run P w = .ok u w ∧ (onK x (fun k a => onK y (fun _ b => mkI k (if mx then (if b > a then b else a) else (if b < a then b else a))) .bad) .bad).rel g u := by
    intro h
    rcases onK_or ha (fun k a => onK y (fun _ b => mkI k (if mx then (if b > a then b else a) else (if b < a then b else a))) .bad) .bad with ⟨k, z, rfl, e⟩ | e
    · rw [e] at h ⊢
      rcases onK_or hb (fun _ b => mkI k (if mx then (if b > z then b else z) else (if b < z then b else z))) .bad with ⟨k', z', rfl, e'⟩ | e'
      · rw [e']
        exact ⟨.int k (if mx then (if z' > z then z' else z) else (if z' < z then z' else z)), by cases mx <;> simp [Builtin.max2, Builtin.min2], mkI_rel g _ _⟩
      · rw [e'] at h; exact absurd rfl h
    · rw [e] at h; exact absurd rfl h
  unfold mm2 onNN at h ⊢
  rcases onN_or x (fun a => onN y (fun b => (Bool.rec (Bool.rec (.n a) (.n b) (Nat.blt b a)) (Bool.rec (.n a) (.n b) (Nat.blt a b)) mx : V)) (onK x (fun k a => onK y (fun _ b => mkI k (if mx then (if b > a then b else a) else (if b < a then b else a))) .bad) .bad))
    (onK x (fun k a => onK y (fun _ b => mkI k (if mx then (if b > a then b else a) else (if b < a then b else a))) .bad) .bad) with ⟨p, hp, e⟩ | e
  · rw [e] at h ⊢
    rcases onN_or y (fun b => (Bool.rec (Bool.rec (.n p) (.n b) (Nat.blt b p)) (Bool.rec (.n p) (.n b) (Nat.blt p b)) mx : V)) (onK x (fun k a => onK y (fun _ b => mkI k (if mx then (if b > a then b else a) else (if b < a then b else a))) .bad) .bad) with ⟨q, hq, e'⟩ | e'
    · rw [e']
      rw [hp, V.rel] at ha
      rw [hq, V.rel] at hb
      cases mx
      · refine ⟨.int .i64 (if (q : Int) < p then q else p), by simp [Builtin.min2, ha.1, hb.1], ?_⟩
        show V.rel g (Bool.rec (.n p) (.n q) (Nat.blt q p)) _
        cases hlt : Nat.blt q p
        · have : ¬ q < p := by rw [← Nat.blt_eq, hlt]; simp
          rw [if_neg (by omega)]; exact rel_n g ha.2 rfl
        · rw [Nat.blt_eq] at hlt; rw [if_pos (by omega)]; exact rel_n g hb.2 rfl
      · refine ⟨.int .i64 (if (q : Int) > p then q else p), by simp [Builtin.max2, ha.1, hb.1], ?_⟩
        show V.rel g (Bool.rec (.n p) (.n q) (Nat.blt p q)) _
        cases hlt : Nat.blt p q
        · have : ¬ p < q := by rw [← Nat.blt_eq, hlt]; simp
          rw [if_neg (by omega)]; exact rel_n g ha.2 rfl
        · rw [Nat.blt_eq] at hlt; rw [if_pos (by omega)]; exact rel_n g hb.2 rfl
    · rw [e'] at h ⊢; exact slow h
  · rw [e] at h ⊢; exact slow h
theorem mm2_bad (mx : Bool) (y : V) : mm2 mx .bad y = .bad := rfl
theorem mmL_bad (mx : Bool) : ∀ l, mmL mx .bad l = .bad
  | .nil => rfl
  | .cons y l => by show mmL mx (mm2 mx .bad y) l = _; rw [mm2_bad, mmL_bad]
theorem mmL_sound (P : Program) (w : World) (g : Sig) (mx : Bool) : ∀ (l : L) (x : V) (a : Value) (us : List Value), x.rel g a → l.rel g us → mmL mx x l ≠ .bad →
    ∃ u, (us.foldlM (if mx then Builtin.max2 else Builtin.min2) a).run P w = .ok u w ∧ (mmL mx x l).rel g u
  | .nil, x, a, us, hx, hl, _ => by rw [L.rel] at hl; subst hl; exact ⟨a, rfl, hx⟩
  | .cons y l, x, a, us, hx, hl, h => by
    rw [L.rel] at hl
    obtain ⟨u, us, rfl, h2, h3⟩ := hl
    have h : mmL mx (mm2 mx x y) l ≠ .bad := h
    have hne : mm2 mx x y ≠ .bad := by intro e; rw [e, mmL_bad] at h; exact h rfl
    obtain ⟨v, r1, r2⟩ := mm2_sound P w g mx hx h2 hne
    obtain ⟨z, r3, r4⟩ := mmL_sound P w g mx l _ v us r2 h3 h
    exact ⟨z, by rw [List.foldlM_cons, Sem.run_bind, r1, Result.andThen_ok, r3], r4⟩

section
variable {P : Program} {o : Oper}
noncomputable def evMm (mx : Bool) (x : X) (xs : XL) (e : Tr) (_ : Nat) (h : Hp) (n : Nat) : Res := pv (mmL mx (evX x e) (evXL xs e)) h n
theorem ok_mm {mx : Bool} {ox : Operand} {os : List Operand} {ats : Array TypeId} {x : X} {xs : XL} (hx : compX ox = some x) (hs : compXL os = some xs) (ho : o.op = .call { callee := .builtin (if mx then .max else .min), args := (ox :: os).toArray, argTypes := ats }) : OpOK P o (evMm mx x xs) :=
  ok_pure (val := fun e => mmL mx (evX x e) (evXL xs e)) fun e g ρ w he hne => by
    obtain ⟨u, h1, h2⟩ := mmL_sound P w g mx (evXL xs e) (evX x e) (ρ ox) (os.map ρ) (he ox x hx) (evXL_rel he os hs) hne
    refine ⟨u, ?_, h2⟩
    cases mx
    · have h1 : (os.map ρ |>.foldlM Builtin.min2 (ρ ox)).run P w = .ok u w := h1
      simp [execOp, ho, resolve, invoke, builtin, Builtin.min_, h1]
    · have h1 : (os.map ρ |>.foldlM Builtin.max2 (ρ ox)).run P w = .ok u w := h1
      simp [execOp, ho, resolve, invoke, builtin, Builtin.max_, h1]

noncomputable def evCap (x : X) (e : Tr) (_ : Nat) (h : Hp) (n : Nat) : Res := pv (onS (evX x e) (fun _ _ _ _ c => Option.rec .bad (fun c => .n c) c) (.n 0) .bad) h n
theorem ok_cap {t : TypeId} {el : TypeId} {ox : Operand} {x : X} (hx : compX ox = some x) (ht : P.underlying t = some (.slice el)) (ho : o.op = .call { callee := .builtin .cap, args := #[ox], argTypes := #[t] }) : OpOK P o (evCap x) :=
  ok_pure (val := fun e => onS (evX x e) (fun _ _ _ _ c => Option.rec .bad (fun c => .n c) c) (.n 0) .bad) fun e g ρ w he hne => by
    have rx := he ox x hx
    rcases onS_or (evX x e) (fun _ _ _ _ (c : Option Nat) => (Option.rec .bad (fun c => .n c) c : V)) (.n 0) .bad with ⟨a, off, e', l, c, h1, h2⟩ | ⟨h1, h2⟩ | h2
    · rw [h2] at hne ⊢
      rw [h1, V.rel] at rx
      obtain ⟨r, base, tot, c', o', hg, hv, hesz, hlc, hcm, ho', _, hc⟩ := rx
      cases c with
      | none => exact absurd rfl hne
      | some c =>
        have hc : c' = c := hc
        subst hc
        have hm : c' < 9223372036854775808 := by unfold maxLen at hcm; omega
        exact ⟨.int .i64 c', by simp [execOp, ho, resolve, invoke, builtin, Builtin.cap_, run_underlying ht, hv, goInt], rel_n g hm rfl⟩
    · rw [h2]
      rw [h1, V.rel] at rx
      exact ⟨.int .i64 0, by simp [execOp, ho, resolve, invoke, builtin, Builtin.cap_, run_underlying ht, rx, goInt], rel_n g (by omega) rfl⟩
    · rw [h2] at hne; exact absurd rfl hne

/-! A slice of an array behind its address. -/
noncomputable def evSla (len esz : Nat) (x : X) (xl xh xm : Option X) (e : Tr) (_ : Nat) (h : Hp) (n : Nat) : Res :=
  onP (evX x e) (fun a off => Option.rec .no (fun b => Bool.rec .no
    (pv (onO xl e 0 fun l => onO xh e len fun h => onO xm e len fun m => Bool.rec .bad (fN (Nat.add off (Nat.mul l esz)) fun o' => fN (Nat.sub h l) fun k => fN (Nat.sub m l) fun c => .sl a o' esz k (some c)) (and (Nat.ble l h) (and (Nat.ble h m) (Nat.ble m len)))) h n)
    (and (Nat.blt 0 b.size) (Nat.ble (Nat.add off (Nat.mul len esz)) b.size))) (h.get a)) .no
theorem ok_sla {t el : TypeId} {len : Nat} {i : TypeInfo} {ox : Operand} {x : X} {ol oh om : Option Operand} {xl xh xm : Option X} (hx : compX ox = some x) (hxl : compXO ol = some xl) (hxh : compXO oh = some xh) (hxm : compXO om = some xm)
    (hoh : om.isSome = true → oh.isSome = true) (ht : P.underlying t = some (.array len el)) (hi : P.info? el = some i) (h0 : 0 < i.size) (ho : o.op = .slice t ox ol oh om) : OpOK P o (evSla len i.size x xl xh xm) := by
  intro e lim h n v h' n' hr ρ g w he m hd hf hn
  have rx := he ox x hx
  unfold evSla at hr
  cases hxv : evX x e <;> rw [hxv] at hr rx <;> dsimp only [onP, V.asP] at hr
  case p a off =>
    rw [V.rel] at rx
    obtain ⟨r, base, tot, hg, hv⟩ := rx
    cases hh : h.get a with
    | none => rw [hh] at hr; cases hr
    | some b =>
      rw [hh] at hr
      dsimp only at hr
      cases hb : and (Nat.blt 0 b.size) (Nat.ble (Nat.add off (Nat.mul len i.size)) b.size)
      · rw [hb] at hr; cases hr
      · rw [hb] at hr
        dsimp only at hr
        have hb : 0 < b.size ∧ off + len * i.size ≤ b.size := by simp only [Bool.and_eq_true, Nat.blt_eq, Nat.ble_eq] at hb; exact hb
        obtain ⟨hne, rfl, rfl, rfl⟩ := pv_ok hr
        obtain ⟨r', base', tot', cur, b1, b2, b3, b4, b5, _⟩ := m.blk a b hh
        rw [hg] at b1
        cases b1
        clear hr
        rcases onO_or he hxl 0 (fun l => onO xh e len fun h => onO xm e len fun m => (Bool.rec .bad (fN (Nat.add off (Nat.mul l i.size)) fun o' => fN (Nat.sub h l) fun k => fN (Nat.sub m l) fun c => .sl a o' i.size k (some c)) (and (Nat.ble l h) (and (Nat.ble h m) (Nat.ble m len))) : V)) with ⟨l, l1, l2, l3⟩ | l3
        · rw [l3] at hne ⊢
          rcases onO_or he hxh len (fun h => onO xm e len fun m => (Bool.rec .bad (fN (Nat.add off (Nat.mul l i.size)) fun o' => fN (Nat.sub h l) fun k => fN (Nat.sub m l) fun c => .sl a o' i.size k (some c)) (and (Nat.ble l h) (and (Nat.ble h m) (Nat.ble m len))) : V)) with ⟨hi', h3, h4, h5⟩ | h5
          · rw [h5] at hne ⊢
            rcases onO_or he hxm len (fun m => (Bool.rec .bad (fN (Nat.add off (Nat.mul l i.size)) fun o' => fN (Nat.sub hi' l) fun k => fN (Nat.sub m l) fun c => .sl a o' i.size k (some c)) (and (Nat.ble l hi') (and (Nat.ble hi' m) (Nat.ble m len))) : V)) with ⟨mx, m1, m2, m3⟩ | m3
            · rw [m3] at hne ⊢
              cases hbb : and (Nat.ble l hi') (and (Nat.ble hi' mx) (Nat.ble mx len))
              · rw [hbb] at hne; exact absurd rfl hne
              · simp only [Bool.and_eq_true, Nat.ble_eq] at hbb
                obtain ⟨c1, c2, c3⟩ := hbb
                have hbd := run_bounds (P := P) w false len len ol oh om l hi' mx l2 h4 m2 hoh c1 c2 c3
                refine ⟨.value (.slice (some (if mx = l then (⟨r, base + off, none⟩ : Addr) else (⟨r, base + off, none⟩ : Addr).add (l * i.size))) (hi' - l) (mx - l)), g, w, ?_, ?_, m, Fr.refl hd⟩
                · simp only [execOp, ho, hv, Instr.sliceAt, Sem.run_bind, run_underlying ht, Result.andThen_ok, Instr.sureAddr, l1, h3, m1, hbd, sizeOf, typeInfo, run_program, hi, Sem.run_pure]
                · show V.rel g (fN (off + l * i.size) fun o' => fN (hi' - l) fun k => fN (mx - l) fun c => .sl a o' i.size k (some c)) _
                  rw [fN_eq, fN_eq, fN_eq]
                  have hlen : len ≤ len * i.size := Nat.le_mul_of_pos_right _ h0
                  have := sl_rel (cap := some (mx - l)) hg len (off := off) (l := l) (k := hi' - l) (c := mx - l) (o' := base + off) h0 (by omega) (by omega) (by omega) (by unfold maxLen; unfold maxSize at b5; omega) (fun _ => rfl) (by omega) rfl
                  rw [show l + (mx - l) = mx by omega] at this
                  rw [Addr.add_lit]
                  by_cases hml : mx = l
                  · rw [if_pos hml] at this ⊢; exact this
                  · rw [if_neg hml] at this ⊢; exact this
            · rw [m3] at hne; exact absurd rfl hne
          · rw [h5] at hne; exact absurd rfl hne
        · rw [l3] at hne; exact absurd rfl hne
  all_goals cases hr
end
end Go.Proofs.Ythgaekbcmhbbgaa.Ev
/- Structs and arrays compared: the model answers as the evaluator. -/
namespace Go.Proofs.Ythgaekbcmhbbgaa.Ev
set_option linter.unusedVariables false
open Go

mutual
inductive Sh where
  | int | bool | st (fs : ShL) | ar (len sz : Nat) (agg : Bool) (e : Sh)
inductive ShL where
  | nil | cons (off sz : Nat) (agg : Bool) (sh : Sh) (l : ShL)
end

noncomputable def andV (r : V) (z : V) : V := onB r (fun t => Bool.rec (.b false) z t) .bad
noncomputable def eqAr (f : V → V → V) (sz : Nat) (agg : Bool) (l m : L) : Nat → Nat → V
  | 0, _ => .b true
  | k + 1, i => andV (f (partV (i * sz) sz agg l) (partV (i * sz) sz agg m)) (eqAr f sz agg l m k (i + 1))
mutual
noncomputable def eqSh : Sh → V → V → V
  | .int, x, y => binV .eql x y
  | .bool, x, y => onB x (fun a => onB y (fun b => fB (a == b)) .bad) .bad
  | .st fs, x, y => onA x (fun l => onA y (fun m => eqFs fs l m) .bad) .bad
  | .ar len sz agg e, x, y => onA x (fun l => onA y (fun m => eqAr (eqSh e) sz agg l m len 0) .bad) .bad
noncomputable def eqFs : ShL → L → L → V
  | .nil, _, _ => .b true
  | .cons off sz agg sh fs, l, m => andV (eqSh sh (partV off sz agg l) (partV off sz agg m)) (eqFs fs l m)
end

def compFs (P : Program) (c : TypeId → Option Sh) : List Field → Option ShL
  | [] => some .nil
  | f :: fs => if f.name = "_" then compFs P c fs else match P.info? f.type, P_isAgg P f.type, c f.type, compFs P c fs with
    | some i, some agg, some sh, some l => some (.cons f.offset i.size agg sh l)
    | _, _, _, _ => none
def compSh (P : Program) : Nat → TypeId → Option Sh
  | 0, _ => none
  | f + 1, t => match P.underlying t with
    | some (.int _) => some .int
    | some .bool => some .bool
    | some (.struct fs) => if P.stoodInHeld t = true then none else (compFs P (compSh P f) fs.toList).map .st
    | some (.array len el) => match P.info? el, P_isAgg P el, compSh P f el with
      | some i, some agg, some sh => some (.ar len i.size agg sh)
      | _, _, _ => none
    | _ => none

theorem andV_b {r z : V} {t : Bool} (h : andV r z = .b t) : (r = .b false ∧ t = false) ∨ (r = .b true ∧ z = .b t) := by
  unfold andV at h
  cases r <;> dsimp only [onB, V.asB] at h
  case b x => cases x
              · cases h; exact .inl ⟨rfl, rfl⟩
              · exact .inr ⟨rfl, h⟩
  all_goals cases h

theorem binEq_ints {g : Sig} {x y : V} {a b : Value} (ha : x.rel g a) (hb : y.rel g b) {r : Bool} (h : binV .eql x y = .b r) : ∃ k p q, a = .int k p ∧ b = .int k q ∧ r = (p == q) := by
  have slow : slowB .eql x y = .b r → ∃ k p q, a = .int k p ∧ b = .int k q ∧ r = (p == q) := by
    intro h
    have h : onK x (fun k a => onK y (fun k' b => if k = k' then slowI .eql k a b else .bad) .bad) .bad = .b r := h
    rcases onK_or ha (fun k a => onK y (fun k' b => if k = k' then slowI .eql k a b else .bad) .bad) .bad with ⟨k, z, rfl, e⟩ | e
    · rw [e] at h
      rcases onK_or hb (fun k' b => if k = k' then slowI .eql k z b else .bad) .bad with ⟨k', z', rfl, e'⟩ | e'
      · rw [e'] at h
        split at h
        · rename_i hk
          subst hk
          have h : fB (z == z') = .b r := h
          rw [fB_eq] at h
          cases h
          exact ⟨k, z, z', rfl, rfl, rfl⟩
        · cases h
      · rw [e'] at h; cases h
    · rw [e] at h; cases h
  have h : onNN x y (fun a b => fB (Nat.beq a b)) (slowB .eql x y) = .b r := (binV_eq .eql x y).symm.trans h
  unfold onNN at h
  rcases onN_or x (fun a => onN y (fun b => fB (Nat.beq a b)) (slowB .eql x y)) (slowB .eql x y) with ⟨p, hp, e⟩ | e
  · rw [e] at h
    rcases onN_or y (fun b => fB (Nat.beq p b)) (slowB .eql x y) with ⟨q, hq, e'⟩ | e'
    · rw [e', fB_eq] at h
      cases h
      rw [hp, V.rel] at ha
      rw [hq, V.rel] at hb
      refine ⟨.i64, p, q, ha.1, hb.1, ?_⟩
      rw [Bool.eq_iff_iff]; simp [Nat.beq_eq]; omega
    · rw [e'] at h; exact slow h
  · rw [e] at h; exact slow h

section
variable {P : Program} {w : World} {g : Sig}

theorem eqSh_ne {sh : Sh} {x y : V} {r : Bool} (h : eqSh sh x y = .b r) : x ≠ .bad ∧ y ≠ .bad := by
  have h1 : ∀ y, binV .eql .bad y = .bad := fun y => rfl
  have h2 : ∀ x, binV .eql x .bad = .bad := fun x => by rw [binV_eq]; cases x <;> rfl
  constructor
  · rintro rfl
    cases sh <;> rw [eqSh] at h
    · rw [h1] at h; cases h
    all_goals cases h
  · rintro rfl
    cases sh <;> rw [eqSh] at h
    · rw [h2] at h; cases h
    all_goals (cases x <;> cases h)

/-- What is said of a shape at a depth. -/
def ShOK (P : Program) (w : World) (g : Sig) (f : Nat) (t : TypeId) (sh : Sh) : Prop := ∀ d, f ≤ d → ∀ x y a b r, V.rel g x a → V.rel g y b → eqSh sh x y = .b r → (Op.equalIn d t a b).run P w = .ok r w

theorem eqFs_sound {f d : Nat} (hfd : f ≤ d) {c : TypeId → Option Sh} (hc : ∀ t sh, c t = some sh → ShOK P w g f t sh) {l m : L} {xs ys : List Value} (hl : l.rel g xs) (hm : m.rel g ys) : ∀ (fs : List Field) (q : ShL), compFs P c fs = some q → ∀ r, eqFs q l m = .b r →
    (Op.eqFields d ⟨xs⟩ ⟨ys⟩ fs).run P w = .ok r w
  | [], q, h, r, he => by
    simp only [compFs, Option.some.injEq] at h
    subst h
    rw [eqFs] at he
    cases he; rfl
  | fl :: fs, q, h, r, he => by
    rw [compFs] at h
    rw [Op.eqFields]
    split at h
    · rename_i hn
      rw [if_neg (by simpa using hn)]
      exact eqFs_sound hfd hc hl hm fs q h r he
    · rename_i hn
      rw [if_pos hn]
      split at h
      case h_2 => cases h
      rename_i i agg sh q' h1 h2 h3 h4
      cases h
      rw [eqFs] at he
      have one : ∀ s, eqSh sh (partV fl.offset i.size agg l) (partV fl.offset i.size agg m) = .b s → ∃ a b, (part fl.type ⟨xs⟩ fl.offset).run P w = .ok a w ∧ (part fl.type ⟨ys⟩ fl.offset).run P w = .ok b w ∧ (Op.equalIn d fl.type a b).run P w = .ok s w := by
        intro s hs
        obtain ⟨n1, n2⟩ := eqSh_ne hs
        obtain ⟨a, a1, a2⟩ := partV_run h1 h2 hl fl.offset w n1
        obtain ⟨b, b1, b2⟩ := partV_run h1 h2 hm fl.offset w n2
        exact ⟨a, b, a1, b1, hc _ _ h3 d hfd _ _ a b s a2 b2 hs⟩
      rcases andV_b he with ⟨e1, rfl⟩ | ⟨e1, e2⟩
      · obtain ⟨a, b, r1, r2, r3⟩ := one _ e1
        simp only [Sem.run_bind, r1, r2, r3, Result.andThen_ok]
        rfl
      · obtain ⟨a, b, r1, r2, r3⟩ := one _ e1
        simp only [Sem.run_bind, r1, r2, r3, Result.andThen_ok]
        exact eqFs_sound hfd hc hl hm fs q' h4 r e2

theorem run_loopB (body : Nat → Sem Bool) {sz : Nat} {agg : Bool} {sh : Sh} {l m : L} (hb : ∀ i s, eqSh sh (partV (i * sz) sz agg l) (partV (i * sz) sz agg m) = .b s → (body i).run P w = .ok s w) : ∀ (k i : Nat) (r : Bool), eqAr (eqSh sh) sz agg l m k i = .b r →
    (forIn (List.range' i k) ((none : Option Bool), ()) (fun i __s => do
            let __do_lift ← body i
            if __do_lift = false then pure (ForInStep.done (some false, ())) else pure (ForInStep.yield (none, ()))) : Sem (Option Bool × Unit)).run P w = .ok (if r then (none, ()) else (some false, ())) w
  | 0, i, r, h => by rw [eqAr] at h; cases h; rfl
  | k + 1, i, r, h => by
    rw [eqAr] at h
    rw [List.range'_succ, List.forIn_cons]
    rcases andV_b h with ⟨e1, rfl⟩ | ⟨e1, e2⟩
    · simp only [Sem.run_bind, hb i _ e1, Result.andThen_ok]
      rfl
    · simp only [Sem.run_bind, hb i _ e1, Result.andThen_ok]
      exact run_loopB body hb k (i + 1) r e2

theorem compSh_sound : ∀ (f : Nat) (t : TypeId) (sh : Sh), compSh P f t = some sh → ShOK P w g f t sh
  | 0, t, sh, h => by cases h
  | f + 1, t, sh, h => by
    intro d hd x y a b r ha hb he
    obtain ⟨d, rfl⟩ : ∃ d', d = d' + 1 := ⟨d - 1, by omega⟩
    rw [compSh] at h
    split at h
    · rename_i k hk
      cases h
      rw [eqSh] at he
      obtain ⟨k', p, q, rfl, rfl, rfl⟩ := binEq_ints ha hb he
      exact run_equalIn_int w d t k' k p q hk
    · rename_i hk
      cases h
      rw [eqSh] at he
      rcases onB_or x (fun a => onB y (fun b => fB (a == b)) .bad) .bad with ⟨p, hp, e⟩ | e
      · rw [e] at he
        rcases onB_or y (fun b => fB (p == b)) .bad with ⟨q, hq, e2⟩ | e2
        · rw [e2, fB_eq] at he
          cases he
          rw [hp, V.rel] at ha
          rw [hq, V.rel] at hb
          subst ha hb
          exact run_equalIn_bool' w d t p q hk
        · rw [e2] at he; cases he
      · rw [e] at he; cases he
    · rename_i fs hk
      split at h
      · cases h
      · rename_i hst
        rw [Option.map_eq_some_iff] at h
        obtain ⟨q, hq, rfl⟩ := h
        rw [eqSh] at he
        rcases onA_or x (fun l => onA y (fun m => eqFs q l m) .bad) .bad with ⟨l, hl, e⟩ | e
        · rw [e] at he
          rcases onA_or y (fun m => eqFs q l m) .bad with ⟨m, hm, e2⟩ | e2
          · rw [e2] at he
            rw [hl, V.rel] at ha
            rw [hm, V.rel] at hb
            obtain ⟨xs, rfl, hxs⟩ := ha
            obtain ⟨ys, rfl, hys⟩ := hb
            have hF : P.fieldsOf t = fs := by simp [Program.fieldsOf, hk]
            rw [run_equalIn_struct w d t ⟨xs⟩ ⟨ys⟩ (by rw [hF]; exact hk) (by simpa using hst), hF]
            exact eqFs_sound (by omega) (fun t sh h => compSh_sound f t sh h) hxs hys fs.toList q hq r he
          · rw [e2] at he; cases he
        · rw [e] at he; cases he
    · rename_i len el hk
      split at h
      case h_2 => cases h
      rename_i i agg sh' h1 h2 h3
      cases h
      rw [eqSh] at he
      rcases onA_or x (fun l => onA y (fun m => eqAr (eqSh sh') i.size agg l m len 0) .bad) .bad with ⟨l, hl, e⟩ | e
      · rw [e] at he
        rcases onA_or y (fun m => eqAr (eqSh sh') i.size agg l m len 0) .bad with ⟨m, hm, e2⟩ | e2
        · rw [e2] at he
          rw [hl, V.rel] at ha
          rw [hm, V.rel] at hb
          obtain ⟨xs, rfl, hxs⟩ := ha
          obtain ⟨ys, rfl, hys⟩ := hb
          have hl := run_loopB (P := P) (w := w) (fun j => do Op.equalIn d el (← part el ⟨xs⟩ (j * i.size)) (← part el ⟨ys⟩ (j * i.size))) (fun j s hs => by
            obtain ⟨n1, n2⟩ := eqSh_ne hs
            obtain ⟨a, a1, a2⟩ := partV_run h1 h2 hxs (j * i.size) w n1
            obtain ⟨b, b1, b2⟩ := partV_run h1 h2 hys (j * i.size) w n2
            simp only [Sem.run_bind, a1, b1, Result.andThen_ok]
            exact compSh_sound f el sh' h3 d (by omega) _ _ a b s a2 b2 hs) len 0 r he
          simp only [Op.equalIn, Sem.run_bind, run_underlying hk, Result.andThen_ok, sizeOf, typeInfo, run_program, h1, Sem.run_pure]
          simp only [bind_assoc] at hl
          simp
          rw [hl]; cases r <;> rfl
        · rw [e2] at he; cases he
      · rw [e] at he; cases he
    · cases h
variable {o : Oper}
noncomputable def negV (neg : Bool) (v : V) : V := onB v (fun t => Bool.rec (fB t) (Bool.rec (.b true) (.b false) t) neg) .bad
noncomputable def evEqa (neg : Bool) (sh : Sh) (x y : X) (e : Tr) (_ : Nat) (h : Hp) (n : Nat) : Res := pv (negV neg (eqSh sh (evX x e) (evX y e))) h n
theorem ok_eqa {neg : Bool} {t t' : TypeId} {sh : Sh} {ox oy : Operand} {x y : X} (hx : compX ox = some x) (hy : compX oy = some y) (ht : (∃ fs, P.underlying t = some (.struct fs)) ∨ ∃ len el, P.underlying t = some (.array len el)) (hs : compSh P 20 t = some sh)
    (hg : P.eqGuardType P.depth t = false) (ho : o.op = .binOp (if neg then .neq else .eql) t ox oy t') : OpOK P o (evEqa neg sh x y) :=
  ok_pure (val := fun e => negV neg (eqSh sh (evX x e) (evX y e))) fun e g ρ w he hne => by
    have rx := he ox x hx
    have ry := he oy y hy
    unfold negV at hne ⊢
    rcases onB_or (eqSh sh (evX x e) (evX y e)) (fun t => (Bool.rec (fB t) (Bool.rec (.b true) (.b false) t) neg : V)) .bad with ⟨r, h1, h2⟩ | h2
    · rw [h2]
      have hrun := compSh_sound (P := P) (w := w) (g := g) 20 t sh hs 10000 (by omega) _ _ _ _ r rx ry h1
      have hagg : ∃ xs ys, ρ ox = .agg xs ∧ ρ oy = .agg ys := by
        have hcase : (∃ q, sh = .st q) ∨ ∃ a b c d, sh = .ar a b c d := by
          rw [compSh] at hs
          rcases ht with ⟨fs, hf⟩ | ⟨len, el, hf⟩ <;> rw [hf] at hs <;> dsimp only at hs
          · split at hs
            · cases hs
            · rw [Option.map_eq_some_iff] at hs
              obtain ⟨q, _, rfl⟩ := hs
              exact .inl ⟨q, rfl⟩
          · split at hs
            · cases hs; exact .inr ⟨_, _, _, _, rfl⟩
            · cases hs
        have : ∃ l m, evX x e = .ag l ∧ evX y e = .ag m := by
          rcases hcase with ⟨q, rfl⟩ | ⟨a, b, c, d, rfl⟩ <;> rw [eqSh] at h1
          all_goals
            cases hxv : evX x e <;> rw [hxv] at h1 <;> dsimp only [onA, V.asA] at h1
            case ag l =>
              cases hyv : evX y e <;> rw [hyv] at h1 <;> dsimp only [onA, V.asA] at h1
              case ag m => exact ⟨l, m, rfl, rfl⟩
              all_goals cases h1
            all_goals cases h1
        obtain ⟨l, m, e1, e2⟩ := this
        rw [e1, V.rel] at rx
        rw [e2, V.rel] at ry
        obtain ⟨xs, h3, _⟩ := rx
        obtain ⟨ys, h4, _⟩ := ry
        exact ⟨_, _, h3, h4⟩
      obtain ⟨xs, ys, hxs, hys⟩ := hagg
      rw [hxs, hys] at hrun
      cases neg
      · have ho : o.op = .binOp .eql t ox oy t' := ho
        refine ⟨.bool r, ?_, by show V.rel g (fB r) _; rw [fB_eq]; rfl⟩
        simp only [execOp, ho, hxs, hys, Sem.run_bind, run_eqGuard_agg w .eql t ox oy xs ys hg, run_eql_struct, hrun, Result.andThen_ok, Sem.run_pure]
      · have ho : o.op = .binOp .neq t ox oy t' := ho
        refine ⟨.bool (!r), ?_, by cases r <;> rfl⟩
        simp only [execOp, ho, hxs, hys, Sem.run_bind, run_eqGuard_agg w .neq t ox oy xs ys hg, run_neq_struct, hrun, Result.andThen_ok, Sem.run_pure]
    · rw [h2] at hne; exact absurd rfl hne


/-! Against nil. -/
noncomputable def nilEq (x y : V) : V := onS (β := V) x (fun _ _ _ _ _ => onS (β := V) y (fun _ _ _ _ _ => .bad) (.b false) .bad) (onS (β := V) y (fun _ _ _ _ _ => .b false) (.b true) .bad) .bad
theorem nilEq_sound {x y : V} {a b : Value} (ha : x.rel g a) (hb : y.rel g b) {r : Bool} (h : nilEq x y = .b r) :
    ∃ p n c q n' c', a = .slice p n c ∧ b = .slice q n' c' ∧ ((p = none ∧ r = q.isNone) ∨ (q = none ∧ r = p.isNone)) := by
  unfold nilEq at h
  rcases onS_or x (fun _ _ _ _ (_ : Option Nat) => onS (β := V) y (fun _ _ _ _ _ => .bad) (.b false) .bad) (onS (β := V) y (fun _ _ _ _ _ => .b false) (.b true) .bad) .bad with ⟨a1, o1, e1, l1, c1, hx, e⟩ | ⟨hx, e⟩ | e
  · rw [e] at h
    rcases onS_or y (fun _ _ _ _ (_ : Option Nat) => (.bad : V)) (.b false) .bad with ⟨a2, o2, e2, l2, c2, hy, e'⟩ | ⟨hy, e'⟩ | e'
    · rw [e'] at h; cases h
    · rw [e'] at h
      cases h
      rw [hx] at ha
      rw [hy, V.rel] at hb
      obtain ⟨p, c, hv, _⟩ := sl_len ha
      exact ⟨_, _, _, _, _, _, hv, hb, .inr ⟨rfl, rfl⟩⟩
    · rw [e'] at h; cases h
  · rw [e] at h
    rw [hx, V.rel] at ha
    rcases onS_or y (fun _ _ _ _ (_ : Option Nat) => (.b false : V)) (.b true) .bad with ⟨a2, o2, e2, l2, c2, hy, e'⟩ | ⟨hy, e'⟩ | e'
    · rw [e'] at h
      cases h
      rw [hy] at hb
      obtain ⟨p, c, hv, _⟩ := sl_len hb
      exact ⟨_, _, _, _, _, _, ha, hv, .inl ⟨rfl, rfl⟩⟩
    · rw [e'] at h
      cases h
      rw [hy, V.rel] at hb
      exact ⟨_, _, _, _, _, _, ha, hb, .inl ⟨rfl, rfl⟩⟩
    · rw [e'] at h; cases h
  · rw [e] at h; cases h
theorem run_nilSl {t el : TypeId} (ht : P.underlying t = some (.slice el)) (d : Nat) {p q : Option Addr} {n c n' c' : Nat} {r : Bool} (h : (p = none ∧ r = q.isNone) ∨ (q = none ∧ r = p.isNone)) :
    (Op.equalIn (d + 1) t (.slice p n c) (.slice q n' c')).run P w = .ok r w := by
  rcases h with ⟨rfl, rfl⟩ | ⟨rfl, rfl⟩
  · simp [Op.equalIn, run_underlying ht]
  · cases p <;> simp [Op.equalIn, run_underlying ht]
noncomputable def evEqn (neg : Bool) (x y : X) (e : Tr) (_ : Nat) (h : Hp) (n : Nat) : Res := pv (negV neg (nilEq (evX x e) (evX y e))) h n
theorem ok_eqn {neg : Bool} {t t' el : TypeId} {ox oy : Operand} {x y : X} (hx : compX ox = some x) (hy : compX oy = some y) (ht : P.underlying t = some (.slice el)) (ho : o.op = .binOp (if neg then .neq else .eql) t ox oy t') : OpOK P o (evEqn neg x y) :=
  ok_pure (val := fun e => negV neg (nilEq (evX x e) (evX y e))) fun e g ρ w he hne => by
    unfold negV at hne ⊢
    rcases onB_or (nilEq (evX x e) (evX y e)) (fun t => (Bool.rec (fB t) (Bool.rec (.b true) (.b false) t) neg : V)) .bad with ⟨r, h1, h2⟩ | h2
    · rw [h2]
      obtain ⟨p, n, c, q, n', c', hv1, hv2, hr⟩ := nilEq_sound (he ox x hx) (he oy y hy) h1
      have hrun := run_nilSl (P := P) (w := w) ht 9999 (n := n) (c := c) (n' := n') (c' := c') hr
      have hg : ∀ op, (eqGuard op t ox oy (.slice p n c) (.slice q n' c')).run P w = .ok () w := fun op => by rw [eqGuard_at_slice]; rfl
      have hb1 : (binOp .eql t (.slice p n c) (.slice q n' c')).run P w = ((Op.equalIn 10000 t (.slice p n c) (.slice q n' c')).run P w).andThen fun b w' => .ok (.bool b) w' := by
        have : binOp .eql t (.slice p n c) (.slice q n' c') = (do pure (.bool (← Op.equal t (.slice p n c) (.slice q n' c')))) := rfl
        rw [this, Sem.run_bind]; rfl
      have hb2 : (binOp .neq t (.slice p n c) (.slice q n' c')).run P w = ((Op.equalIn 10000 t (.slice p n c) (.slice q n' c')).run P w).andThen fun b w' => .ok (.bool !b) w' := by
        have : binOp .neq t (.slice p n c) (.slice q n' c') = (do pure (.bool (!(← Op.equal t (.slice p n c) (.slice q n' c'))))) := rfl
        rw [this, Sem.run_bind]; rfl
      cases neg
      · have ho : o.op = .binOp .eql t ox oy t' := ho
        refine ⟨.bool r, ?_, by show V.rel g (fB r) _; rw [fB_eq]; rfl⟩
        simp only [execOp, ho, hv1, hv2, Sem.run_bind, hg, hb1, hrun, Result.andThen_ok, Sem.run_pure]
      · have ho : o.op = .binOp .neq t ox oy t' := ho
        refine ⟨.bool (!r), ?_, by cases r <;> rfl⟩
        simp only [execOp, ho, hv1, hv2, Sem.run_bind, hg, hb2, hrun, Result.andThen_ok, Sem.run_pure]
    · rw [h2] at hne; exact absurd rfl hne
end
end Go.Proofs.Ythgaekbcmhbbgaa.Ev
