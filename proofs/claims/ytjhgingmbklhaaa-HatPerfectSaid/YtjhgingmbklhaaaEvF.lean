/- The evaluator's operations on memory: blocks made, read, written. -/
import Derived.Test.YtjhgingmbklhaaaEvE
namespace Go.Proofs.Ytjhgingmbklhaaa.Ev
set_option linter.unusedVariables false
open Go

/-! The same, handed on when it is worked out. -/
noncomputable def posK {β : Type} (f : Nat) : Nat → (Pos → β) → β := Nat.rec (motive := fun _ => Nat → (Pos → β) → β) (fun _ k => k .h)
  (fun _ ih n k => Bool.rec (Bool.rec (ih (Nat.div n 2) fun p => k (.i p)) (ih (Nat.div n 2) fun p => k (.o p)) (Nat.beq (Nat.mod n 2) 0)) (k .h) (Nat.ble n 1)) f
theorem posK_eq {β : Type} : ∀ (f n : Nat) (k : Pos → β), posK f n k = k (posF f n)
  | 0, _, _ => rfl
  | f + 1, n, k => by
    show (Bool.rec (Bool.rec (posK f (n / 2) fun p => k (.i p)) (posK f (n / 2) fun p => k (.o p)) (Nat.beq (n % 2) 0)) (k .h) (Nat.ble n 1) : β) = _
    rw [posK_eq, posK_eq, posF]
    by_cases h1 : n ≤ 1
    · have e : Nat.ble n 1 = true := by rw [Nat.ble_eq]; exact h1
      rw [e, if_pos h1]
    · have e : Nat.ble n 1 = false := by rw [← Bool.not_eq_true, Nat.ble_eq]; exact h1
      rw [e, if_neg h1]
      by_cases h2 : n % 2 = 0
      · have e : Nat.beq (n % 2) 0 = true := by rw [h2]; rfl
        rw [e, if_pos h2]
      · have e : Nat.beq (n % 2) 0 = false := by rw [show n % 2 = 1 by omega]; rfl
        rw [e, if_neg h2]
noncomputable def Tr.setK {β : Type} (x : V) (p : Pos) (t : Tr) (k : Tr → β) : β := k (t.set x p)
theorem Tr.setK_eq {β : Type} (x : V) (p : Pos) (t : Tr) (k : Tr → β) : t.setK x p k = k (t.set x p) := rfl
noncomputable def Hp.fo' {β : Type} (k : Hp → β) (t : Hp) : β := Hp.rec (motive := fun _ => β) (k .lf) (fun l v r _ _ => k (.nd l v r)) t
noncomputable def Hp.putK {β : Type} (x : Option Blk) (p : Pos) (t : Hp) (k : Hp → β) : β := Hp.fo' k (t.put x p)
theorem Hp.putK_eq {β : Type} (x : Option Blk) (p : Pos) (t : Hp) (k : Hp → β) : t.putK x p k = k (t.put x p) := by
  unfold Hp.putK Hp.fo'
  cases t.put x p <;> rfl

theorem Hp.put_get (x : Option Blk) (p : Pos) (h : Hp) : (h.put x p).get = hput h.get p x := by
  funext q; exact Hp.get_put x p q h
theorem Hp.put_get' (x : Option Blk) (p : Pos) (h : Hp) : (fun q => (h.put x p).get q) = hput (fun q => h.get q) p x := Hp.put_get x p h

/-! A new block. -/
noncomputable def newB (b : Blk) (k : Pos → V) (h : Hp) (n : Nat) : Res :=
  Bool.rec .no (posK 63 n fun p => fN (Nat.succ n) fun n' => h.putK (some b) p fun h' => .ok (k p) h' n') (Nat.ble 1 n)

theorem newB_soundF {b : Blk} {k : Pos → V} {h h' : Hp} {n n' lim : Nat} {v : V} (e : newB b k h n = .ok v h' n') {g : Sig} {w : World} (m : Mem g h.get w) (hd : Dom h.get n) (hf : Fresh g n n') (hn : n' < 9223372036854775808)
    (cur : Array Value) (hs : b.size ≤ cur.size) (hm : b.size ≤ maxSize) (hc : ∀ j, j < b.size → ∃ u, cur[j]? = some u ∧ u.oneCell' = true ∧ (b.cell j).rel g u) (fz : Nat × Nat) (hz : NoFz cur.size fz) :
    ∃ p g', g.le g' ∧ g' p = some (w.heap.size, 0, cur.size) ∧ v = k p ∧ Mem g' h'.get (w.alloc (.cells cur b.el fz)) ∧ Fr lim n g h.get w n' g' h'.get (w.alloc (.cells cur b.el fz)) := by
  unfold newB at e
  cases hb : Nat.ble 1 n
  · rw [hb] at e; cases e
  · rw [hb] at e
    have e : posK 63 n (fun p => fN (Nat.succ n) fun n' => h.putK (some b) p fun h' => Res.ok (k p) h' n') = .ok v h' n' := e
    rw [posK_eq, fN_eq, Hp.putK_eq] at e
    cases e
    rw [Nat.ble_eq] at hb
    have hp : (posF 63 n).num = n := num_posF 63 n hb (by omega)
    have h0 : g (posF 63 n) = none := hf _ (by omega) (by omega)
    refine ⟨posF 63 n, gput g (posF 63 n) (w.heap.size, 0, cur.size), gput_le _ h0, by simp [gput], rfl, ?_, ?_⟩
    · rw [Hp.put_get]; exact mem_allocF m h0 b cur hs hm hc fz hz
    · rw [Hp.put_get]; exact fr_alloc hd hp b cur fz

theorem newB_sound {b : Blk} {k : Pos → V} {h h' : Hp} {n n' lim : Nat} {v : V} (e : newB b k h n = .ok v h' n') {g : Sig} {w : World} (m : Mem g h.get w) (hd : Dom h.get n) (hf : Fresh g n n') (hn : n' < 9223372036854775808)
    (cur : Array Value) (hs : b.size ≤ cur.size) (hm : b.size ≤ maxSize) (hc : ∀ j, j < b.size → ∃ u, cur[j]? = some u ∧ u.oneCell' = true ∧ (b.cell j).rel g u) :
    ∃ p g', g.le g' ∧ g' p = some (w.heap.size, 0, cur.size) ∧ v = k p ∧ Mem g' h'.get (w.alloc (.cells cur b.el)) ∧ Fr lim n g h.get w n' g' h'.get (w.alloc (.cells cur b.el)) := newB_soundF e m hd hf hn cur hs hm hc (0, 0) (noFz0 _)

/-- A block whose cells are those of a list. -/
theorem cell_list {g : Sig} {l : L} {vs : List Value} (hr : l.rel g vs) (hc : l.allC = true) (el : TypeId) : ∀ j, j < l.length → ∃ u, (⟨vs⟩ : Array Value)[j]? = some u ∧ u.oneCell' = true ∧ ((⟨el, l.length, l.length, l, .lf⟩ : Blk).cell j).rel g u := by
  intro j hj
  have hl := L.rel_length hr
  have h1 := L.rel_get j hr
  have e : ((⟨el, l.length, l.length, l, .lf⟩ : Blk).cell j) = l.get j := by
    rw [cell_lf]; show orZ .bad (nthL (j % l.length) l) = _
    rw [nthL_eq, Nat.mod_eq_of_lt hj]; rfl
  have hC : ∀ {l : L} {j : Nat}, l.allC = true → j < l.length → (l.get j).isC = true := by
    intro l
    induction l using L.rec (motive_1 := fun _ => True) with
    | nil => intro j _ hj; simp [L.length] at hj
    | cons v l _ ih =>
      intro j hc hj
      simp [L.allC] at hc
      cases j with
      | zero => exact hc.1
      | succ j => exact ih hc.2 (by simp [L.length] at hj; omega)
    | _ => trivial
  refine ⟨vs.getD j undef, ?_, (V.isC_one (hC hc hj) h1).1, by rw [e]; exact h1⟩
  simp [List.getD, List.getElem?_eq_getElem (show j < vs.length by omega)]

section
variable {P : Program} {o : Oper}

noncomputable def evAlloc (el : TypeId) (z : L) (zl : Nat) (_ : Tr) (_ : Nat) (h : Hp) (n : Nat) : Res := newB ⟨el, zl, zl, z, .lf⟩ (fun p => .p p 0) h n
theorem ok_alloc {el : TypeId} {i : TypeInfo} {zv : Value} {z : L} {zl : Nat} (hi : P.info? el = some i) (hz : i.zero = some zv) (hzl : ofVals zv.cells.toList = some z) (hC : z.allC = true) (hl : zl = z.length) (hm : zl ≤ maxSize) (ho : o.op = .alloc el) :
    OpOK P o (evAlloc el z zl) := by
  subst hl
  intro e lim h n v h' n' hr ρ g w he m hd hf hn
  have zr : z.rel g zv.cells.toList := ofVals_rel g _ hzl
  have hsz : zv.cells.size = z.length := by have := L.rel_length zr; simpa using this
  obtain ⟨p, g', hle, hg', rfl, m', f'⟩ := newB_sound (lim := lim) hr m hd hf hn zv.cells (by show z.length ≤ _; omega) hm (fun j hj => by
    obtain ⟨u, h1, h2, h3⟩ := cell_list zr hC el j hj
    exact ⟨u, by simpa using h1, h2, h3⟩)
  refine ⟨.value (.pointer (some ⟨w.heap.size, 0, none⟩)), g', _, ?_, ⟨_, _, _, hg', rfl⟩, m', f'⟩
  simp [execOp, ho, Instr.alloc, zeroValue, typeInfo, hi, hz, newVar, newRow]

/-! The same, quicker. -/
noncomputable def lenW (l : L) : Nat := L.rec (motive_1 := fun _ => Unit) (motive_2 := fun _ => Nat) () (fun _ => ()) (fun _ _ => ()) (fun _ => ()) (fun _ _ => ()) () (fun _ _ _ _ _ => ()) () (fun _ _ => ()) (fun _ _ => ()) (fun _ _ _ _ _ => ()) () (fun _ => ()) (fun _ _ _ => ()) () (fun _ => ()) () (fun _ => ()) (fun _ _ _ _ => ()) 0 (fun _ _ _ ih => Nat.succ ih) l
theorem lenW_eq : ∀ l : L, lenW l = l.length
  | .nil => rfl
  | .cons v l => by show lenW l + 1 = _; rw [lenW_eq l]; rfl
noncomputable def isW (v : V) : Bool := V.rec (motive_1 := fun _ => Bool) (motive_2 := fun _ => Unit) false (fun _ => true) (fun _ _ => true) (fun _ => true) (fun _ _ => true) true (fun _ _ _ _ _ => true) true (fun _ _ => false) (fun _ _ => false) (fun _ _ _ _ _ => true) true (fun _ => true) (fun _ _ _ => true) true (fun _ => true) true (fun _ => true) (fun _ _ _ _ => true) () (fun _ _ _ _ => ()) v
theorem isW_eq (v : V) : isW v = v.isC := by cases v <;> rfl
noncomputable def allW (l : L) : Bool := L.rec (motive_1 := fun _ => Unit) (motive_2 := fun _ => Bool) () (fun _ => ()) (fun _ _ => ()) (fun _ => ()) (fun _ _ => ()) () (fun _ _ _ _ _ => ()) () (fun _ _ => ()) (fun _ _ => ()) (fun _ _ _ _ _ => ()) () (fun _ => ()) (fun _ _ _ => ()) () (fun _ => ()) () (fun _ => ()) (fun _ _ _ _ => ()) true (fun v _ _ ih => and (isW v) ih) l
theorem allW_eq : ∀ l : L, allW l = l.allC
  | .nil => rfl
  | .cons v l => by show and (isW v) (allW l) = _; rw [allW_eq l, isW_eq]; rfl
/-- A block's cells, all at once where they are listed. -/
noncomputable def Blk.getW (b : Blk) (o n : Nat) : L := Tb.rec (motive := fun _ => L) (Bool.rec (b.getL o n) b.z (and (Nat.beq o 0) (and (Nat.beq n b.pr) (Nat.beq (lenW b.z) n)))) (fun _ _ _ _ _ => b.getL o n) b.m
theorem L_extF : ∀ {l m : L}, l.length = m.length → (∀ j, j < l.length → l.get j = m.get j) → l = m
  | .nil, .nil, _, _ => rfl
  | .nil, .cons .., h, _ => by simp [L.length] at h
  | .cons .., .nil, h, _ => by simp [L.length] at h
  | .cons v l, .cons u m, h, hg => by
    have h0 := hg 0 (by simp [L.length])
    have hv : v = u := h0
    subst hv
    rw [L_extF (l := l) (m := m) (by simpa [L.length] using h) (fun j hj => by
      have := hg (j + 1) (by simp [L.length]; omega)
      exact this)]
theorem getL_lengthF (b : Blk) : ∀ (n k : Nat), (b.getL k n).length = n
  | 0, _ => rfl
  | n + 1, k => by show (b.getL (k + 1) n).length + 1 = _; rw [getL_lengthF b n]
theorem getL_getF (b : Blk) : ∀ (n k j : Nat), j < n → (b.getL k n).get j = b.cell (k + j)
  | 0, _, _, h => by omega
  | n + 1, k, 0, _ => rfl
  | n + 1, k, j + 1, h => by
    show (b.getL (k + 1) n).get j = _
    rw [getL_getF b n (k + 1) j (by omega)]
    congr 1; omega
theorem getW_eq (b : Blk) (o n : Nat) : b.getW o n = b.getL o n := by
  obtain ⟨el, size, pr, z, m⟩ := b
  cases m with
  | nd => rfl
  | lf =>
    show (Bool.rec (Blk.getL ⟨el, size, pr, z, .lf⟩ o n) z (and (Nat.beq o 0) (and (Nat.beq n pr) (Nat.beq (lenW z) n))) : L) = _
    cases hc : and (Nat.beq o 0) (and (Nat.beq n pr) (Nat.beq (lenW z) n)) with
    | false => rfl
    | true =>
      simp only [Bool.and_eq_true, Nat.beq_eq, lenW_eq] at hc
      obtain ⟨rfl, rfl, h3⟩ := hc
      show z = _
      refine L_extF (by rw [getL_lengthF]; exact h3) fun j hj => ?_
      have hj' : j < n := by omega
      rw [getL_getF _ _ _ _ hj', Nat.zero_add]
      rw [cell_lf]; show _ = orZ .bad (nthL (j % n) z)
      rw [Nat.mod_eq_of_lt hj', nthL_eq]
      rfl
/-- A block written; all at once where it is written whole. -/
noncomputable def Blk.setW (b : Blk) (n o : Nat) (l : L) : Blk := Bool.rec (b.setL o l) ⟨b.el, n, n, l, .lf⟩ (and (Nat.ble 5 n) (and (Nat.beq o 0) (Nat.beq b.size n)))
theorem setW_small {b : Blk} {n o : Nat} {l : L} (h : n < 5) : b.setW n o l = b.setL o l := by
  unfold Blk.setW
  cases hc : Nat.ble 5 n with
  | false => rfl
  | true => rw [Nat.ble_eq] at hc; omega
theorem setW_all {b : Blk} {n : Nat} {l : L} (h : 5 ≤ n) (hs : b.size = n) : b.setW n 0 l = ⟨b.el, n, n, l, .lf⟩ := by
  unfold Blk.setW
  rw [show and (Nat.ble 5 n) (and (Nat.beq 0 0) (Nat.beq b.size n)) = true by simp only [Bool.and_eq_true, Nat.ble_eq, Nat.beq_eq]; exact ⟨h, trivial, hs⟩]
theorem setL_sameF (b : Blk) : ∀ (l : L) (k : Nat), (b.setL k l).el = b.el ∧ (b.setL k l).size = b.size
  | .nil, _ => ⟨rfl, rfl⟩
  | .cons x l, k => setL_sameF (b.setC k x) l (k + 1)
theorem cell_setL_outF (b : Blk) : ∀ (l : L) (k j : Nat), k + l.length ≤ maxSize → j ≤ maxSize → (j < k ∨ k + l.length ≤ j) → (b.setL k l).cell j = b.cell j
  | .nil, k, j, _, _, _ => rfl
  | .cons x l, k, j, hk, hj, h => by
    have e : (L.cons x l).length = l.length + 1 := rfl
    rw [e] at hk h
    show ((b.setC k x).setL (k + 1) l).cell j = _
    rw [cell_setL_outF _ l (k + 1) j (by omega) hj (by omega), cell_setC _ _ _ _ (by omega) hj, if_neg (by omega)]
theorem cell_setL_inF (b : Blk) : ∀ (l : L) (k j : Nat), k + l.length ≤ maxSize → j ≤ maxSize → l.allC = true → k ≤ j → j < k + l.length → (b.setL k l).cell j = l.get (j - k)
  | .nil, k, j, _, _, _, h1, h2 => by simp [L.length] at h2; omega
  | .cons x l, k, j, hk, hj, hc, h1, h2 => by
    have e : (L.cons x l).length = l.length + 1 := rfl
    rw [e] at hk h2
    have hcs : x.isC = true ∧ l.allC = true := by
      have : (x.isC && l.allC) = true := hc
      rwa [Bool.and_eq_true] at this
    show ((b.setC k x).setL (k + 1) l).cell j = _
    by_cases hjk : j = k
    · subst hjk
      rw [cell_setL_outF _ l (j + 1) j (by omega) hj (by omega), cell_setC _ _ _ _ (by omega) hj, if_pos rfl, Nat.sub_self]
      show orZ x _ = x
      cases x <;> first | rfl | (simp [V.isC] at hcs)
    · rw [cell_setL_inF _ l (k + 1) j (by omega) hj hcs.2 (by omega) (by omega), show j - k = (j - (k + 1)) + 1 by omega]; rfl
/-- A block of the same cells is as good. -/
theorem mem_same {g : Sig} {h : Hm} {w : World} {p : Pos} {B B' : Blk} (m : Mem g (hput h p (some B)) w) (hs : B'.size = B.size) (h0 : 0 < B.size) (he : B'.el = B.el) (hc : ∀ k, k < B.size → B'.cell k = B.cell k) : Mem g (hput h p (some B')) w where
  inj := by
    intro q q' bq bq' r b1 t1 b2 t2 hq hq' e e'
    have : ∀ {q : Pos} {c : Blk}, hput h p (some B') q = some c → ∃ c', hput h p (some B) q = some c' := by
      intro q c e
      unfold hput at e ⊢
      split at e
      · rename_i e'; rw [if_pos e']; exact ⟨_, rfl⟩
      · rename_i e'; rw [if_neg e']; exact ⟨c, e⟩
    obtain ⟨c, hc⟩ := this hq
    obtain ⟨c', hc'⟩ := this hq'
    exact m.inj q q' c c' r b1 t1 b2 t2 hc hc' e e'
  blk := by
    intro q c e
    by_cases hq : q = p
    · have e1 : hput h p (some B) q = some B := by unfold hput; rw [if_pos hq]
      have e2 : c = B' := by unfold hput at e; rw [if_pos hq] at e; cases e; rfl
      subst e2
      obtain ⟨r, base, tot, cur, c1, c2, c3, c4, c5, c6⟩ := m.blk q B e1
      refine ⟨r, base, tot, cur, c1, .inl ?_, c3, by rw [hs]; exact c4, by rw [hs]; exact c5, fun k hk => ?_⟩
      · rcases c2 with c2 | ⟨_, _, c2, _⟩
        · rw [he]; exact c2
        · omega
      · rw [hs] at hk
        obtain ⟨v, d1, d2, d3⟩ := c6 k hk
        exact ⟨v, d1, d2, by rw [hc k hk]; exact d3⟩
    · have e1 : hput h p (some B) q = some c := by
        unfold hput at e ⊢
        rw [if_neg hq] at e ⊢
        exact e
      exact m.blk q c e1
theorem fr_same {lim n n' : Nat} {g g' : Sig} {h0 h : Hm} {w w' : World} {p : Pos} {B B' : Blk} (f : Fr lim n g h0 w n' g' (hput h p (some B)) w') : Fr lim n g h0 w n' g' (hput h p (some B')) w' :=
  ⟨f.le, f.os, f.tape, f.output, f.size, f.keep, f.sig, fun q c e => by
    by_cases hq : q = p
    · exact f.dom q B (by unfold hput; rw [if_pos hq])
    · refine f.dom q c ?_
      unfold hput at e ⊢
      rw [if_neg hq] at e ⊢
      exact e, f.new⟩

noncomputable def evBox (el : TypeId) (x : X) (e : Tr) (_ : Nat) (h : Hp) (n : Nat) : Res :=
  let l := (evX x e).toL
  Bool.rec .no (fN (lenW l) fun k => Bool.rec .no (newB ⟨el, k, k, l, .lf⟩ (fun p => .p p 0) h n) (Nat.ble k 1099511627776)) (allW l)
theorem ok_box {el : TypeId} {ox : Operand} {x : X} (hx : compX ox = some x) (ho : o.op = .box el ox) : OpOK P o (evBox el x) := by
  intro e lim h n v h' n' hr ρ g w he m hd hf hn
  unfold evBox at hr
  simp only [lenW_eq, allW_eq] at hr
  cases hc : (evX x e).toL.allC
  · rw [hc] at hr; cases hr
  · rw [hc] at hr
    have hr : fN (evX x e).toL.length (fun k => (Bool.rec .no (newB ⟨el, k, k, (evX x e).toL, .lf⟩ (fun p => .p p 0) h n) (Nat.ble k 1099511627776) : Res)) = .ok v h' n' := hr
    rw [fN_eq] at hr
    cases hb : Nat.ble (evX x e).toL.length 1099511627776
    · rw [hb] at hr; cases hr
    · rw [hb] at hr
      rw [Nat.ble_eq] at hb
      have rx := toL_rel (he ox x hx) hc
      have hlen := L.rel_length rx
      have hr : newB ⟨el, (evX x e).toL.length, (evX x e).toL.length, (evX x e).toL, .lf⟩ (fun p => .p p 0) h n = .ok v h' n' := hr
      obtain ⟨p, g', hle, hg', rfl, m', f'⟩ := newB_sound (lim := lim) hr m hd hf hn (ρ ox).cells (by show (evX x e).toL.length ≤ _; rw [← hlen]; simp) hb (fun j hj => by
        obtain ⟨u, h1, h2, h3⟩ := cell_list rx hc el j hj
        exact ⟨u, by simpa using h1, h2, h3⟩)
      refine ⟨.value (.pointer (some ⟨w.heap.size, 0, none⟩)), g', _, ?_, ⟨_, _, _, hg', rfl⟩, m', f'⟩
      simp [execOp, ho, Instr.box, newVar, newRow]

/-! Reading. -/
noncomputable def evLd (n : Nat) (agg : Bool) (x : X) (e : Tr) (_ : Nat) (h : Hp) (c : Nat) : Res :=
  onP (evX x e) (fun a o => Option.rec .no (fun b => Bool.rec .no (Bool.rec (.ok (b.cell o) h c) (.ok (.ag (b.getW o n)) h c) agg) (Nat.ble (Nat.add o n) b.size)) (h.get a)) .no
theorem ok_ld {t : TypeId} {i : TypeInfo} {agg : Bool} {ox : Operand} {x : X} (hx : compX ox = some x) (hi : P.info? t = some i) (ha : P_isAgg P t = some agg) (h1 : agg = false → i.size = 1) (ho : o.op = .load t ox) :
    OpOK P o (evLd i.size agg x) := by
  intro e lim h n v h' n' hr ρ g w he m hd hf hn
  unfold evLd at hr
  simp only [getW_eq] at hr
  have rx := he ox x hx
  rcases onP_or (evX x e) (fun a o => (Option.rec .no (fun b => Bool.rec .no (Bool.rec (.ok (b.cell o) h n) (.ok (.ag (b.getL o i.size)) h n) agg) (Nat.ble (Nat.add o i.size) b.size)) (h.get a) : Res)) .no with ⟨a, off, h1', h2⟩ | h2
  · rw [h2] at hr
    rw [h1', V.rel] at rx
    obtain ⟨r, base, tot, hg, hv⟩ := rx
    cases hh : h.get a with
    | none => rw [hh] at hr; cases hr
    | some b =>
      rw [hh] at hr
      have hr : (Bool.rec .no (Bool.rec (.ok (b.cell off) h n) (.ok (.ag (b.getL off i.size)) h n) agg) (Nat.ble (off + i.size) b.size) : Res) = .ok v h' n' := hr
      cases hb : Nat.ble (off + i.size) b.size
      · rw [hb] at hr; cases hr
      · rw [hb] at hr
        rw [Nat.ble_eq] at hb
        cases agg
        · have hr : Res.ok (b.cell off) h n = .ok v h' n' := hr
          cases hr
          obtain ⟨u, c1, c2, c3, c4⟩ := mem_cell m hh hg (k := off) (by have := h1 rfl; omega)
          refine ⟨.value u, g, w, ?_, c3, m, Fr.refl hd⟩
          simp [execOp, ho, hv, Instr.loadAt, Instr.sureAddr, loadVar, run_isAgg ha, c1]
        · have hr : Res.ok (.ag (b.getL off i.size)) h n = .ok v h' n' := hr
          cases hr
          obtain ⟨vs, g1, g2, g3, g4⟩ := getL_rel m hh hg i.size off (by omega)
          refine ⟨.value (.agg ⟨vs⟩), g, w, ?_, ⟨vs, rfl, g2⟩, m, Fr.refl hd⟩
          have hl := run_loadCells_list (P := P) w ⟨r, base + off, none⟩ vs g4
          rw [g1] at hl
          simp [execOp, ho, hv, Instr.loadAt, Instr.sureAddr, loadVar, run_isAgg ha, sizeOf, typeInfo, hi, hl]
  · rw [h2] at hr; cases hr

/-! Writing. -/
noncomputable def Blk.setLK {β : Type} (b : Blk) (k : Nat) (l : L) (c : Blk → β) : β := c (b.setL k l)
noncomputable def evSt (n : Nat) (x y : X) (e : Tr) (lim : Nat) (h : Hp) (c : Nat) : Res :=
  onP (evX x e) (fun a o => Option.rec .no (fun b =>
    let l := (evX y e).toL
    Bool.rec .no (h.putK (some (b.setW n o l)) a fun h' => .ok (.tu .nil) h' c) (and (Nat.ble (Nat.add o n) b.size) (and (Nat.beq (lenW l) n) (and (allW l) (Nat.ble lim a.num))))) (h.get a)) .no
theorem ok_st {t : TypeId} {i : TypeInfo} {ox oy : Operand} {x y : X} (hx : compX ox = some x) (hy : compX oy = some y) (hi : P.info? t = some i) (ho : o.op = .store t ox oy) : OpOK P o (evSt i.size x y) := by
  intro e lim h n v h' n' hr ρ g w he m hd hf hn
  unfold evSt at hr
  simp only [lenW_eq, allW_eq] at hr
  have rx := he ox x hx
  rcases onP_or (evX x e) (fun a o => (Option.rec .no (fun b =>
    Bool.rec .no (h.putK (some (b.setW i.size o (evX y e).toL)) a fun h' => .ok (.tu .nil) h' n) (and (Nat.ble (Nat.add o i.size) b.size) (and (Nat.beq (evX y e).toL.length i.size) (and (evX y e).toL.allC (Nat.ble lim a.num))))) (h.get a) : Res)) .no with ⟨a, off, h1', h2⟩ | h2
  · try dsimp only at hr
    rw [h2] at hr
    rw [h1', V.rel] at rx
    obtain ⟨r, base, tot, hg, hv⟩ := rx
    cases hh : h.get a with
    | none => rw [hh] at hr; cases hr
    | some b =>
      rw [hh] at hr
      have hr : (Bool.rec .no (h.putK (some (b.setW i.size off (evX y e).toL)) a fun h' => .ok (.tu .nil) h' n) (and (Nat.ble (off + i.size) b.size) (and (Nat.beq (evX y e).toL.length i.size) (and (evX y e).toL.allC (Nat.ble lim a.num)))) : Res) = .ok v h' n' := hr
      cases hb : and (Nat.ble (off + i.size) b.size) (and (Nat.beq (evX y e).toL.length i.size) (and (evX y e).toL.allC (Nat.ble lim a.num)))
      · rw [hb] at hr; cases hr
      · rw [hb] at hr
        simp only [Bool.and_eq_true, Nat.ble_eq, Nat.beq_eq] at hb
        obtain ⟨b1, b2, b3, b4⟩ := hb
        have hr : h.putK (some (b.setW i.size off (evX y e).toL)) a (fun h' => Res.ok (.tu .nil) h' n) = .ok v h' n' := hr
        rw [Hp.putK_eq] at hr
        cases hr
        have ry := toL_rel (he oy y hy) b3
        have hlen := L.rel_length ry
        obtain ⟨w', s1, s2, s3⟩ := stores P hg b4 (evX y e).toL (ρ oy).cells.toList off b h.get w 0 m hd hh (by omega) b3 ry
        simp only [Nat.add_zero] at s2 s3
        have s23 : Mem g (hput h.get a (some (b.setW i.size off (evX y e).toL))) w' ∧ Fr lim n g h.get w n g (hput h.get a (some (b.setW i.size off (evX y e).toL))) w' := by
          cases hW : and (Nat.ble 5 i.size) (and (Nat.beq off 0) (Nat.beq b.size i.size)) with
          | false =>
            have e1 : b.setW i.size off (evX y e).toL = b.setL off (evX y e).toL := by unfold Blk.setW; rw [hW]
            rw [e1]
            exact ⟨s2, s3⟩
          | true =>
            have e1 : b.setW i.size off (evX y e).toL = ⟨b.el, i.size, i.size, (evX y e).toL, .lf⟩ := by unfold Blk.setW; rw [hW]
            simp only [Bool.and_eq_true, Nat.ble_eq, Nat.beq_eq] at hW
            obtain ⟨w1, rfl, w3⟩ := hW
            rw [e1]
            obtain ⟨_, _, _, _, _, _, _, _, hmx, _⟩ := m.blk a b hh
            have q1 := (setL_sameF b (evX y e).toL 0).2
            refine ⟨mem_same s2 (by rw [q1]; exact w3.symm) (by rw [q1]; omega) (setL_sameF b (evX y e).toL 0).1.symm fun k hk => ?_, fr_same s3⟩
            rw [q1] at hk
            rw [cell_setL_inF _ _ _ _ (by omega) (by omega) b3 (Nat.zero_le _) (by omega)]
            rw [cell_lf]; show orZ .bad (nthL (k % i.size) (evX y e).toL) = _
            rw [Nat.mod_eq_of_lt (by omega), nthL_eq]
            rfl
        refine ⟨.skip, g, w', ?_, ⟨[], rfl, rfl⟩, by rw [Hp.put_get]; exact s23.1, by rw [Hp.put_get]; exact s23.2⟩
        have hsz : (ρ oy).cells.size = i.size := by rw [← b2, ← hlen]; simp
        simp only [execOp, ho, hv, Instr.storeAt, Instr.sureAddr, storeVar, Sem.run_bind, Sem.run_pure, Result.andThen_ok, sizeOf, typeInfo, run_program, hi, hsz, ne_eq, not_true_eq_false, if_false, s1]
  · rw [h2] at hr; cases hr
end
end Go.Proofs.Ytjhgingmbklhaaa.Ev
