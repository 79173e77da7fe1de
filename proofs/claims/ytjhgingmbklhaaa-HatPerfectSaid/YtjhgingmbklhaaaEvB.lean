/- What the evaluator's memory says of a world; what a step keeps; one block made, read, written. -/
import Derived.Test.YtjhgingmbklhaaaEvA
namespace Go.Proofs.Ytjhgingmbklhaaa.Ev
set_option linter.unusedVariables false
open Go

theorem heap_alloc_keep (w : World) (o : Obj) (k : Nat) (h : k < w.heap.size) : (w.alloc o).heap[k]? = w.heap[k]? := by
  simp only [World.alloc, Array.getElem?_push]
  rw [if_neg (by omega)]
theorem heap_setCell_keep (w : World) (a : Addr) (u : Value) (k : Nat) (h : k ≠ a.block) : (w.setCell a u).heap[k]? = w.heap[k]? := by
  simp only [World.setCell, Array.getElem?_modify]
  rw [if_neg (fun e => h e.symm)]

def maxSize : Nat := 1099511627776

abbrev Hm := Pos → Option Blk

/-- No cell of a row of so many is frozen. -/
def NoFz (n : Nat) (fz : Nat × Nat) : Prop := ∀ k, k < n → ¬ (fz.1 ≤ k ∧ k < fz.2)
theorem noFz0 (n : Nat) : NoFz n (0, 0) := fun k _ h => by have := h.2; simp at this
/-- A block is just a row of cells, none of them frozen. -/
def RowIs (w : World) (r : Nat) (cur : Array Value) (el : TypeId) : Prop := ∃ fz, w.heap[r]? = some (.cells cur el fz) ∧ NoFz cur.size fz
theorem RowIs.lt {w : World} {r : Nat} {cur : Array Value} {el : TypeId} (h : RowIs w r cur el) : r < w.heap.size := let ⟨_, h, _⟩ := h; (Array.getElem?_eq_some_iff.1 h).1
theorem RowIs.keep {w w' : World} {r : Nat} {cur : Array Value} {el : TypeId} (h : RowIs w r cur el) (e : w'.heap[r]? = w.heap[r]?) : RowIs w' r cur el := let ⟨fz, h, z⟩ := h; ⟨fz, e.trans h, z⟩
theorem RowIs.of {w : World} {r : Nat} {cur : Array Value} {el : TypeId} (h : w.heap[r]? = some (.cells cur el (0, 0))) : RowIs w r cur el := ⟨_, h, noFz0 _⟩

/-- An entry of a map, as a pair. -/
def entV (e : MapEntry) : Value := .tuple ⟨[e.key, e.val]⟩
/-- What the state of a loop is: the next round may begin; or it was left. -/
def loopSt (pr : Nat) (rec : Loop) : Prop := match pr with
  | 0 => rec.state = .ready ∧ rec.pending = none
  | 1 => rec.state = .done ∧ rec.pending = some .ret
  | 2 => rec.state = .busy
  | k + 3 => rec.state = .done ∧ rec.pending = some (.exit k)
/-- What is kept of a loop: its code, and what its frame knew when it began. -/
def loopRel (g : Sig) (b : Blk) (rec : Loop) : Prop := ∃ N ps x y v0, b.z = .cons (.lp N ps x y) (.cons v0 .nil) ∧ rec.params = ps ∧ rec.assign = x ∧ rec.body = y ∧ N ≤ rec.tmps.size ∧ b.m.get .h = .b true ∧ v0.rel g (rec.tmps.getD 0 undef) ∧
  (∀ t, t < 4294967296 → 0 < t → (b.m.get (posF 63 (t + 1))).rel g (rec.tmps.getD t undef)) ∧ loopSt b.pr rec
/-- What is kept of a string's iterator: the string, and the place where it stands. -/
noncomputable def itM : Tb := .nd .lf (.n 0) .lf
def itRel (b : Blk) (s : ByteArray) (pos : Nat) : Prop := ∃ bs : List Nat, b.z = .cons (.s bs) (.cons (.n pos) .nil) ∧ s = ⟨⟨bs.map UInt8.ofNat⟩⟩ ∧ b.m = itM
/-- A block is a row of cells, or a map, or a loop, or a string's iterator. -/
def RowM (w : World) (g : Sig) (r base tot : Nat) (cur : Array Value) (b : Blk) : Prop :=
  (RowIs w r cur b.el ∧ base ≤ tot) ∨ (base = 1 ∧ tot = 0 ∧ b.size = 0 ∧ ((∃ es clock, w.heap[r]? = some (.map es clock) ∧ (b.m = .lf ∨ b.z.rel g (es.toList.map entV))) ∨ (∃ rec, w.heap[r]? = some (.loop rec) ∧ (b.m = .lf ∨ loopRel g b rec)) ∨ ∃ s pos, w.heap[r]? = some (.stringIter s pos) ∧ (b.m = .lf ∨ itRel b s pos)))
theorem RowM.lt {w : World} {g : Sig} {r base tot : Nat} {cur : Array Value} {b : Blk} (h : RowM w g r base tot cur b) : r < w.heap.size := by
  rcases h with h | ⟨_, _, _, ⟨es, clock, h, _⟩ | ⟨rec, h, _⟩ | ⟨s, pos, h, _⟩⟩
  · exact h.1.lt
  · exact (Array.getElem?_eq_some_iff.1 h).1
  · exact (Array.getElem?_eq_some_iff.1 h).1
  · exact (Array.getElem?_eq_some_iff.1 h).1
theorem RowM.keep {w w' : World} {g : Sig} {r base tot : Nat} {cur : Array Value} {b : Blk} (h : RowM w g r base tot cur b) (e : w'.heap[r]? = w.heap[r]?) : RowM w' g r base tot cur b := by
  rcases h with h | ⟨a, b, c, ⟨es, clock, h, d⟩ | ⟨rec, h, d⟩ | ⟨s, pos, h, d⟩⟩
  · exact .inl ⟨h.1.keep e, h.2⟩
  · exact .inr ⟨a, b, c, .inl ⟨es, clock, e.trans h, d⟩⟩
  · exact .inr ⟨a, b, c, .inr (.inl ⟨rec, e.trans h, d⟩)⟩
  · exact .inr ⟨a, b, c, .inr (.inr ⟨s, pos, e.trans h, d⟩)⟩
theorem RowM.mono {w : World} {g g' : Sig} {r base tot : Nat} {cur : Array Value} {b : Blk} (h : RowM w g r base tot cur b) (hl : g.le g') : RowM w g' r base tot cur b := by
  rcases h with h | ⟨a, b, c, ⟨es, clock, h, d⟩ | ⟨rec, h, d⟩ | ⟨s, pos, h, d⟩⟩
  · exact .inl h
  · exact .inr ⟨a, b, c, .inl ⟨es, clock, h, d.imp id (L.rel_mono hl _)⟩⟩
  rotate_left
  · exact .inr ⟨a, b, c, .inr (.inr ⟨s, pos, h, d⟩)⟩
  · refine .inr ⟨a, b, c, .inr (.inl ⟨rec, h, d.imp id ?_⟩)⟩
    rintro ⟨N, ps, x, y, v0, h1, h2, h3, h4, h5, h8, h9, h6, h7⟩
    exact ⟨N, ps, x, y, v0, h1, h2, h3, h4, h5, h8, V.rel_mono hl _ h9, fun t ht h0 => V.rel_mono hl _ (h6 t ht h0), h7⟩
theorem RowM.row {w : World} {g : Sig} {r base tot : Nat} {cur : Array Value} {b : Blk} (h : RowM w g r base tot cur b) (hx : 0 < b.size ∨ base ≤ tot) : RowIs w r cur b.el := by
  rcases h with h | ⟨a, b, c, h⟩
  · exact h.1
  · omega
theorem RowM.cut {w : World} {g g' : Sig} {r base tot off : Nat} {cur : Array Value} {b b0 : Blk} (h : RowM w g r base tot cur b) (he : b0.el = b.el) (hs : off + b0.size ≤ b.size) (h4 : b.size = 0 ∨ base + b.size ≤ tot) (hm : b0.m = .lf) : RowM w g' r (base + off) tot cur b0 := by
  rcases h with h | ⟨a, b, c, ⟨es, clock, h, d⟩ | ⟨rec, h, d⟩ | ⟨s, pos, h, d⟩⟩
  · exact .inl ⟨by rw [he]; exact h.1, by have := h.2; omega⟩
  · exact .inr ⟨by omega, b, by omega, .inl ⟨es, clock, h, .inl hm⟩⟩
  · exact .inr ⟨by omega, b, by omega, .inr (.inl ⟨rec, h, .inl hm⟩)⟩
  · exact .inr ⟨by omega, b, by omega, .inr (.inr ⟨s, pos, h, .inl hm⟩)⟩

structure Mem (g : Sig) (h : Hm) (w : World) : Prop where
  inj : ∀ p q bp bq r b1 t1 b2 t2, h p = some bp → h q = some bq → g p = some (r, b1, t1) → g q = some (r, b2, t2) → p = q
  blk : ∀ p b, h p = some b → ∃ r base tot cur, g p = some (r, base, tot) ∧ RowM w g r base tot cur b ∧ cur.size = tot ∧ (b.size = 0 ∨ base + b.size ≤ tot) ∧ b.size ≤ maxSize ∧
    ∀ k, k < b.size → ∃ v, cur[base + k]? = some v ∧ v.oneCell' = true ∧ (b.cell k).rel g v

structure Fr (lim n : Nat) (g : Sig) (h : Hm) (w : World) (n' : Nat) (g' : Sig) (h' : Hm) (w' : World) : Prop where
  le : n ≤ n'
  os : w'.os = w.os
  tape : w'.tape = w.tape
  output : w'.output = w.output
  size : w.heap.size ≤ w'.heap.size
  keep : ∀ r, r < w.heap.size → (∀ p b base tot, h p = some b → lim ≤ p.num → g p ≠ some (r, base, tot)) → w'.heap[r]? = w.heap[r]?
  sig : ∀ p, (p.num < n ∨ n' ≤ p.num) → g' p = g p
  dom : ∀ p b, h' p = some b → (p.num < n → ∃ b', h p = some b') ∧ p.num < n'
  new : ∀ p r base tot, n ≤ p.num → p.num < n' → g' p = some (r, base, tot) → w.heap.size ≤ r ∨ ∃ q b base' tot', h q = some b ∧ lim ≤ q.num ∧ g q = some (r, base', tot')

def Fresh (g : Sig) (n n' : Nat) : Prop := ∀ p, n ≤ p.num → p.num < n' → g p = none
def Dom (h : Hm) (n : Nat) : Prop := ∀ p b, h p = some b → p.num < n

section
variable {lim n n1 n2 : Nat} {g g1 g2 : Sig} {h h1 h2 : Hm} {w w1 w2 : World}

theorem Fr.refl (hd : Dom h n) : Fr lim n g h w n g h w :=
  ⟨Nat.le_refl _, rfl, rfl, rfl, Nat.le_refl _, fun _ _ _ => rfl, fun _ _ => rfl, fun p b e => ⟨fun _ => ⟨b, e⟩, hd p b e⟩, fun _ _ _ _ a b => by omega⟩

theorem Fr.gle (f : Fr lim n g h w n1 g1 h1 w1) (hf : Fresh g n n1) : g.le g1 := by
  intro p x e
  by_cases hp : p.num < n ∨ n1 ≤ p.num
  · rw [f.sig p hp]; exact e
  · rw [hf p (by omega) (by omega)] at e; cases e

theorem Fr.fresh (f : Fr lim n g h w n1 g1 h1 w1) (hf : Fresh g n n2) : Fresh g1 n1 n2 := by
  intro p a b
  rw [f.sig p (.inr a)]
  exact hf p (by have := f.le; omega) b

theorem Fresh.sub (hf : Fresh g n n2) (a : n ≤ n1) {m : Nat} (b : m ≤ n2) : Fresh g n1 m := fun p x y => hf p (by omega) (by omega)

theorem Fr.dom' (f : Fr lim n g h w n1 g1 h1 w1) : Dom h1 n1 := fun p b e => (f.dom p b e).2

theorem Fr.trans (a : Fr lim n g h w n1 g1 h1 w1) (b : Fr lim n1 g1 h1 w1 n2 g2 h2 w2) : Fr lim n g h w n2 g2 h2 w2 where
  le := Nat.le_trans a.le b.le
  os := b.os.trans a.os
  tape := b.tape.trans a.tape
  output := b.output.trans a.output
  size := Nat.le_trans a.size b.size
  keep := by
    intro r hr hW
    rw [b.keep r (Nat.lt_of_lt_of_le hr a.size), a.keep r hr hW]
    intro p c base tot hp hl e
    by_cases hn : p.num < n
    · obtain ⟨b', hb'⟩ := (a.dom p c hp).1 hn
      rw [a.sig p (.inl hn)] at e
      exact hW p b' base tot hb' hl e
    · rcases a.new p r base tot (by omega) (a.dom p c hp).2 e with h1 | ⟨q, b', x, y, hq, hql, he⟩
      · omega
      · exact hW q b' x y hq hql he
  sig := by
    intro p hp
    have := a.le; have := b.le
    rw [b.sig p (by omega), a.sig p (by omega)]
  dom := by
    intro p c e
    refine ⟨fun hn => ?_, (b.dom p c e).2⟩
    obtain ⟨b', hb'⟩ := (b.dom p c e).1 (by have := a.le; omega)
    exact (a.dom p b' hb').1 hn
  new := by
    intro p r base tot hn hn2 e
    by_cases hp : p.num < n1
    · rw [b.sig p (.inl hp)] at e
      exact a.new p r base tot hn hp e
    · rcases b.new p r base tot (by omega) hn2 e with h1 | ⟨q, b', x, y, hq, hql, he⟩
      · exact .inl (Nat.le_trans a.size h1)
      · by_cases hqn : q.num < n
        · obtain ⟨b'', hb''⟩ := (a.dom q b' hq).1 hqn
          rw [a.sig q (.inl hqn)] at he
          exact .inr ⟨q, b'', x, y, hb'', hql, he⟩
        · exact a.new q r x y (by omega) (a.dom q b' hq).2 he

theorem Fr.weak {lim' : Nat} (a : Fr lim' n g h w n1 g1 h1 w1) (hl : lim ≤ lim') : Fr lim n g h w n1 g1 h1 w1 :=
  { a with
    keep := fun r hr hW => a.keep r hr fun p b base tot hp hlp => hW p b base tot hp (by omega)
    new := fun p r base tot x y e => (a.new p r base tot x y e).imp id fun ⟨q, b, x, y, hq, hql, he⟩ => ⟨q, b, x, y, hq, by omega, he⟩ }

theorem Fr.drew (hd : Dom h n) : Fr lim n g h w n g h w.drew :=
  ⟨Nat.le_refl _, rfl, rfl, rfl, Nat.le_refl _, fun _ _ _ => rfl, fun _ _ => rfl, fun p b e => ⟨fun _ => ⟨b, e⟩, hd p b e⟩, fun _ _ _ _ a b => by omega⟩

theorem Mem.drew (m : Mem g h w) : Mem g h w.drew := ⟨m.inj, m.blk⟩

theorem Mem.sub (m : Mem g h w) (hs : ∀ p b, h1 p = some b → h p = some b) : Mem g h1 w :=
  ⟨fun p q bp bq r b1 t1 b2 t2 hp hq => m.inj p q bp bq r b1 t1 b2 t2 (hs _ _ hp) (hs _ _ hq), fun p b hp => m.blk p b (hs _ _ hp)⟩

theorem Mem.lt (m : Mem g h w) {p : Pos} {b : Blk} (hp : h p = some b) {r base tot : Nat} (hg : g p = some (r, base, tot)) : r < w.heap.size := by
  obtain ⟨r', base', tot', cur, h1, h2, _⟩ := m.blk p b hp
  rw [hg] at h1
  cases h1
  exact h2.lt

/-! One block made. -/
def gput (g : Sig) (p : Pos) (x : Nat × Nat × Nat) : Sig := fun q => if q = p then some x else g q
def hput (h : Hm) (p : Pos) (x : Option Blk) : Hm := fun q => if q = p then x else h q

theorem gput_le {p : Pos} (x) (h0 : g p = none) : g.le (gput g p x) := by
  intro q y e
  unfold gput
  split
  · rename_i e'; rw [e', h0] at e; cases e
  · exact e

theorem fr_alloc (hd : Dom h n) {p : Pos} (hp : p.num = n) (b : Blk) (cur : Array Value) (fz : Nat × Nat := (0, 0)) :
    Fr lim n g h w (n + 1) (gput g p (w.heap.size, 0, cur.size)) (hput h p (some b)) (w.alloc (.cells cur b.el fz)) where
  le := by omega
  os := rfl
  tape := rfl
  output := rfl
  size := by simp
  keep := fun r hr _ => heap_alloc_keep w _ r hr
  sig := by
    intro q hq
    unfold gput
    rw [if_neg]
    intro e; subst e; omega
  dom := by
    intro q c e
    unfold hput at e
    split at e
    · rename_i e'; subst e'; exact ⟨fun x => by omega, by omega⟩
    · exact ⟨fun _ => ⟨c, e⟩, by have := hd q c e; omega⟩
  new := by
    intro q r base tot a b' e
    have : q = p := Pos.num_inj (by omega)
    subst this
    simp only [gput, if_pos] at e
    cases e
    exact .inl (Nat.le_refl _)

theorem mem_allocF (m : Mem g h w) {p : Pos} (h0 : g p = none) (b : Blk) (cur : Array Value) (hs : b.size ≤ cur.size) (hm : b.size ≤ maxSize)
    (hc : ∀ k, k < b.size → ∃ v, cur[k]? = some v ∧ v.oneCell' = true ∧ (b.cell k).rel g v) (fz : Nat × Nat) (hz : NoFz cur.size fz) :
    Mem (gput g p (w.heap.size, 0, cur.size)) (hput h p (some b)) (w.alloc (.cells cur b.el fz)) where
  inj := by
    intro q q' bq bq' r b1 t1 b2 t2 hq hq' e e'
    unfold hput at hq hq'
    unfold gput at e e'
    by_cases x : q = p <;> by_cases y : q' = p
    · rw [x, y]
    · rw [if_neg y] at hq' e'
      rw [if_pos x] at e
      cases e
      have := m.lt hq' e'
      omega
    · rw [if_neg x] at hq e
      rw [if_pos y] at e'
      cases e'
      have := m.lt hq e
      omega
    · rw [if_neg x] at hq e
      rw [if_neg y] at hq' e'
      exact m.inj q q' bq bq' r b1 t1 b2 t2 hq hq' e e'
  blk := by
    intro q c e
    unfold hput at e
    by_cases x : q = p
    · rw [if_pos x] at e
      cases e
      refine ⟨w.heap.size, 0, cur.size, cur, by simp [gput, x], .inl ⟨⟨fz, heap_alloc_new w _, hz⟩, Nat.zero_le _⟩, rfl, by omega, hm, ?_⟩
      intro k hk
      obtain ⟨v, h1, h2, h3⟩ := hc k hk
      exact ⟨v, by simpa using h1, h2, V.rel_mono (gput_le _ h0) _ h3⟩
    · rw [if_neg x] at e
      obtain ⟨r, base, tot, cur', h1, h2, h3, h4, h5, h6⟩ := m.blk q c e
      refine ⟨r, base, tot, cur', by simp [gput, x, h1], ?_, h3, h4, h5, ?_⟩
      · exact (h2.mono (gput_le _ h0)).keep (heap_alloc_keep w _ r (m.lt e h1))
      · intro k hk
        obtain ⟨v, h1, h2, h3⟩ := h6 k hk
        exact ⟨v, h1, h2, V.rel_mono (gput_le _ h0) _ h3⟩

theorem mem_alloc (m : Mem g h w) {p : Pos} (h0 : g p = none) (b : Blk) (cur : Array Value) (hs : b.size ≤ cur.size) (hm : b.size ≤ maxSize)
    (hc : ∀ k, k < b.size → ∃ v, cur[k]? = some v ∧ v.oneCell' = true ∧ (b.cell k).rel g v) :
    Mem (gput g p (w.heap.size, 0, cur.size)) (hput h p (some b)) (w.alloc (.cells cur b.el)) := mem_allocF m h0 b cur hs hm hc (0, 0) (noFz0 _)

/-! One cell read. -/
theorem mem_cell (m : Mem g h w) {p : Pos} {b : Blk} (hp : h p = some b) {r base tot : Nat} (hg : g p = some (r, base, tot)) {k : Nat} (hk : k < b.size) :
    ∃ v, w.cell? ⟨r, base + k, none⟩ = some v ∧ v.oneCell' = true ∧ (b.cell k).rel g v ∧ w.frozen? ⟨r, base + k, none⟩ = false := by
  obtain ⟨r', base', tot', cur, h1, h2, _, _, _, h6⟩ := m.blk p b hp
  rw [hg] at h1
  cases h1
  obtain ⟨v, h7, h8, h9⟩ := h6 k hk
  obtain ⟨⟨lo, hi⟩, h2, hz⟩ := h2.row (.inl (by omega))
  have hlt : base + k < cur.size := (Array.getElem?_eq_some_iff.1 h7).1
  have hz' := hz _ hlt
  refine ⟨v, by simp [World.cell?, h2, h7], h8, h9, ?_⟩
  simp only [World.frozen?, h2]
  simpa using hz'

/-! One cell written. -/
noncomputable def Blk.setC (b : Blk) (k : Nat) (x : V) : Blk := Blk.rec (motive := fun _ => Blk) (fun el size pr z m => ⟨el, size, pr, z, m.setN (Nat.succ k) x⟩) b
theorem setC_eq (b : Blk) (k : Nat) (x : V) : b.setC k x = { b with m := b.m.set x (posF 63 (k + 1)) } := by
  cases b; show Blk.mk _ _ _ _ (Tb.setN _ _ _) = _; rw [Tb.setN_eq]

theorem cell_setC (b : Blk) (k j : Nat) (x : V) (hk : k ≤ maxSize) (hj : j ≤ maxSize) : (b.setC k x).cell j = if j = k then orZ x (nthL (Nat.mod j b.pr) b.z) else b.cell j := by
  unfold maxSize at hk hj
  have e1 : ∀ t : Tb, t.at (j + 1) = t.get (posF 63 (j + 1)) := fun t => Tb.at_eq t (j + 1)
  simp only [Blk.cell, setC_eq, Nat.succ_eq_add_one, e1, Tb.get_set]
  by_cases he : j = k
  · subst he; simp
  · have : posF 63 (j + 1) ≠ posF 63 (k + 1) := by
      intro e
      have := congrArg Pos.num e
      rw [num_posF _ _ (by omega) (by omega), num_posF _ _ (by omega) (by omega)] at this
      omega
    rw [if_neg this, if_neg he]

theorem orZ_ne {x : V} (z : V) (hx : x ≠ .bad) : orZ x z = x := by cases x <;> first | rfl | exact absurd rfl hx

theorem heap_setCell_same (w : World) (r off : Nat) (v : Value) {cur : Array Value} {el : TypeId} {fz : Nat × Nat} (hr : w.heap[r]? = some (.cells cur el fz)) :
    (w.setCell ⟨r, off, none⟩ v).heap[r]? = some (.cells (cur.setIfInBounds off v) el fz) := by
  simp [World.setCell, Array.getElem?_modify, hr]

theorem mem_store (m : Mem g h w) {p : Pos} {b : Blk} (hp : h p = some b) {r base tot : Nat} (hg : g p = some (r, base, tot)) {k : Nat} (hk : k < b.size) {x : V} {v : Value}
    (hx : x ≠ .bad) (hv : v.oneCell' = true) (hr : x.rel g v) : Mem g (hput h p (some (b.setC k x))) (w.setCell ⟨r, base + k, none⟩ v) where
  inj := by
    intro q q' bq bq' r' b1 t1 b2 t2 hq hq' e e'
    have : ∀ {q : Pos} {c : Blk}, hput h p (some (b.setC k x)) q = some c → ∃ c', h q = some c' := by
      intro q c e
      unfold hput at e
      split at e
      · rename_i e'; subst e'; exact ⟨b, hp⟩
      · exact ⟨c, e⟩
    obtain ⟨c, hc⟩ := this hq
    obtain ⟨c', hc'⟩ := this hq'
    exact m.inj q q' c c' r' b1 t1 b2 t2 hc hc' e e'
  blk := by
    intro q c e
    unfold hput at e
    by_cases hq : q = p
    · rw [if_pos hq] at e
      cases e
      subst hq
      obtain ⟨r', base', tot', cur, h1, h2, h3, h4, h5, h6⟩ := m.blk q b hp
      rw [hg] at h1
      cases h1
      refine ⟨r, base, tot, cur.setIfInBounds (base + k) v, hg, .inl ⟨(let ⟨fz, h2, hz⟩ := h2.row (.inl (by omega)); ⟨fz, heap_setCell_same w r _ v h2, by simpa using hz⟩), by omega⟩, by simpa using h3, h4, h5, ?_⟩
      intro j hj
      have hj' : j < b.size := hj
      rw [cell_setC b k j x (by omega) (by omega)]
      by_cases hjk : j = k
      · subst hjk
        refine ⟨v, ?_, hv, ?_⟩
        · rw [Array.getElem?_setIfInBounds]; simp; omega
        · rw [if_pos rfl, orZ_ne _ hx]; exact hr
      · obtain ⟨u, h7, h8, h9⟩ := h6 j hj'
        refine ⟨u, ?_, h8, by rw [if_neg hjk]; exact h9⟩
        rw [Array.getElem?_setIfInBounds_ne (by omega)]; exact h7
    · rw [if_neg hq] at e
      obtain ⟨r', base', tot', cur, h1, h2, h3, h4, h5, h6⟩ := m.blk q c e
      refine ⟨r', base', tot', cur, h1, ?_, h3, h4, h5, h6⟩
      refine h2.keep (heap_setCell_keep w _ v r' ?_)
      intro he
      have he : r' = r := he
      subst he
      exact hq (m.inj q p c b r' base' tot' base tot e hp h1 hg)

theorem fr_store (hd : Dom h n) {p : Pos} {b : Blk} (hp : h p = some b) (hl : lim ≤ p.num) {r base tot : Nat} (hg : g p = some (r, base, tot)) (off : Nat) (v : Value) (b' : Blk) :
    Fr lim n g h w n g (hput h p (some b')) (w.setCell ⟨r, off, none⟩ v) where
  le := Nat.le_refl _
  os := rfl
  tape := rfl
  output := rfl
  size := by simp
  keep := by
    intro r' _ hW
    refine heap_setCell_keep w _ v r' fun e => ?_
    have e : r' = r := e
    subst e
    exact hW p b base tot hp hl hg
  sig := fun _ _ => rfl
  dom := by
    intro q c e
    unfold hput at e
    split at e
    · rename_i e'; subst e'; exact ⟨fun _ => ⟨b, hp⟩, hd _ _ hp⟩
    · exact ⟨fun _ => ⟨c, e⟩, hd q c e⟩
  new := fun _ _ _ _ a b => by omega

theorem hput_hput (h : Hm) (p : Pos) (x y : Option Blk) : hput (hput h p x) p y = hput h p y := by
  funext q; unfold hput; split <;> rfl
theorem hput_same (h : Hm) (p : Pos) (x : Option Blk) : hput h p x p = x := by simp [hput]
theorem hput_self {h : Hm} {p : Pos} {x : Option Blk} (e : h p = x) : hput h p x = h := by
  funext q; unfold hput; split
  · rename_i e'; rw [e', e]
  · rfl
end

/-! A map made, and changed. -/
theorem Fr.ofAlloc {lim n : Nat} {g : Sig} {h : Hm} {w : World} (hd : Dom h n) {p : Pos} (hp : p.num = n) (b : Blk) (o : Obj) (x y : Nat) :
    Fr lim n g h w (n + 1) (gput g p (w.heap.size, x, y)) (hput h p (some b)) (w.alloc o) where
  le := by omega
  os := rfl
  tape := rfl
  output := rfl
  size := by simp
  keep := fun r hr _ => heap_alloc_keep w _ r hr
  sig := by
    intro q hq
    unfold gput
    rw [if_neg]
    intro e; subst e; omega
  dom := by
    intro q c e
    unfold hput at e
    split at e
    · rename_i e'; subst e'; exact ⟨fun x => by omega, by omega⟩
    · exact ⟨fun _ => ⟨c, e⟩, by have := hd q c e; omega⟩
  new := by
    intro q r base tot a b' e
    have : q = p := Pos.num_inj (by omega)
    subst this
    simp only [gput, if_pos] at e
    cases e
    exact .inl (Nat.le_refl _)
/-- The mark of a map's block. -/
def mpM : Tb := .nd .lf .nm .lf
theorem mem_mkMap {g : Sig} {h : Hm} {w : World} (m : Mem g h w) {p : Pos} (h0 : g p = none) : Mem (gput g p (w.heap.size, 1, 0)) (hput h p (some ⟨0, 0, 1, .nil, mpM⟩)) (w.alloc (.map #[] 0)) where
  inj := by
    intro q q' bq bq' r b1 t1 b2 t2 hq hq' e e'
    unfold hput at hq hq'
    unfold gput at e e'
    by_cases x : q = p <;> by_cases y : q' = p
    · rw [x, y]
    · rw [if_neg y] at hq' e'
      rw [if_pos x] at e
      cases e
      have := m.lt hq' e'
      omega
    · rw [if_neg x] at hq e
      rw [if_pos y] at e'
      cases e'
      have := m.lt hq e
      omega
    · rw [if_neg x] at hq e
      rw [if_neg y] at hq' e'
      exact m.inj q q' bq bq' r b1 t1 b2 t2 hq hq' e e'
  blk := by
    intro q c e
    unfold hput at e
    by_cases x : q = p
    · rw [if_pos x] at e
      cases e
      exact ⟨w.heap.size, 1, 0, #[], by simp [gput, x], .inr ⟨rfl, rfl, rfl, .inl ⟨#[], 0, heap_alloc_new w _, .inr rfl⟩⟩, rfl, .inl rfl, by show 0 ≤ maxSize; unfold maxSize; omega, fun k hk => absurd hk (Nat.not_lt_zero k)⟩
    · rw [if_neg x] at e
      obtain ⟨r, base, tot, cur', h1, h2, h3, h4, h5, h6⟩ := m.blk q c e
      refine ⟨r, base, tot, cur', by simp [gput, x, h1], (h2.mono (gput_le _ h0)).keep (heap_alloc_keep w _ r (m.lt e h1)), h3, h4, h5, ?_⟩
      intro k hk
      obtain ⟨v, h1, h2, h3⟩ := h6 k hk
      exact ⟨v, h1, h2, V.rel_mono (gput_le _ h0) _ h3⟩
/-- What stands in a map. -/
theorem mem_map {g : Sig} {h : Hm} {w : World} (m : Mem g h w) {p : Pos} {b : Blk} (hp : h p = some b) {r : Nat} (hg : g p = some (r, 1, 0)) (hm : b.m.get .h = .nm) :
    b.size = 0 ∧ ∃ es clock, w.heap[r]? = some (.map es clock) ∧ b.z.rel g (es.toList.map entV) := by
  obtain ⟨r', base, tot, cur, h1, h2, _⟩ := m.blk p b hp
  rw [hg] at h1
  cases h1
  have hn : b.m ≠ .lf := fun e => by rw [e] at hm; cases hm
  rcases h2 with h2 | ⟨_, _, h3, ⟨es, clock, h4, h5⟩ | ⟨rec, h4, h5⟩ | ⟨s, pos, h4, h5⟩⟩
  · have := h2.2; omega
  · exact ⟨h3, es, clock, h4, h5.resolve_left hn⟩
  · obtain ⟨N, ps, x, y, _, _, _, _, _, _, h8, _⟩ := h5.resolve_left hn
    rw [hm] at h8; cases h8
  · obtain ⟨bs, _, _, h8⟩ := h5.resolve_left hn
    rw [h8] at hm; cases hm
theorem heap_setObj (w : World) (r r' : Nat) (o : Obj) (h : r' ≠ r) : ({ w with heap := w.heap.setIfInBounds r o } : World).heap[r']? = w.heap[r']? := by
  show (w.heap.setIfInBounds r o)[r']? = _
  simp [Array.getElem?_setIfInBounds, Ne.symm h]
theorem mem_setMap {g : Sig} {h : Hm} {w : World} (m : Mem g h w) {p : Pos} {b : Blk} (hp : h p = some b) {r : Nat} (hg : g p = some (r, 1, 0)) (hm : b.m.get .h = .nm) {z : L} {es : Array MapEntry} {clock : Nat} (hz : z.rel g (es.toList.map entV)) :
    Mem g (hput h p (some ⟨0, 0, 1, z, mpM⟩)) { w with heap := w.heap.setIfInBounds r (.map es clock) } where
  inj := by
    intro q q' bq bq' r' b1 t1 b2 t2 hq hq' e e'
    have : ∀ {q : Pos} {c : Blk}, hput h p (some ⟨0, 0, 1, z, mpM⟩) q = some c → ∃ c', h q = some c' := by
      intro q c e
      unfold hput at e
      split at e
      · rename_i e'; subst e'; exact ⟨b, hp⟩
      · exact ⟨c, e⟩
    obtain ⟨c, hc⟩ := this hq
    obtain ⟨c', hc'⟩ := this hq'
    exact m.inj q q' c c' r' b1 t1 b2 t2 hc hc' e e'
  blk := by
    intro q c e
    unfold hput at e
    have hlt := m.lt hp hg
    by_cases hq : q = p
    · rw [if_pos hq] at e
      cases e
      subst hq
      exact ⟨r, 1, 0, #[], hg, .inr ⟨rfl, rfl, rfl, .inl ⟨es, clock, by show (w.heap.setIfInBounds r _)[r]? = _; simp [hlt], .inr hz⟩⟩, rfl, .inl rfl, by show 0 ≤ maxSize; unfold maxSize; omega, fun k hk => absurd hk (Nat.not_lt_zero k)⟩
    · rw [if_neg hq] at e
      obtain ⟨r', base', tot', cur, h1, h2, h3, h4, h5, h6⟩ := m.blk q c e
      refine ⟨r', base', tot', cur, h1, ?_, h3, h4, h5, h6⟩
      refine h2.keep (heap_setObj w r r' _ ?_)
      intro he
      subst he
      exact hq (m.inj q p c b r' base' tot' 1 0 e hp h1 hg)
theorem fr_setMap {lim n : Nat} {g : Sig} {h : Hm} {w : World} (hd : Dom h n) {p : Pos} {b : Blk} (hp : h p = some b) (hl : lim ≤ p.num) {r base tot : Nat} (hg : g p = some (r, base, tot)) (o : Obj) (b' : Blk) :
    Fr lim n g h w n g (hput h p (some b')) { w with heap := w.heap.setIfInBounds r o } where
  le := Nat.le_refl _
  os := rfl
  tape := rfl
  output := rfl
  size := by simp
  keep := by
    intro r' _ hW
    refine heap_setObj w r r' o fun e => ?_
    subst e
    exact hW p b base tot hp hl hg
  sig := fun _ _ => rfl
  dom := by
    intro q c e
    unfold hput at e
    split at e
    · rename_i e'; subst e'; exact ⟨fun _ => ⟨b, hp⟩, hd _ _ hp⟩
    · exact ⟨fun _ => ⟨c, e⟩, hd q c e⟩
  new := fun _ _ _ _ a b => by omega

/-! Several cells. -/
noncomputable def Blk.setL (b : Blk) (k : Nat) : L → Blk
  | .nil => b
  | .cons x l => (b.setC k x).setL (k + 1) l
def V.isC : V → Bool
  | .bad | .ag _ | .tu _ => false
  | _ => true
def L.allC : L → Bool
  | .nil => true
  | .cons v l => v.isC && l.allC
theorem V.isC_one {g : Sig} {v : V} {u : Value} (h : v.isC = true) (hr : v.rel g u) : u.oneCell' = true ∧ v ≠ .bad := by
  cases v <;> simp [V.isC] at h <;> simp only [V.rel] at hr
  all_goals first
    | (obtain ⟨rfl, _⟩ := hr; exact ⟨rfl, by simp⟩)
    | (subst hr; exact ⟨rfl, by simp⟩)
    | (obtain ⟨_, _, _, _, rfl⟩ := hr; exact ⟨rfl, by simp⟩)
    | (obtain ⟨_, _, _, _, _, _, rfl, _⟩ := hr; exact ⟨rfl, by simp⟩)
    | (obtain ⟨_, _, rfl, _⟩ := hr; exact ⟨rfl, by simp⟩)
    | (obtain ⟨_, _, rfl⟩ := hr; exact ⟨rfl, by simp⟩)
    | (obtain ⟨_, rfl, _⟩ := hr; exact ⟨rfl, by simp⟩)

theorem setL_size (b : Blk) : ∀ (l : L) (k : Nat), (b.setL k l).size = b.size ∧ (b.setL k l).el = b.el ∧ (b.setL k l).z = b.z
  | .nil, _ => ⟨rfl, rfl, rfl⟩
  | .cons x l, k => setL_size (b.setC k x) l (k + 1)

theorem stores (P : Program) {lim n : Nat} {g : Sig} {p : Pos} {r base tot : Nat} (hg : g p = some (r, base, tot)) (hl : lim ≤ p.num) : ∀ (l : L) (vs : List Value) (k : Nat) (b : Blk) (h : Hm) (w : World) (i : Nat),
    Mem g h w → Dom h n → h p = some b → k + i + l.length ≤ b.size → l.allC = true → l.rel g vs →
    ∃ w', (storeCells ⟨r, base + k, none⟩ vs i).run P w = .ok () w' ∧ Mem g (hput h p (some (b.setL (k + i) l))) w' ∧ Fr lim n g h w n g (hput h p (some (b.setL (k + i) l))) w'
  | .nil, vs, k, b, h, w, i, m, hd, hp, _, _, hr => by
    rw [L.rel] at hr
    subst hr
    have e : hput h p (some (b.setL (k + i) .nil)) = h := hput_self hp
    rw [e]
    exact ⟨w, rfl, m, Fr.refl hd⟩
  | .cons x l, vs, k, b, h, w, i, m, hd, hp, hs, hc, hr => by
    rw [L.rel] at hr
    obtain ⟨u, us, rfl, h2, h3⟩ := hr
    simp only [L.length] at hs
    simp only [L.allC, Bool.and_eq_true] at hc
    obtain ⟨ho, hx⟩ := V.isC_one hc.1 h2
    obtain ⟨v0, c1, c2, c3, c4⟩ := mem_cell m hp hg (k := k + i) (by omega)
    have m1 := mem_store m hp hg (k := k + i) (by omega) hx ho h2
    have f1 := fr_store (lim := lim) (w := w) hd hp hl hg (base + (k + i)) u (b.setC (k + i) x)
    have hd1 : Dom (hput h p (some (b.setC (k + i) x))) n := f1.dom'
    obtain ⟨w', r1, m2, f2⟩ := stores P hg hl l us k (b.setC (k + i) x) _ _ (i + 1) m1 hd1 (hput_same _ _ _) (by show k + (i + 1) + l.length ≤ b.size; omega) hc.2 h3
    rw [hput_hput] at m2 f2
    refine ⟨w', ?_, m2, f1.trans f2⟩
    have ea : (⟨r, base + k, none⟩ : Addr).add i = ⟨r, base + (k + i), none⟩ := by rw [Addr.add_lit]; simp [Nat.add_assoc]
    simp only [storeCells, Sem.run_bind, run_store P w _ u .plain ho, ea, c1, c4, Bool.false_eq_true, if_false, Result.andThen_ok]
    exact r1

noncomputable def Blk.getL (b : Blk) (k : Nat) : Nat → L
  | 0 => .nil
  | n + 1 => .cons (b.cell k) (b.getL (k + 1) n)

theorem getL_rel {g : Sig} {h : Hm} {w : World} (m : Mem g h w) {p : Pos} {b : Blk} (hp : h p = some b) {r base tot : Nat} (hg : g p = some (r, base, tot)) :
    ∀ (n k : Nat), k + n ≤ b.size → ∃ vs : List Value, vs.length = n ∧ (b.getL k n).rel g vs ∧ (∀ v ∈ vs, v.oneCell' = true) ∧ ∀ j v, vs[j]? = some v → w.cell? ((⟨r, base + k, none⟩ : Addr).add j) = some v
  | 0, k, _ => ⟨[], rfl, rfl, by simp, by simp⟩
  | n + 1, k, hk => by
    obtain ⟨vs, h1, h2, h3, h4⟩ := getL_rel m hp hg n (k + 1) (by omega)
    obtain ⟨v, c1, c2, c3, _⟩ := mem_cell m hp hg (k := k) (by omega)
    refine ⟨v :: vs, by simp [h1], ⟨v, vs, rfl, c3, h2⟩, by simpa using ⟨c2, h3⟩, ?_⟩
    intro j u e
    cases j with
    | zero => simp at e; subst e; rw [Addr.add_zero']; exact c1
    | succ j =>
      have := h4 j u (by simpa using e)
      rw [Addr.add_lit] at this ⊢
      rw [← this]; congr 2; omega

end Go.Proofs.Ytjhgingmbklhaaa.Ev
