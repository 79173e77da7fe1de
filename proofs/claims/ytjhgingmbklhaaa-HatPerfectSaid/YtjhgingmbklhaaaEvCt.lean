/- Contracts with slices: a function run by itself, on blocks of its own numbering. -/
import Derived.Test.YtjhgingmbklhaaaEvSy
namespace Go.Proofs.Ytjhgingmbklhaaa.Ev
set_option linter.unusedVariables false
open Go

/-- Blocks at the first free places. -/
noncomputable def hp0 : List Blk → Nat → Hp
  | [], _ => .lf
  | b :: l, i => (hp0 l (i + 1)).put (some b) (tp i)
theorem hp0_get : ∀ (l : List Blk) (i : Nat), i + l.length < 4294967296 → ∀ p b, (hp0 l i).get p = some b → ∃ j, j < l.length ∧ p = tp (i + j) ∧ l[j]? = some b
  | [], i, _, p, b, h => by
    have h : (Hp.get p .lf) = some b := h
    rw [Hp.get_lf] at h; cases h
  | b0 :: l, i, hl, p, b, h => by
    simp only [hp0, Hp.get_put] at h
    simp only [List.length_cons] at hl
    split at h
    · rename_i e; cases h; exact ⟨0, by simp, by simpa using e, rfl⟩
    · obtain ⟨j, h1, h2, h3⟩ := hp0_get l (i + 1) (by omega) p b h
      exact ⟨j + 1, by simp; omega, by rw [h2]; congr 1; omega, by simpa using h3⟩

/-- Places of one's own numbering. -/
def ren (ps : List (Pos × Nat)) (g : Sig) : Sig := fun p => if p.num ≤ 255 then g p else match ps[p.num - 256]? with | some q => (g q.1).map fun x => (x.1, x.2.1 + q.2, x.2.2) | none => none
theorem tp_num {t : Nat} (h : t < 4294967296) : (tp t).num = t + 1 := num_posF 63 (t + 1) (by omega) (by omega)
theorem ren_at {ps : List (Pos × Nat)} {g : Sig} {j : Nat} {q : Pos × Nat} (hj : j < 1000) (h : ps[j]? = some q) : ren ps g (tp (255 + j)) = (g q.1).map fun x => (x.1, x.2.1 + q.2, x.2.2) := by
  unfold ren
  rw [tp_num (by omega), if_neg (by omega), show 255 + j + 1 - 256 = j by omega, h]

section
variable {P : Program}
structure Ins (ps : List (Pos × Nat)) (bs : List Blk) (h : Hp) : Prop where
  len : bs.length = ps.length
  few : ps.length < 1000
  nd : ∀ (i j : Nat) (p q : Pos × Nat), ps[i]? = some p → ps[j]? = some q → p.1 = q.1 → i = j
  lf : ∀ b0 ∈ bs, b0.m = .lf
  le : ∀ (j : Nat) (q : Pos × Nat) (b0 : Blk), ps[j]? = some q → bs[j]? = some b0 → ∃ b, h.get q.1 = some b ∧ b0.el = b.el ∧ q.2 + b0.size ≤ b.size ∧ ∀ k, k < b0.size → ∀ (g g' : Sig) (u : Value), V.rel g (b.cell (q.2 + k)) u → V.rel g' (b0.cell k) u

theorem Ins.mem {ps : List (Pos × Nat)} {bs : List Blk} {h : Hp} (I : Ins ps bs h) {g : Sig} {w : World} (m : Mem g h.get w) : Mem (ren ps g) (hp0 bs 255).get w where
  inj := fun p q bp bq r b1 t1 b2 t2 hp hq e1 e2 => by
    have hlen := I.len; have hfew := I.few
    obtain ⟨i, h1, rfl, h3⟩ := hp0_get bs 255 (by omega) p bp hp
    obtain ⟨j, g1, rfl, g3⟩ := hp0_get bs 255 (by omega) q bq hq
    have hi : ps[i]? = some ps[i] := List.getElem?_eq_getElem (by omega)
    have hj : ps[j]? = some ps[j] := List.getElem?_eq_getElem (by omega)
    rw [ren_at (by omega) hi, Option.map_eq_some_iff] at e1
    rw [ren_at (by omega) hj, Option.map_eq_some_iff] at e2
    obtain ⟨⟨r1, y1, z1⟩, e1, e1'⟩ := e1
    obtain ⟨⟨r2, y2, z2⟩, e2, e2'⟩ := e2
    cases e1'
    cases e2'
    obtain ⟨x, hx, _⟩ := I.le i _ bp hi h3
    obtain ⟨y, hy, _⟩ := I.le j _ bq hj g3
    have := m.inj _ _ x y _ _ _ _ _ hx hy e1 e2
    have hij : i = j := I.nd i j _ _ hi hj this
    rw [hij]
  blk := fun p b0 hp => by
    have hlen := I.len; have hfew := I.few
    obtain ⟨i, h1, rfl, h3⟩ := hp0_get bs 255 (by omega) p b0 hp
    have hi : ps[i]? = some ps[i] := List.getElem?_eq_getElem (by omega)
    obtain ⟨b, hb, e1, e2, e3⟩ := I.le i _ b0 hi h3
    obtain ⟨r, base, tot, cur, c1, c2, c3, c4, c5, c6⟩ := m.blk _ b hb
    refine ⟨r, base + ps[i].2, tot, cur, by rw [ren_at (by omega) hi, c1]; rfl, c2.cut e1 e2 c4 (I.lf _ (List.mem_of_getElem? h3)), c3, by omega, by omega, fun k hk => ?_⟩
    obtain ⟨v, d1, d2, d3⟩ := c6 (ps[i].2 + k) (by omega)
    exact ⟨v, by rw [Nat.add_assoc]; exact d1, d2, e3 k hk _ _ v d3⟩
theorem Ins.dom {ps : List (Pos × Nat)} {bs : List Blk} {h : Hp} (I : Ins ps bs h) : Dom (hp0 bs 255).get (256 + ps.length) := fun p b hp => by
  have hlen := I.len; have hfew := I.few
  obtain ⟨i, h1, rfl, _⟩ := hp0_get bs 255 (by omega) p b hp
  rw [tp_num (by omega)]; omega
theorem ren_fresh (ps : List (Pos × Nat)) (g : Sig) : FreshA (ren ps g) (256 + ps.length) := fun p hp => by
  unfold ren
  rw [if_neg (by omega), List.getElem?_eq_none (by omega)]
theorem ren_gok {ps : List (Pos × Nat)} {g : Sig} (h : GOK g) : GOK (ren ps g) := fun k hk => by
  obtain ⟨tot, e⟩ := h k hk
  refine ⟨tot, ?_⟩
  have := num_posF 63 (k + 1) (by omega) (by unfold gK at hk; omega)
  unfold ren
  rw [this, if_pos (by unfold gK at hk; omega)]; exact e

variable {dr : List Nat} {F : FF} {q : IC} {f : Nat} {fn : Func} {c : Code} {res : List RV} {args args0 : L} {ps : List (Pos × Nat)} {bs : List Blk} {h : Hp}

/-- A function that reads slices, with a plain result. -/
theorem sliceP (hfn : P.funcs[f]? = some fn) (hb : fn.body = some c) (hq : compC P dr fn.ntmps c = some q) (hres : compRVs P fn.results.toList = some res) (hnm : (fn.name == "runtime.NumGoroutine") = false)
    (I : Ins ps bs h) (hal : args0.length < 4294967296) (harg : ∀ g vs, args.rel g vs → args0.rel (ren ps g) vs) {v : V} (hpv : v.pur = true)
    (j : JQ P dr fn.ntmps F q (256 + ps.length) (Kend res fun v' _ _ => v' = v) (bind args0 0 .lf) (hp0 bs 255) (256 + ps.length)) (lim : Nat) (n : Nat) : CallsOK P f args lim h n v h n := by
  intro vs g w ha hgk m hd hf hn
  refine ⟨⟨fn, hfn, hnm, by rw [hb]; rfl⟩, ?_⟩
  refine (JQ.fn hfn hb hq hres hal j (g := ren ps g) (w := w) (harg g vs ha) (ren_gok hgk) (I.mem m) I.dom (ren_fresh ps g)).mono ?_
  rintro e w' ⟨u, g', v', h', n', rfl, rfl, _, hv, _, f⟩
  have keep : ∀ r, r < w.heap.size → w'.heap[r]? = w.heap[r]? := fun r hr => f.keep r hr fun p b base tot hp hl => by
    have := I.dom p b hp; omega
  refine ⟨u, g, rfl, V.pur_rel hpv hv, ⟨m.inj, fun p b hp => ?_⟩, ?_⟩
  · obtain ⟨r, base, tot, cur, c1, c2, c3, c4, c5, c6⟩ := m.blk p b hp
    exact ⟨r, base, tot, cur, c1, c2.keep (keep r (m.lt hp c1)), c3, c4, c5, c6⟩
  · exact { le := Nat.le_refl _, os := f.os, tape := f.tape, output := f.output, size := f.size, keep := fun r hr _ => keep r hr, sig := fun _ _ => rfl,
            dom := fun p b e => ⟨fun _ => ⟨b, e⟩, hd p b e⟩, new := fun _ _ _ _ a b => by omega }

/-- A block that is just a list. -/
def blkL (el : TypeId) (l : L) : Blk := ⟨el, l.length, l.length, l, .lf⟩
theorem blkL_cell (el : TypeId) (l : L) (j : Nat) (hj : j < l.length) : (blkL el l).cell j = l.get j := cell_lst el l j hj

/-- A function that reads slices, and hands back one that it made. -/
theorem sliceR (hfn : P.funcs[f]? = some fn) (hb : fn.body = some c) (hq : compC P dr fn.ntmps c = some q) (hres : compRVs P fn.results.toList = some res) (hnm : (fn.name == "runtime.NumGoroutine") = false)
    (I : Ins ps bs h) (hal : args0.length < 4294967296) (harg : ∀ g vs, args.rel g vs → args0.rel (ren ps g) vs)
    (C : V → V) (hC : ∀ g g' s s', (∀ u, V.rel g s u → V.rel g' s' u) → ∀ u, V.rel g (C s) u → V.rel g' (C s') u)
    {el esz len : Nat} {cap : Option Nat} {l : L} (hlp : l.pur = true) (hll : l.length = len * esz)
    (j : JQ P dr fn.ntmps F q (256 + ps.length) (Kend res fun v' h' n' => ∃ p off b, v' = C (.sl p off esz len cap) ∧ 256 + ps.length ≤ p.num ∧ p.num < n' ∧ h'.get p = some b ∧ b.el = el ∧ off + l.length ≤ b.size ∧ ∀ k, k < l.length → b.cell (off + k) = l.get k)
      (bind args0 0 .lf) (hp0 bs 255) (256 + ps.length)) (lim : Nat) {n : Nat} (hn1 : 1 ≤ n) : CallsOK P f args lim h n (C (.sl (posF 63 n) 0 esz len cap)) (h.put (some (blkL el l)) (posF 63 n)) (n + 1) := by
  intro vs g w ha hgk m hd hf hn
  refine ⟨⟨fn, hfn, hnm, by rw [hb]; rfl⟩, ?_⟩
  refine (JQ.fn hfn hb hq hres hal j (g := ren ps g) (w := w) (harg g vs ha) (ren_gok hgk) (I.mem m) I.dom (ren_fresh ps g)).mono ?_
  rintro e w' ⟨u, g', v', h', n', rfl, ⟨p, off, b, rfl, hp1, hp2, hpb, hel, hsz, hcell⟩, _, hv, m', fr⟩
  have keep : ∀ r, r < w.heap.size → w'.heap[r]? = w.heap[r]? := fun r hr => fr.keep r hr fun p b base tot hp hl => by
    have := I.dom p b hp; omega
  obtain ⟨r, base, tot, cur, c1, c2, c3, c4, c5, c6⟩ := m'.blk p b hpb
  have hr : w.heap.size ≤ r := by
    rcases fr.new p r base tot hp1 hp2 c1 with h1 | ⟨q0, b0, x, y, h1, h2, h3⟩
    · exact h1
    · have := I.dom q0 b0 h1; omega
  have hpn : (posF 63 n).num = n := num_posF 63 n hn1 (by omega)
  have h0 : g (posF 63 n) = none := hf _ (by omega) (by omega)
  have hlpur : ∀ (l : L) k, l.pur = true → (l.get k).pur = true := by
    intro l
    induction l using L.rec (motive_1 := fun _ => True) with
    | nil => intro k _; rfl
    | cons v l _ ih =>
      intro k hk
      simp [L.pur] at hk
      cases k with
      | zero => exact hk.1
      | succ k => exact ih k hk.2
    | _ => trivial
  refine ⟨u, gput g (posF 63 n) (r, base + off, tot), rfl, ?_, ⟨?_, ?_⟩, ?_⟩
  · refine hC g' _ _ _ (fun u hu => ?_) u hv
    rw [V.rel] at hu ⊢
    obtain ⟨r', base', tot', c', o', e1, e2, e3, e4, e5, e6, e7, e8⟩ := hu
    rw [c1] at e1
    cases e1
    exact ⟨r, base + off, tot, c', o', by simp [gput], e2, e3, e4, e5, fun x => by rw [e6 x]; simp, by simpa using e7, by cases cap <;> simpa using e8⟩
  · intro p1 p2 x1 x2 r' b1 t1 b2 t2 hp1' hp2' e1 e2
    have hp1' := (Hp.get_put _ _ _ _).symm.trans hp1'
    have hp2' := (Hp.get_put _ _ _ _).symm.trans hp2'
    unfold gput at e1 e2
    by_cases z1 : p1 = posF 63 n <;> by_cases z2 : p2 = posF 63 n
    · rw [z1, z2]
    · rw [if_pos z1] at e1; rw [if_neg z2] at e2 hp2'
      cases e1
      have := m.lt hp2' e2; omega
    · rw [if_pos z2] at e2; rw [if_neg z1] at e1 hp1'
      cases e2
      have := m.lt hp1' e1; omega
    · rw [if_neg z1] at e1 hp1'; rw [if_neg z2] at e2 hp2'
      exact m.inj p1 p2 x1 x2 r' b1 t1 b2 t2 hp1' hp2' e1 e2
  · intro p1 x hp1'
    have hp1' := (Hp.get_put _ _ _ _).symm.trans hp1'
    by_cases z1 : p1 = posF 63 n
    · rw [if_pos z1] at hp1'
      cases hp1'
      refine ⟨r, base + off, tot, cur, by simp [gput, z1], c2.cut hel.symm hsz c4 rfl, c3, by show l.length = 0 ∨ base + off + l.length ≤ tot; omega, by show l.length ≤ maxSize; omega, fun k hk => ?_⟩
      have hk' : k < l.length := hk
      obtain ⟨v, d1, d2, d3⟩ := c6 (off + k) (by omega)
      refine ⟨v, by rw [Nat.add_assoc]; exact d1, d2, ?_⟩
      rw [blkL_cell el l k hk', ← hcell k hk']
      refine V.pur_rel ?_ d3
      rw [hcell k hk']; exact hlpur l k hlp
    · rw [if_neg z1] at hp1'
      obtain ⟨r', base', tot', cur', d1, d2, d3, d4, d5, d6⟩ := m.blk p1 x hp1'
      refine ⟨r', base', tot', cur', by simp [gput, z1, d1], (d2.mono (gput_le _ h0)).keep (keep r' (m.lt hp1' d1)), d3, d4, d5, fun k hk => ?_⟩
      obtain ⟨v, y1, y2, y3⟩ := d6 k hk
      exact ⟨v, y1, y2, V.rel_mono (gput_le _ h0) _ y3⟩
  · exact {
      le := by omega
      os := fr.os
      tape := fr.tape
      output := fr.output
      size := fr.size
      keep := fun r hr _ => keep r hr
      sig := fun p1 hp => by
        unfold gput
        rw [if_neg (fun e => by subst e; omega)]
      dom := fun p1 x e => by
        have e := (Hp.get_put _ _ _ _).symm.trans e
        by_cases z1 : p1 = posF 63 n
        · exact ⟨fun y => by rw [z1, hpn] at y; omega, by rw [z1, hpn]; omega⟩
        · rw [if_neg z1] at e
          exact ⟨fun _ => ⟨x, e⟩, by have := hd p1 x e; omega⟩
      new := fun p1 r' b' t' x y e => by
        have : p1 = posF 63 n := Pos.num_inj (by omega)
        subst this
        simp only [gput, if_pos] at e
        cases e
        exact .inl hr }

/-- What a call comes to in an empty memory, it comes to in any. -/
theorem callsAny {P : Program} {f : Nat} {args : L} {v : V} {h' : Hp} {n' l0 : Nat} (hl : l0 = 256) (hc : CallsOK P f args l0 .lf 256 v h' n') (hn : n' < 9223372036854775808) (hpa : args.pur = true) (hpv : v.pur = true) (lim : Nat) (h : Hp) (n : Nat) : CallsOK P f args lim h n v h n := by
  subst hl
  intro vs g w ha hgk m hd hf _
  have h0 : ∀ p, (Hp.get p .lf) = none := Hp.get_lf
  obtain ⟨hx, hy⟩ := hc vs (ren [] g) w (L.pur_rel hpa ha) (ren_gok hgk) ⟨fun p q bp bq _ _ _ _ _ hp => (nomatch (h0 _).symm.trans hp), fun p b hp => (nomatch (h0 _).symm.trans hp)⟩
    (fun p b hp => (nomatch (h0 _).symm.trans hp)) ((ren_fresh [] g).to _) hn
  refine ⟨hx, hy.mono ?_⟩
  rintro e w' ⟨u, g', rfl, hv, _, f⟩
  have keep : ∀ r, r < w.heap.size → w'.heap[r]? = w.heap[r]? := fun r hr => f.keep r hr fun p b base tot hp => by
    have := (h0 _).symm.trans hp; cases this
  refine ⟨u, g, rfl, V.pur_rel hpv hv, ⟨m.inj, fun p b hp => ?_⟩, ?_⟩
  · obtain ⟨r, base, tot, cur, c1, c2, c3, c4, c5, c6⟩ := m.blk p b hp
    exact ⟨r, base, tot, cur, c1, c2.keep (keep r (m.lt hp c1)), c3, c4, c5, c6⟩
  · exact { le := Nat.le_refl _, os := f.os, tape := f.tape, output := f.output, size := f.size, keep := fun r hr _ => keep r hr, sig := fun _ _ => rfl,
            dom := fun p b e => ⟨fun _ => ⟨b, e⟩, hd p b e⟩, new := fun _ _ _ _ a b => by omega }

/-- A slice that is handed over, in its own numbering. -/
theorem sl_ren {ps : List (Pos × Nat)} {g : Sig} {j : Nat} {q : Pos} {off esz len : Nat} {cap : Option Nat} {u : Value} (hj : j < 1000) (h : ps[j]? = some (q, off)) (hr : (V.sl q off esz len cap).rel g u) : (V.sl (tp (255 + j)) 0 esz len cap).rel (ren ps g) u := by
  rw [V.rel] at hr ⊢
  obtain ⟨r, base, tot, c, o', h1, h2, h3, h4, h5, h6, h7, h8⟩ := hr
  refine ⟨r, base + off, tot, c, o', by rw [ren_at hj h, h1]; rfl, h2, h3, h4, h5, fun x => by rw [h6 x]; simp, by simpa using h7, by cases cap <;> simpa using h8⟩

end

/-! What a function hands back: a plain value, or a slice that it made, alone or beside a plain one. -/
inductive Out where
  | no | v (x : V) | sl (el esz len : Nat) (cap : Option Nat) (l : L) | slE (el esz len : Nat) (cap : Option Nat) (l : L) (e : V)
noncomputable def Out.res : Out → Hp → Nat → Res
  | .no, _, _ => .no
  | .v x, h, n => .ok x h n
  | .sl el esz len cap l, h, n => if 1 ≤ n then .ok (.sl (tp (n - 1)) 0 esz len cap) (h.put (some (blkL el l)) (tp (n - 1))) (n + 1) else .no
  | .slE el esz len cap l e, h, n => if 1 ≤ n then .ok (.tu (.cons (.sl (tp (n - 1)) 0 esz len cap) (.cons e .nil))) (h.put (some (blkL el l)) (tp (n - 1))) (n + 1) else .no
theorem res_v (x : V) (h : Hp) (n : Nat) : (Out.v x).res h n = .ok x h n := rfl
theorem res_sl (el esz len : Nat) (cap : Option Nat) (l : L) (h : Hp) (n : Nat) (hn : 1 ≤ n) : (Out.sl el esz len cap l).res h n = .ok (.sl (tp (n - 1)) 0 esz len cap) (h.put (some (blkL el l)) (tp (n - 1))) (n + 1) := if_pos hn
theorem res_slE (el esz len : Nat) (cap : Option Nat) (l : L) (e : V) (h : Hp) (n : Nat) (hn : 1 ≤ n) : (Out.slE el esz len cap l e).res h n = .ok (.tu (.cons (.sl (tp (n - 1)) 0 esz len cap) (.cons e .nil))) (h.put (some (blkL el l)) (tp (n - 1))) (n + 1) := if_pos hn
theorem Out.res_ge (o : Out) (h : Hp) (n : Nat) : (o.res h n).ge n := by
  cases o with
  | no => trivial
  | v => exact Nat.le_refl n
  | sl => simp only [Out.res]; split <;> first | exact Nat.le_succ n | trivial
  | slE => simp only [Out.res]; split <;> first | exact Nat.le_succ n | trivial
/-- What a function's own run is to come to. -/
def Good (nb : Nat) : Out → V → Hp → Nat → Prop
  | .no => fun _ _ _ => False
  | .v x => fun v _ _ => v = x ∧ x.pur = true
  | .sl el esz len cap l => fun v h' n' => (l.pur = true ∧ l.length = len * esz) ∧ ∃ p off b, v = .sl p off esz len cap ∧ 256 + nb ≤ p.num ∧ p.num < n' ∧ h'.get p = some b ∧ b.el = el ∧ off + l.length ≤ b.size ∧ ∀ k, k < l.length → b.cell (off + k) = l.get k
  | .slE el esz len cap l e => fun v h' n' => (l.pur = true ∧ l.length = len * esz ∧ e.pur = true) ∧ ∃ p off b, v = .tu (.cons (.sl p off esz len cap) (.cons e .nil)) ∧ 256 + nb ≤ p.num ∧ p.num < n' ∧ h'.get p = some b ∧ b.el = el ∧ off + l.length ≤ b.size ∧ ∀ k, k < l.length → b.cell (off + k) = l.get k

/-- The contract of a function out of its own run. -/
theorem outC {P : Program} {dr : List Nat} {F : FF} {q : IC} {f : Nat} {fn : Func} {c : Code} {res : List RV} {args args0 : L} {ps : List (Pos × Nat)} {bs : List Blk} {h : Hp}
    (hfn : P.funcs[f]? = some fn) (hnm : (fn.name == "runtime.NumGoroutine") = false) (hb : fn.body = some c) (hq : compC P dr fn.ntmps c = some q) (hres : compRVs P fn.results.toList = some res)
    (I : Ins ps bs h) (hal : args0.length < 4294967296) (harg : ∀ g vs, args.rel g vs → args0.rel (ren ps g) vs) (o : Out)
    (ho : match o with | .no => True | .v x => x.pur = true | .sl _ esz len _ l => l.pur = true ∧ l.length = len * esz | .slE _ esz len _ l e => l.pur = true ∧ l.length = len * esz ∧ e.pur = true)
    (j : JQ P dr fn.ntmps F q (256 + ps.length) (Kend res (Good ps.length o)) (bind args0 0 .lf) (hp0 bs 255) (256 + ps.length)) (lim : Nat) (n : Nat) {v : V} {h' : Hp} {n' : Nat} (hr : o.res h n = .ok v h' n') : CallsOK P f args lim h n v h' n' := by
  cases o with
  | no => cases hr
  | v x =>
    cases hr
    exact sliceP hfn hb hq hres hnm I hal harg ho (JQ.mono (fun r hk => by cases r <;> first | exact ⟨hk.1, hk.2.1⟩ | exact hk) j) lim n
  | sl el esz len cap l =>
    simp only [Out.res] at hr
    split at hr
    · rename_i hn
      cases hr
      have e : tp (n - 1) = posF 63 n := by show posF 63 (n - 1 + 1) = _; rw [Nat.sub_add_cancel hn]
      rw [e]
      exact sliceR hfn hb hq hres hnm I hal harg id (fun _ _ _ _ h u hu => h u hu) ho.1 ho.2 (JQ.mono (fun r hk => by cases r <;> first | exact ⟨hk.1, hk.2.2⟩ | exact hk) j) lim hn
    · cases hr
  | slE el esz len cap l x =>
    simp only [Out.res] at hr
    split at hr
    · rename_i hn
      cases hr
      have e : tp (n - 1) = posF 63 n := by show posF 63 (n - 1 + 1) = _; rw [Nat.sub_add_cancel hn]
      rw [e]
      exact sliceR hfn hb hq hres hnm I hal harg (fun s => .tu (.cons s (.cons x .nil))) (fun g g' s s' hs u hu => by
        rw [V.rel] at hu ⊢
        obtain ⟨vs, h1, u1, us, h2, h3, u2, us', h4, h5, h6⟩ := hu
        exact ⟨vs, h1, u1, us, h2, hs u1 h3, u2, us', h4, V.pur_rel ho.2.2 h5, h6⟩) ho.1 ho.2.1 (JQ.mono (fun r hk => by cases r <;> first | exact ⟨hk.1, hk.2.2⟩ | exact hk) j) lim hn
    · cases hr
theorem Ins.none (h : Hp) : Ins [] [] h := ⟨rfl, by simp, by simp, by simp, by simp⟩
theorem ren_nil_rel {args : L} (hp : args.pur = true) : ∀ g vs, args.rel g vs → args.rel (ren [] g) vs := fun g vs h => L.pur_rel hp h

/-! A table of contracts. -/
def F0 : FF := fun _ _ _ _ _ => .no
theorem F0_ok (P : Program) : FOK P F0 := ⟨fun f args lim h n v h' n' hr => (by cases hr), fun p args lim h n v h' n' hr => (by cases hr)⟩
theorem F0_mono : F0.mono := fun _ _ _ _ _ => trivial
def ov (f : Nat) (s : L → Nat → Hp → Nat → Res) (F : FF) : FF := fun g args lim h n => if g = f then s args lim h n else F g args lim h n
def SOK (P : Program) (f : Nat) (s : L → Nat → Hp → Nat → Res) : Prop := ∀ args lim h n v h' n', s args lim h n = .ok v h' n' → CallsOK P f args lim h n v h' n'
def SMo (s : L → Nat → Hp → Nat → Res) : Prop := ∀ args lim h n, (s args lim h n).ge n
theorem ov_ok {P : Program} {f : Nat} {s : L → Nat → Hp → Nat → Res} {F : FF} (hs : SOK P f s) (hF : FOK P F) (hne : YID ≠ f := by decide) : FOK P (ov f s F) := by
  refine ⟨fun g args lim h n v h' n' hr => ?_, fun p args lim h n v h' n' hr => ?_⟩
  · unfold ov at hr
    split at hr
    · rename_i e; subst e; exact hs _ _ _ _ _ _ _ hr
    · exact hF.1 _ _ _ _ _ _ _ _ hr
  · unfold ov at hr
    rw [if_neg hne] at hr
    exact hF.2 _ _ _ _ _ _ _ _ hr
theorem ov_mono {f : Nat} {s : L → Nat → Hp → Nat → Res} {F : FF} (hs : SMo s) (hF : F.mono) : (ov f s F).mono := fun g args lim h n => by
  unfold ov
  split
  · exact hs _ _ _ _
  · exact hF _ _ _ _ _
theorem ov_at (f : Nat) (s : L → Nat → Hp → Nat → Res) (F : FF) (g : Nat) (args : L) (lim : Nat) (h : Hp) (n : Nat) : ov f s F g args lim h n = if g = f then s args lim h n else F g args lim h n := rfl

/-- An int, if it is one. -/
def asI : V → Option Int
  | .n a => if a < 9223372036854775808 then some a else none
  | .i .i64 z => some z
  | _ => none
theorem asI_I (z : Int) : asI (I z) = some z := by
  cases z with
  | ofNat a =>
    simp only [I, mkI, fN_eq]
    cases h : Nat.blt a 9223372036854775808
    · rfl
    · rw [Nat.blt_eq] at h; simp [asI, h]
  | negSucc a => simp only [I, mkI, fN_eq]; rfl
theorem asI_rel {v : V} {z : Int} (h : asI v = some z) {g : Sig} {u : Value} (hr : v.rel g u) : (I z).rel g u := by
  unfold asI at h
  split at h
  · split at h
    · rename_i hlt; cases h; rw [V.rel] at hr; rw [hr.1]; exact I_rel
    · cases h
  · cases h; rw [V.rel] at hr; rw [hr]; exact I_rel
  · cases h
theorem callsArgs {P : Program} {f : Nat} {args args' : L} (h : ∀ g vs, args.rel g vs → args'.rel g vs) {lim n n' : Nat} {hh h' : Hp} {v : V} (hc : CallsOK P f args' lim hh n v h' n') : CallsOK P f args lim hh n v h' n' :=
  fun vs g w ha => hc vs g w (h g vs ha)

noncomputable def spS (f : List Nat → Out) (args : L) (_ : Nat) (h : Hp) (n : Nat) : Res := match args with | .cons (.s bs) .nil => (f bs).res h n | _ => .no
noncomputable def spSI (f : List Nat → Int → Out) (args : L) (_ : Nat) (h : Hp) (n : Nat) : Res := match args with | .cons (.s bs) (.cons v .nil) => (match asI v with | some z => (f bs z).res h n | none => .no) | _ => .no
noncomputable def spSII (f : List Nat → Int → Int → Out) (args : L) (_ : Nat) (h : Hp) (n : Nat) : Res := match args with | .cons (.s bs) (.cons v (.cons u .nil)) => (match asI v, asI u with | some z, some y => (f bs z y).res h n | _, _ => .no) | _ => .no
noncomputable def spI (f : Int → Out) (args : L) (_ : Nat) (h : Hp) (n : Nat) : Res := match args with | .cons v .nil => (match asI v with | some z => (f z).res h n | none => .no) | _ => .no
noncomputable def spII (f : Int → Int → Out) (args : L) (_ : Nat) (h : Hp) (n : Nat) : Res := match args with | .cons v (.cons u .nil) => (match asI v, asI u with | some z, some y => (f z y).res h n | _, _ => .no) | _ => .no
noncomputable def spIII (f : Int → Int → Int → Out) (args : L) (_ : Nat) (h : Hp) (n : Nat) : Res := match args with | .cons v (.cons u (.cons t .nil)) => (match asI v, asI u, asI t with | some z, some y, some x => (f z y x).res h n | _, _, _ => .no) | _ => .no
noncomputable def spIIII (f : Int → Int → Int → Int → Out) (args : L) (_ : Nat) (h : Hp) (n : Nat) : Res := match args with | .cons v (.cons u (.cons t (.cons s .nil))) => (match asI v, asI u, asI t, asI s with | some z, some y, some x, some w => (f z y x w).res h n | _, _, _, _ => .no) | _ => .no
section
variable (lim : Nat) (h : Hp) (n : Nat)
theorem spS_eq (f : List Nat → Out) (bs : List Nat) : spS f (.cons (.s bs) .nil) lim h n = (f bs).res h n := rfl
theorem spSI_eq (f : List Nat → Int → Out) (bs : List Nat) (z : Int) : spSI f (.cons (.s bs) (.cons (I z) .nil)) lim h n = (f bs z).res h n := by simp only [spSI, asI_I]
theorem spSII_eq (f : List Nat → Int → Int → Out) (bs : List Nat) (z y : Int) : spSII f (.cons (.s bs) (.cons (I z) (.cons (I y) .nil))) lim h n = (f bs z y).res h n := by simp only [spSII, asI_I]
theorem spI_eq (f : Int → Out) (z : Int) : spI f (.cons (I z) .nil) lim h n = (f z).res h n := by simp only [spI, asI_I]
theorem spII_eq (f : Int → Int → Out) (z y : Int) : spII f (.cons (I z) (.cons (I y) .nil)) lim h n = (f z y).res h n := by simp only [spII, asI_I]
theorem spIII_eq (f : Int → Int → Int → Out) (z y x : Int) : spIII f (.cons (I z) (.cons (I y) (.cons (I x) .nil))) lim h n = (f z y x).res h n := by simp only [spIII, asI_I]
theorem spIIII_eq (f : Int → Int → Int → Int → Out) (z y x w : Int) : spIIII f (.cons (I z) (.cons (I y) (.cons (I x) (.cons (I w) .nil)))) lim h n = (f z y x w).res h n := by simp only [spIIII, asI_I]
end
theorem ge_no' {n : Nat} : Res.ge n .no := trivial
theorem spS_mo (f : List Nat → Out) : SMo (spS f) := fun args lim h n => by unfold spS; split <;> first | exact Out.res_ge _ _ _ | trivial
theorem spSI_mo (f : List Nat → Int → Out) : SMo (spSI f) := fun args lim h n => by unfold spSI; split <;> (try split) <;> first | exact Out.res_ge _ _ _ | trivial
theorem spSII_mo (f : List Nat → Int → Int → Out) : SMo (spSII f) := fun args lim h n => by unfold spSII; split <;> (try split) <;> first | exact Out.res_ge _ _ _ | trivial
theorem spI_mo (f : Int → Out) : SMo (spI f) := fun args lim h n => by unfold spI; split <;> (try split) <;> first | exact Out.res_ge _ _ _ | trivial
theorem spII_mo (f : Int → Int → Out) : SMo (spII f) := fun args lim h n => by unfold spII; split <;> (try split) <;> first | exact Out.res_ge _ _ _ | trivial
theorem spIII_mo (f : Int → Int → Int → Out) : SMo (spIII f) := fun args lim h n => by unfold spIII; split <;> (try split) <;> first | exact Out.res_ge _ _ _ | trivial
theorem spIIII_mo (f : Int → Int → Int → Int → Out) : SMo (spIIII f) := fun args lim h n => by unfold spIIII; split <;> (try split) <;> first | exact Out.res_ge _ _ _ | trivial
theorem rel_cons {g g' : Sig} {v v' : V} {l l' : L} (h1 : ∀ u, V.rel g v u → V.rel g' v' u) (h2 : ∀ us, L.rel g l us → L.rel g' l' us) : ∀ vs, L.rel g (.cons v l) vs → L.rel g' (.cons v' l') vs := fun vs h => by
  rw [L.rel] at h ⊢
  obtain ⟨u, us, e, a, b⟩ := h
  exact ⟨u, us, e, h1 u a, h2 us b⟩
theorem spS_ok {P : Program} {k : Nat} {f : List Nat → Out} (hc : ∀ bs lim h n v h' n', (f bs).res h n = .ok v h' n' → CallsOK P k (.cons (.s bs) .nil) lim h n v h' n') : SOK P k (spS f) := fun args lim h n v h' n' hr => by
  unfold spS at hr
  split at hr
  · exact hc _ _ _ _ _ _ _ hr
  · cases hr
theorem spSI_ok {P : Program} {k : Nat} {f : List Nat → Int → Out} (hc : ∀ bs z lim h n v h' n', (f bs z).res h n = .ok v h' n' → CallsOK P k (.cons (.s bs) (.cons (I z) .nil)) lim h n v h' n') : SOK P k (spSI f) := fun args lim h n v h' n' hr => by
  unfold spSI at hr
  split at hr
  · split at hr
    · rename_i hz; exact callsArgs (fun g => rel_cons (fun _ h => h) (rel_cons (fun _ => asI_rel hz) fun _ h => h)) (hc _ _ _ _ _ _ _ _ hr)
    · cases hr
  · cases hr
theorem spSII_ok {P : Program} {k : Nat} {f : List Nat → Int → Int → Out} (hc : ∀ bs z y lim h n v h' n', (f bs z y).res h n = .ok v h' n' → CallsOK P k (.cons (.s bs) (.cons (I z) (.cons (I y) .nil))) lim h n v h' n') : SOK P k (spSII f) := fun args lim h n v h' n' hr => by
  unfold spSII at hr
  split at hr
  · split at hr
    · rename_i hz hy; exact callsArgs (fun g => rel_cons (fun _ h => h) (rel_cons (fun _ => asI_rel hz) (rel_cons (fun _ => asI_rel hy) fun _ h => h))) (hc _ _ _ _ _ _ _ _ _ hr)
    · cases hr
  · cases hr
theorem spI_ok {P : Program} {k : Nat} {f : Int → Out} (hc : ∀ z lim h n v h' n', (f z).res h n = .ok v h' n' → CallsOK P k (.cons (I z) .nil) lim h n v h' n') : SOK P k (spI f) := fun args lim h n v h' n' hr => by
  unfold spI at hr
  split at hr
  · split at hr
    · rename_i hz; exact callsArgs (fun g => rel_cons (fun _ => asI_rel hz) fun _ h => h) (hc _ _ _ _ _ _ _ hr)
    · cases hr
  · cases hr
theorem spII_ok {P : Program} {k : Nat} {f : Int → Int → Out} (hc : ∀ z y lim h n v h' n', (f z y).res h n = .ok v h' n' → CallsOK P k (.cons (I z) (.cons (I y) .nil)) lim h n v h' n') : SOK P k (spII f) := fun args lim h n v h' n' hr => by
  unfold spII at hr
  split at hr
  · split at hr
    · rename_i hz hy; exact callsArgs (fun g => rel_cons (fun _ => asI_rel hz) (rel_cons (fun _ => asI_rel hy) fun _ h => h)) (hc _ _ _ _ _ _ _ _ hr)
    · cases hr
  · cases hr
theorem spIII_ok {P : Program} {k : Nat} {f : Int → Int → Int → Out} (hc : ∀ z y x lim h n v h' n', (f z y x).res h n = .ok v h' n' → CallsOK P k (.cons (I z) (.cons (I y) (.cons (I x) .nil))) lim h n v h' n') : SOK P k (spIII f) := fun args lim h n v h' n' hr => by
  unfold spIII at hr
  split at hr
  · split at hr
    · rename_i hz hy hx; exact callsArgs (fun g => rel_cons (fun _ => asI_rel hz) (rel_cons (fun _ => asI_rel hy) (rel_cons (fun _ => asI_rel hx) fun _ h => h))) (hc _ _ _ _ _ _ _ _ _ hr)
    · cases hr
  · cases hr
theorem spIIII_ok {P : Program} {k : Nat} {f : Int → Int → Int → Int → Out} (hc : ∀ z y x w lim h n v h' n', (f z y x w).res h n = .ok v h' n' → CallsOK P k (.cons (I z) (.cons (I y) (.cons (I x) (.cons (I w) .nil)))) lim h n v h' n') : SOK P k (spIIII f) := fun args lim h n v h' n' hr => by
  unfold spIIII at hr
  split at hr
  · split at hr
    · rename_i hz hy hx hw; exact callsArgs (fun g => rel_cons (fun _ => asI_rel hz) (rel_cons (fun _ => asI_rel hy) (rel_cons (fun _ => asI_rel hx) (rel_cons (fun _ => asI_rel hw) fun _ h => h)))) (hc _ _ _ _ _ _ _ _ _ _ hr)
    · cases hr
  · cases hr
end Go.Proofs.Ytjhgingmbklhaaa.Ev
