/- Regions whose order is the text's. -/
import Derived.Test.YtjhgingmbklhaaaEvN
namespace Go.Proofs.Ytjhgingmbklhaaa.Ev
set_option linter.unusedVariables false
open Go

def tp (t : Nat) : Pos := posF 63 (t + 1)
theorem tp_inj {t u : Nat} (ht : t < 4294967296) (hu : u < 4294967296) (e : tp t = tp u) : t = u := by
  have := congrArg Pos.num e
  unfold tp at this
  rw [num_posF _ _ (by omega) (by omega), num_posF _ _ (by omega) (by omega)] at this
  omega

/-! The deferred calls of a frame: nothing but marks of loops over functions, whose blocks are empty. -/
def isMk (s : Nat) (w : World) (d : Deferred) : Prop := ∃ r, s ≤ r ∧ d = { target := .collected r, args := #[] } ∧ w.heap[r]? = some (.deferred (some []))
def Mk (s : Nat) (w : World) (a : Act) : Prop := a.defers.Nodup ∧ ∀ d ∈ a.defers, isMk s w d
def MkK (w : World) (a : Act) (w' : World) (a' : Act) : Prop := w.heap.size ≤ w'.heap.size ∧ ∀ s, s ≤ w.heap.size → Mk s w a → Mk s w' a'
theorem MkK.refl {w : World} {a : Act} : MkK w a w a := ⟨Nat.le_refl _, fun _ _ h => h⟩
theorem MkK.trans {w w1 w2 : World} {a a1 a2 : Act} (x : MkK w a w1 a1) (y : MkK w1 a1 w2 a2) : MkK w a w2 a2 := ⟨Nat.le_trans x.1 y.1, fun s hs h => y.2 s (Nat.le_trans hs x.1) (x.2 s hs h)⟩
theorem RowM.notDef {w : World} {g : Sig} {r base tot : Nat} {cur : Array Value} {b : Blk} (h : RowM w g r base tot cur b) (x : Option (List Deferred)) : w.heap[r]? ≠ some (.deferred x) := fun e => by
  rcases h with ⟨⟨fz, h, _⟩, _⟩ | ⟨_, _, _, ⟨es, clock, h, _⟩ | ⟨rec, h, _⟩ | ⟨s, pos, h, _⟩⟩ <;> rw [e] at h <;> cases h
theorem mk_keep {lim n n' : Nat} {g g' : Sig} {h h' : Hm} {w w' : World} {a a' : Act} (m : Mem g h w) (f : Fr lim n g h w n' g' h' w') (hd : a'.defers = a.defers) : MkK w a w' a' := ⟨f.size, fun s hs hk => ⟨by rw [hd]; exact hk.1, fun d hdm => by
  rw [hd] at hdm
  obtain ⟨r, h1, h2, h3⟩ := hk.2 d hdm
  refine ⟨r, h1, h2, (f.keep r (Array.getElem?_eq_some_iff.1 h3).1 fun p b base tot hp hl hg => ?_).trans h3⟩
  obtain ⟨r', base', tot', cur, c1, c2, _⟩ := m.blk p b hp
  rw [hg] at c1
  cases c1
  exact c2.notDef _ h3⟩⟩
theorem put_defers (a : Act) (d : Option Tmp) (u : Value) : (a.put d u).defers = a.defers := by cases d <;> rfl

structure EnvA (N : Nat) (g : Sig) (e : Tr) (a : Act) : Prop where
  sz : N ≤ a.tmps.size
  glo : GOK g
  rel : ∀ t, t < 4294967296 → (e.get (tp t)).rel g (a.tmps.getD t undef)

section
variable {N : Nat} {g g' : Sig} {e : Tr} {a : Act}
theorem EnvA.ok (h : EnvA N g e a) : EnvOK g e a.eval := by
  intro o x hx
  cases o with
  | tmp t =>
    simp only [compX] at hx
    split at hx
    · rename_i ht; cases hx; exact h.rel t ht
    · cases hx
  | const v =>
    simp only [compX, Option.map_eq_some_iff] at hx
    obtain ⟨v', hv, rfl⟩ := hx
    exact ofVal_rel g v hv
  | func f =>
    simp only [compX, Option.some.injEq] at hx
    subst hx
    exact ⟨[], [], rfl, rfl, rfl⟩
  | global k =>
    simp only [compX] at hx
    split at hx
    · rename_i hk; cases hx; exact h.glo.rel hk
    · cases hx
theorem EnvA.mono (h : EnvA N g e a) (hl : g.le g') : EnvA N g' e a := ⟨h.sz, h.glo.mono hl, fun t ht => V.rel_mono hl _ (h.rel t ht)⟩

/-- Where a result goes. -/
def compD (N : Nat) : Option Nat → Option (Option Pos)
  | none => some none
  | some t => if t < N ∧ t < 4294967296 then some (some (tp t)) else none
theorem EnvA.put (h : EnvA N g e a) {od : Option Nat} {d : Option Pos} (hd : compD N od = some d) {v : V} {u : Value} (hv : v.rel g u) : EnvA N g (setD d v e) (a.put od u) := by
  cases od with
  | none => simp only [compD, Option.some.injEq] at hd; subst hd; exact h
  | some t =>
    simp only [compD] at hd
    split at hd
    · rename_i ht
      cases hd
      refine ⟨by simp [Act.put]; exact h.sz, h.glo, fun s hs => ?_⟩
      show ((e.set v (tp t)).get (tp s)).rel g ((a.tmps.setIfInBounds t u).getD s undef)
      rw [Tr.get_set]
      by_cases hts : s = t
      · subst hts
        rw [if_pos rfl]
        have : s < a.tmps.size := by have := h.sz; omega
        simpa [Array.getD, this] using hv
      · rw [if_neg (fun e => hts (tp_inj hs ht.2 e))]
        have := h.rel s hs
        simpa [Array.getD_eq_getD_getElem?, Array.getElem?_setIfInBounds_ne (Ne.symm hts)] using this
    · cases hd
end

def compG (N : Nat) (ops : Array Oper) : Option (Nat × Bool) → Option (Option (Pos × Bool))
  | none => some none
  | some (j, b) => match (ops[j]?).bind (·.dst) with
    | some t => if t < N ∧ t < 4294967296 then some (some (tp t, b)) else none
    | none => none

def compR (P : Program) (N : Nat) (ops : Array Oper) : List Oper → Option RL
  | [] => some .nil
  | o :: l => match compD N o.dst, compG N ops o.guard, compO P o, compR P N ops l with
    | some d, some g, some q, some r => some (.cons d g q r)
    | _, _, _, _ => none

theorem wanted_of {N : Nat} {g : Sig} {e : Tr} {a : Act} (h : EnvA N g e a) {ops : Array Oper} {o : Oper} {p : Pos} {b : Bool} (hg : compG N ops o.guard = some (some (p, b))) :
    (∀ x, e.get p = .b x → Region.wanted o (yielded ops a.tmps) = (x == b)) ∧ (e.get p = .tu .nil → Region.wanted o (yielded ops a.tmps) = false) := by
  cases hgd : o.guard with
  | none => rw [hgd] at hg; simp [compG] at hg
  | some jb =>
    obtain ⟨j, b'⟩ := jb
    rw [hgd] at hg
    simp only [compG] at hg
    split at hg
    · rename_i t hdst
      split at hg
      · rename_i ht
        cases hg
        have hr := h.rel t ht.2
        have hlt : t < a.tmps.size := Nat.lt_of_lt_of_le ht.1 h.sz
        have hy : yielded ops a.tmps j = match a.tmps[t] with | .bool b => some b | _ => none := by
          simp only [yielded, hdst, Option.bind_some, Array.getElem?_eq_getElem hlt]
          split <;> simp_all
        have hgd2 : a.tmps.getD t undef = a.tmps[t] := by simp [Array.getD, hlt]
        refine ⟨fun x hx => ?_, fun hx => ?_⟩
        · rw [hx, V.rel, hgd2] at hr
          simp [Region.wanted, hgd, hy, hr]
        · rw [hx, V.rel, hgd2] at hr
          obtain ⟨vs, h1, h2⟩ := hr
          simp [Region.wanted, hgd, hy, h1]
      · cases hg
    · cases hg

theorem wanted_none {ops : Array Oper} {o : Oper} {t : Array Value} {N : Nat} (hg : compG N ops o.guard = some none) : Region.wanted o (yielded ops t) = true := by
  cases hgd : o.guard with
  | none => simp [Region.wanted, hgd]
  | some jb =>
    obtain ⟨j, b'⟩ := jb
    rw [hgd] at hg
    simp only [compG] at hg
    split at hg
    · split at hg <;> cases hg
    · cases hg

theorem evR_sound {P : Program} {F : FF} (hF : FOK P F) (hM : F.mono) {N : Nat} {ops : Array Oper} : ∀ (l : List Oper) (k : Nat) (r : RL), ops.toList.drop k = l → compR P N ops l = some r →
    ∀ (lim : Nat) (e : Tr) (h : Hp) (n : Nat) (e' : Tr) (h' : Hp) (n' : Nat), evR r F lim e h n = .ok e' h' n' → ∀ (a : Act) (g : Sig) (w : World), EnvA N g e a → Mem g h.get w → Dom h.get n → Fresh g n n' → n' < 9223372036854775808 →
    ∀ (ro : Option Nat) (Q : Exit → Act → World → Prop), (∀ a' g' w', EnvA N g' e' a' → Mem g' h'.get w' → Fr lim n g h.get w n' g' h'.get w' → a'.defers = a.defers → Q .normal a' w') → wpOpsIn (fw ro) 0 P ops Q (List.range' k (ops.size - k)) a w
  | [], k, r, hl, hr, lim, e, h, n, e', h', n', hev, a, g, w, he, m, hd, hf, hn, ro, Q, hQ => by
    have hk : ops.size ≤ k := by
      have := congrArg List.length hl
      simp at this; omega
    rw [show ops.size - k = 0 by omega]
    simp [compR] at hr
    subst hr
    cases hev
    exact hQ a g w he m (Fr.refl hd) rfl
  | o :: l, k, r, hl, hr, lim, e, h, n, e', h', n', hev, a, g, w, he, m, hd, hf, hn, ro, Q, hQ => by
    have hk : k < ops.size := by
      have := congrArg List.length hl
      simp at this; omega
    have hok : ops[k]? = some o := by
      have : (ops.toList.drop k)[0]? = some o := by rw [hl]; rfl
      simpa using this
    have hl' : ops.toList.drop (k + 1) = l := by
      have : (ops.toList.drop k).drop 1 = l := by rw [hl]; rfl
      simpa [List.drop_drop, Nat.add_comm] using this
    rw [show ops.size - k = (ops.size - (k + 1)) + 1 by omega, List.range'_succ]
    simp only [wpOpsIn, hok]
    rw [compR] at hr
    split at hr
    case h_2 => cases hr
    rename_i d gd q rl h1 h2 h3 h4
    cases hr
    have run : Region.wanted o (yielded ops a.tmps) = true → runR d q (evR rl) F lim e h n = .ok e' h' n' → if Region.wanted o (yielded ops a.tmps) then o.wpIn (fw ro) 0 P a w (wpOpsIn (fw ro) 0 P ops Q (List.range' (k + 1) (ops.size - (k + 1)))) Q else (∀ f, o.about P w a.eval = some f → (fw ro).fn f) ∧ wpOpsIn (fw ro) 0 P ops Q (List.range' (k + 1) (ops.size - (k + 1))) (a.put o.dst undef) w := by
      intro hw hrun
      rw [if_pos hw]
      unfold runR at hrun
      cases hq : q.ev F e lim h n with
      | no => rw [hq] at hrun; cases hrun
      | ok v h1' n1 =>
        rw [hq] at hrun
        have hrun : putd d v e (fun e' => evR rl F lim e' h1' n1) = .ok e' h' n' := hrun
        rw [putd_eq] at hrun
        have hge1 : n ≤ n1 := by have := O.ev_ge (n := n) hM q e lim h; rw [hq] at this; exact this
        have hge2 : n1 ≤ n' := by have := evR_ge hM rl lim (setD d v e) h1' n1; rw [hrun] at this; exact this
        refine compO_sound hF h3 e lim h n v h1' n1 hq a g w he.ok m hd (hf.sub (Nat.le_refl _) hge2) (by omega) ro _ _ fun u g1 w1 hv m1 f1 => ?_
        have hle := f1.gle (hf.sub (Nat.le_refl _) hge2)
        refine evR_sound hF hM l (k + 1) rl hl' h4 lim (setD d v e) h1' n1 e' h' n' hrun (a.put o.dst u) g1 w1 ((he.mono hle).put h1 hv) m1 f1.dom' (f1.fresh hf) hn ro Q fun a' g' w' ha hm hfr hd' => hQ a' g' w' ha hm (f1.trans hfr) (hd'.trans (put_defers a o.dst u))
    have skip : Region.wanted o (yielded ops a.tmps) = false → putd d (.tu .nil) e (fun e' => evR rl F lim e' h n) = .ok e' h' n' → if Region.wanted o (yielded ops a.tmps) then o.wpIn (fw ro) 0 P a w (wpOpsIn (fw ro) 0 P ops Q (List.range' (k + 1) (ops.size - (k + 1)))) Q else (∀ f, o.about P w a.eval = some f → (fw ro).fn f) ∧ wpOpsIn (fw ro) 0 P ops Q (List.range' (k + 1) (ops.size - (k + 1))) (a.put o.dst undef) w := by
      intro hw hrun
      rw [if_neg (by rw [hw]; simp)]
      rw [putd_eq] at hrun
      exact ⟨fun _ _ => trivial, evR_sound hF hM l (k + 1) rl hl' h4 lim (setD d (.tu .nil) e) h n e' h' n' hrun (a.put o.dst undef) g w (he.put h1 ⟨[], rfl, rfl⟩) m hd hf hn ro Q fun a' g' w' ha hm hfr hd' => hQ a' g' w' ha hm hfr (hd'.trans (put_defers a o.dst undef))⟩
    cases gd with
    | none => exact run (wanted_none h2) hev
    | some pb =>
      obtain ⟨p, b⟩ := pb
      have hev : guardR (e.get p) b (runR d q (evR rl) F lim e h n) (putd d (.tu .nil) e fun e' => evR rl F lim e' h n) .no = .ok e' h' n' := hev
      obtain ⟨w1, w2⟩ := wanted_of he h2
      unfold guardR at hev
      cases hg : e.get p <;> rw [hg] at hev <;> dsimp only [onB, V.asB, onT, V.asT] at hev
      case b x =>
        have hw := w1 x hg
        cases x <;> cases b <;> first | exact run (hw.trans rfl) hev | exact skip (hw.trans rfl) hev
      case tu lst =>
        cases lst with
        | nil => exact skip (w2 hg) hev
        | cons _ _ => cases hev
      all_goals cases hev

theorem reg_sound {ro : Option Nat} {P : Program} {F : FF} (hF : FOK P F) (hM : F.mono) {N : Nat} {id : Nat} {ops : Array Oper} {r : RL} (hr : compR P N ops ops.toList = some r)
    {lim : Nat} {e : Tr} {h : Hp} {n : Nat} {e' : Tr} {h' : Hp} {n' : Nat} (hev : evR r F lim e h n = .ok e' h' n') {a : Act} {g : Sig} {w : World} (he : EnvA N g e a) (m : Mem g h.get w) (hd : Dom h.get n) (hf : Fresh g n n') (hn : n' < 9223372036854775808) :
    (Code.region id ops false).wpIn (fw ro) 0 P (fun ex a' w' => ex = .normal ∧ MkK w a w' a' ∧ ∃ g', EnvA N g' e' a' ∧ Mem g' h'.get w' ∧ Fr lim n g h.get w n' g' h'.get w') a w := by
  refine wpIn_region ?_
  rw [List.range_eq_range']
  have := evR_sound hF hM ops.toList 0 r rfl hr lim e h n e' h' n' hev a g w he m hd hf hn ro (fun ex a' w' => ex = .normal ∧ MkK w a w' a' ∧ ∃ g', EnvA N g' e' a' ∧ Mem g' h'.get w' ∧ Fr lim n g h.get w n' g' h'.get w') (fun a' g' w' x y z hd' => ⟨rfl, mk_keep m z hd', g', x, y, z⟩)
  simpa using this
end Go.Proofs.Ytjhgingmbklhaaa.Ev
