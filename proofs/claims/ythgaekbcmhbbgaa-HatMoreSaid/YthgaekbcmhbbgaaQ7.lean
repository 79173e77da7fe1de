/- The texts EvSh, EvLw. -/
import Derived.Test.YthgaekbcmhbbgaaQ6
/- The evaluator's memory on values that are not known: one equation for each step. -/
namespace Go.Proofs.Ythgaekbcmhbbgaa.Ev
set_option linter.unusedVariables false
open Go

theorem hget_same (h : Hp) (x : Option Blk) (p : Pos) : (h.put x p).get p = x := by rw [Hp.get_put, if_pos rfl]
theorem hget_ne (h : Hp) (x : Option Blk) (i j : Nat) (hi : i < 4294967296) (hj : j < 4294967296) (hij : j ≠ i) : (h.put x (tp i)).get (tp j) = h.get (tp j) := by
  rw [Hp.get_put, if_neg (fun e => hij (tp_inj hj hi e))]
theorem newB_tp (b : Blk) (k : Pos → V) (h : Hp) (m : Nat) : newB b k h (m + 1) = .ok (k (tp m)) (h.put (some b) (tp m)) (m + 2) := by
  unfold newB
  have : Nat.ble 1 (m + 1) = true := by rw [Nat.ble_eq]; omega
  rw [this]
  show posK 63 (m + 1) _ = _
  rw [posK_eq, fN_eq, Hp.putK_eq]
  rfl
theorem newB_n (b : Blk) (k : Pos → V) (h : Hp) (n : Nat) (hn : 1 ≤ n) : newB b k h n = .ok (k (tp (n - 1))) (h.put (some b) (tp (n - 1))) (n + 1) := by
  obtain ⟨m, rfl⟩ : ∃ m, n = m + 1 := ⟨n - 1, by omega⟩
  rw [newB_tp]; rfl
theorem L_ext : ∀ {l m : L}, l.length = m.length → (∀ j, j < l.length → l.get j = m.get j) → l = m
  | .nil, .nil, _, _ => rfl
  | .nil, .cons .., h, _ => by simp [L.length] at h
  | .cons .., .nil, h, _ => by simp [L.length] at h
  | .cons v l, .cons u m, h, hg => by
    have h0 := hg 0 (by simp [L.length])
    have hv : v = u := h0
    subst hv
    rw [L_ext (l := l) (m := m) (by simpa [L.length] using h) (fun j hj => by
      have := hg (j + 1) (by simp [L.length]; omega)
      exact this)]

/-! Addresses, variables. -/
theorem onP_p {β : Type} (a : Pos) (o : Nat) (f : Pos → Nat → β) (z : β) : onP (.p a o) f z = f a o := rfl
theorem onS_sl {β : Type} (a : Pos) (x y l : Nat) (c : Option Nat) (f : Pos → Nat → Nat → Nat → Option Nat → β) (y' z : β) : onS (.sl a x y l c) f y' z = f a x y l c := rfl
theorem onS_ns {β : Type} (f : Pos → Nat → Nat → Nat → Option Nat → β) (y z : β) : onS .ns f y z = y := rfl
noncomputable def boxB (el : TypeId) (l : L) (h : Hp) (n : Nat) : Res := Bool.rec .no (fN l.length fun k => Bool.rec .no (newB ⟨el, k, k, l, .lf⟩ (fun p => .p p 0) h n) (Nat.ble k 1099511627776)) l.allC
noncomputable def ldB (n : Nat) (agg : Bool) (ob : Option Blk) (o : Nat) (h : Hp) (c : Nat) : Res :=
  Option.rec .no (fun b => Bool.rec .no (Bool.rec (.ok (b.cell o) h c) (.ok (.ag (b.getL o n)) h c) agg) (Nat.ble (Nat.add o n) b.size)) ob
noncomputable def stB (n : Nat) (ob : Option Blk) (a : Pos) (o : Nat) (l : L) (lim : Nat) (h : Hp) (c : Nat) : Res :=
  Option.rec .no (fun b => Bool.rec .no (.ok (.tu .nil) (h.put (some (b.setW n o l)) a) c) (and (Nat.ble (Nat.add o n) b.size) (and (Nat.beq l.length n) (and l.allC (Nat.ble lim a.num))))) ob
section
variable (F : FF) (lim : Nat) (e : Tr) (h : Hp) (n : Nat)
theorem O_fad (k : Nat) (x : X) : (O.fad k x).ev F e lim h n = pv (onP (evX x e) (fun a o => .p a (o + k)) .bad) h n := by
  show evFad k x e lim h n = _
  unfold evFad
  congr 2
  funext a o; rw [fN_eq]; rfl
theorem O_alloc (el : TypeId) (z : L) (zl : Nat) : (O.alloc el z zl).ev F e lim h n = newB ⟨el, zl, zl, z, .lf⟩ (fun p => .p p 0) h n := rfl
theorem O_ixs (esz : Nat) (x i : X) : (O.ixs esz x i).ev F e lim h n = pv (onS (evX x e) (fun a o e' l _ => onI (evX i e) (fun j => if j < l ∧ e' = esz then .p a (o + j * esz) else .bad) .bad) .bad .bad) h n := by
  show evIxs esz x i e lim h n = _
  unfold evIxs
  congr 2
  funext a o e' l c
  congr 1
  funext j
  cases h1 : Nat.blt j l
  · rw [if_neg (fun hh => by rw [← Nat.blt_eq, h1] at hh; exact absurd hh.1 (by simp))]
  · rw [Nat.blt_eq] at h1
    cases h2 : Nat.beq e' esz
    · rw [if_neg (fun hh => by rw [← Nat.beq_eq, h2] at hh; exact absurd hh.2 (by simp))]
    · rw [Nat.beq_eq] at h2
      rw [if_pos ⟨h1, h2⟩]
      show fN (o + j * esz) (fun o => V.p a o) = _
      rw [fN_eq]
theorem O_len (x : X) : (O.len x).ev F e lim h n = pv (onS (evX x e) (fun _ _ _ l _ => .n l) (.n 0) .bad) h n := rfl
theorem O_ld (k : Nat) (agg : Bool) (x : X) : (O.ld k agg x).ev F e lim h n = onP (evX x e) (fun a o => ldB k agg (h.get a) o h n) .no := by
  show evLd k agg x e lim h n = _
  unfold evLd
  simp only [getW_eq]
  rfl
theorem O_st (k : Nat) (x y : X) : (O.st k x y).ev F e lim h n = onP (evX x e) (fun a o => stB k (h.get a) a o (evX y e).toL lim h n) .no := by
  show evSt k x y e lim h n = _
  unfold evSt
  simp only [lenW_eq, allW_eq]
  congr 1
  funext a o
  unfold stB
  cases h.get a with
  | none => rfl
  | some b =>
    show (Bool.rec .no (h.putK _ a _) _ : Res) = Bool.rec .no _ _
    congr 1
    rw [Hp.putK_eq]
theorem O_box (el : TypeId) (x : X) : (O.box el x).ev F e lim h n = boxB el (evX x e).toL h n := by
  show evBox el x e lim h n = _
  unfold evBox
  simp only [lenW_eq, allW_eq]
  rfl
end
theorem boxB_ok (el : TypeId) (l : L) (h : Hp) (n : Nat) (hc : l.allC = true) (hl : l.length ≤ 1099511627776) : boxB el l h n = newB (blkL el l) (fun p => .p p 0) h n := by
  unfold boxB
  rw [hc]
  show fN l.length _ = _
  rw [fN_eq]
  have : Nat.ble l.length 1099511627776 = true := by rw [Nat.ble_eq]; exact hl
  rw [this]; rfl
theorem ldB_1 (b : Blk) (o : Nat) (h : Hp) (c : Nat) (ho : o < b.size) : ldB 1 false (some b) o h c = .ok (b.cell o) h c := by
  have : Nat.ble (Nat.add o 1) b.size = true := by rw [Nat.ble_eq]; exact ho
  show (Bool.rec .no _ (Nat.ble (Nat.add o 1) b.size) : Res) = _
  rw [this]
theorem ldB_ag (k : Nat) (b : Blk) (o : Nat) (h : Hp) (c : Nat) (ho : o + k ≤ b.size) : ldB k true (some b) o h c = .ok (.ag (b.getL o k)) h c := by
  have : Nat.ble (Nat.add o k) b.size = true := by rw [Nat.ble_eq]; exact ho
  show (Bool.rec .no _ (Nat.ble (Nat.add o k) b.size) : Res) = _
  rw [this]
theorem stB_okW (k : Nat) (b : Blk) (t : Nat) (o : Nat) (l : L) (lim : Nat) (h : Hp) (c : Nat) (ho : o + k ≤ b.size) (hl : l.length = k) (hc : l.allC = true) (ht : t < 4294967296) (hlim : lim ≤ t + 1) : stB k (some b) (tp t) o l lim h c = .ok (.tu .nil) (h.put (some (b.setW k o l)) (tp t)) c := by
  have h1 : Nat.ble (Nat.add o k) b.size = true := by rw [Nat.ble_eq]; exact ho
  have h2 : Nat.beq l.length k = true := by rw [Nat.beq_eq]; exact hl
  have h3 : Nat.ble lim (tp t).num = true := by rw [Nat.ble_eq, tp_num ht]; exact hlim
  show (Bool.rec .no _ (and (Nat.ble (Nat.add o k) b.size) (and (Nat.beq l.length k) (and l.allC (Nat.ble lim (tp t).num)))) : Res) = _
  rw [h1, h2, hc, h3]
  rfl
theorem stB_ok (k : Nat) (b : Blk) (t : Nat) (o : Nat) (l : L) (lim : Nat) (h : Hp) (c : Nat) (ho : o + k ≤ b.size) (hl : l.length = k) (hc : l.allC = true) (ht : t < 4294967296) (hlim : lim ≤ t + 1) (hk : k < 5) : stB k (some b) (tp t) o l lim h c = .ok (.tu .nil) (h.put (some (b.setL o l)) (tp t)) c := by
  rw [stB_okW k b t o l lim h c ho hl hc ht hlim, setW_small hk]
theorem num_tp {t : Nat} (h : t < 4294967296) : (tp t).num = t + 1 := tp_num h
theorem toL_I (z : Int) : (I z).toL = .cons (I z) .nil := by rcases I_cases z with ⟨a, e⟩ | ⟨k, y, e⟩ <;> rw [e] <;> rfl
theorem toL_i (k : IntKind) (z : Int) : (V.i k z).toL = .cons (.i k z) .nil := rfl
theorem toL_b (t : Bool) : (V.b t).toL = .cons (.b t) .nil := rfl
theorem toL_s (t : List Nat) : (V.s t).toL = .cons (.s t) .nil := rfl
theorem toL_sl (a : Pos) (x y l : Nat) (c : Option Nat) : (V.sl a x y l c).toL = .cons (.sl a x y l c) .nil := rfl
theorem toL_ns : V.ns.toL = .cons .ns .nil := rfl
theorem toL_ag (l : L) : (V.ag l).toL = l := rfl
theorem allC_nil : L.allC .nil = true := rfl
theorem allC_cons (v : V) (l : L) : L.allC (.cons v l) = (v.isC && l.allC) := rfl
theorem isC_i (k : IntKind) (z : Int) : (V.i k z).isC = true := rfl
theorem isC_b (t : Bool) : (V.b t).isC = true := rfl
theorem isC_s (t : List Nat) : (V.s t).isC = true := rfl
theorem isC_sl (a : Pos) (x y l : Nat) (c : Option Nat) : (V.sl a x y l c).isC = true := rfl
theorem isC_ns : V.ns.isC = true := rfl
theorem Llen_nil : L.length .nil = 0 := rfl
theorem Llen_cons (v : V) (l : L) : L.length (.cons v l) = l.length + 1 := rfl
theorem Lget_0 (v : V) (l : L) : L.get (.cons v l) 0 = v := rfl
theorem Lget_1 (a b : V) (l : L) : L.get (.cons a (.cons b l)) 1 = b := rfl
theorem Lget_2 (a b c : V) (l : L) : L.get (.cons a (.cons b (.cons c l))) 2 = c := rfl
theorem Lget_3 (a b c d : V) (l : L) : L.get (.cons a (.cons b (.cons c (.cons d l)))) 3 = d := rfl
theorem blkL_size (el : TypeId) (l : L) : (blkL el l).size = l.length := rfl
theorem blk5_blkL (el : TypeId) (l : L) (k : Nat) (hk : k = l.length) : (⟨el, k, k, l, .lf⟩ : Blk) = blkL el l := by rw [hk]; rfl
theorem getL_blkL (el : TypeId) (l : L) (k : Nat) (hk : k = l.length) : (blkL el l).getL 0 k = l := by
  subst hk
  refine L_ext (getL_length _ _ _) fun j hj => ?_
  rw [getL_length] at hj
  rw [getL_get _ _ _ _ hj, Nat.zero_add, blkL_cell el l j hj]
theorem getL_setL (b : Blk) (o : Nat) (l : L) (k : Nat) (hk : k = l.length) (hc : l.allC = true) (hm : o + l.length ≤ 1099511627776) : (b.setL o l).getL o k = l := by
  subst hk
  refine L_ext (getL_length _ _ _) fun j hj => ?_
  rw [getL_length] at hj
  rw [getL_get _ _ _ _ hj, cell_setL_in b l o (o + j) hm (by unfold maxSize; omega) hc (by omega) (by omega)]
  congr 1; omega
theorem setL_sz (b : Blk) (o : Nat) (l : L) : (b.setL o l).size = b.size := (setL_size b l o).1
theorem evRV_cell (p : Pos) (k : Nat) (agg : Bool) (e : Tr) (h : Hp) : evRV (.cell p k agg) e h = onP (e.get p) (fun a o => Option.rec .bad (fun b => Bool.rec .bad (Bool.rec (b.cell o) (.ag (b.getL o k)) agg) (Nat.ble (Nat.add o k) b.size)) (h.get a)) .bad := by
  simp only [evRV, getW_eq]
noncomputable def rvB (k : Nat) (agg : Bool) (ob : Option Blk) (o : Nat) : V := Option.rec .bad (fun b => Bool.rec .bad (Bool.rec (b.cell o) (.ag (b.getL o k)) agg) (Nat.ble (Nat.add o k) b.size)) ob
theorem evRV_cell' (p : Pos) (k : Nat) (agg : Bool) (e : Tr) (h : Hp) : evRV (.cell p k agg) e h = onP (e.get p) (fun a o => rvB k agg (h.get a) o) .bad := by
  rw [evRV_cell]; rfl
theorem rvB_ag (k : Nat) (b : Blk) (o : Nat) (ho : o + k ≤ b.size) : rvB k true (some b) o = .ag (b.getL o k) := by
  have : Nat.ble (Nat.add o k) b.size = true := by rw [Nat.ble_eq]; exact ho
  show (Bool.rec .bad _ (Nat.ble (Nat.add o k) b.size) : V) = _
  rw [this]
theorem rvB_1 (b : Blk) (o : Nat) (ho : o < b.size) : rvB 1 false (some b) o = b.cell o := by
  have : Nat.ble (Nat.add o 1) b.size = true := by rw [Nat.ble_eq]; exact ho
  show (Bool.rec .bad _ (Nat.ble (Nat.add o 1) b.size) : V) = _
  rw [this]
/-! Aggregates. -/
noncomputable def bldK (m : L) (off sz : Nat) (z : L) (e : Tr) (l : PL) : Option L := if m.length = sz ∧ m.allC = true ∧ off + sz ≤ z.length then evPL e l (z.updS off m) else none
theorem evPL_cons (e : Tr) (z : L) (off sz : Nat) (x : X) (l : PL) : evPL e (.cons off sz x l) z = bldK (evX x e).toL off sz z e l := by rw [evPL]; rfl
theorem bldK_ok (m : L) (off sz : Nat) (z : L) (e : Tr) (l : PL) (hl : m.length = sz) (hc : m.allC = true) (ho : off + sz ≤ z.length) : bldK m off sz z e l = evPL e l (z.updS off m) := if_pos ⟨hl, hc, ho⟩
theorem evPL_nil (e : Tr) (z : L) : evPL e .nil z = some z := rfl
theorem updS_nil (z : L) (k : Nat) : z.updS k .nil = z := rfl
theorem updS_cons (z m : L) (k : Nat) (x : V) : z.updS k (.cons x m) = (z.upd k x).updS (k + 1) m := rfl
theorem upd_0 (v x : V) (l : L) : L.upd (.cons v l) 0 x = .cons x l := rfl
theorem upd_1 (a v x : V) (l : L) : L.upd (.cons a (.cons v l)) 1 x = .cons a (.cons x l) := rfl
theorem upd_2 (a b v x : V) (l : L) : L.upd (.cons a (.cons b (.cons v l))) 2 x = .cons a (.cons b (.cons x l)) := rfl
theorem upd_3 (a b c v x : V) (l : L) : L.upd (.cons a (.cons b (.cons c (.cons v l)))) 3 x = .cons a (.cons b (.cons c (.cons x l))) := rfl
theorem evBuild_ok (z : L) (ps : PL) (e : Tr) (lim : Nat) (h : Hp) (n : Nat) : evBuild z ps e lim h n = okL (evPL e ps z) h n := rfl
theorem okL_some (l : L) (h : Hp) (n : Nat) : okL (some l) h n = .ok (.ag l) h n := rfl
theorem onA_ag {β : Type} (l : L) (f : L → β) (z : β) : onA (.ag l) f z = f l := rfl
theorem partV_1 (off k : Nat) (l : L) : partV off k false l = nthL off l := rfl
theorem evPart_eq (off k : Nat) (agg : Bool) (x : X) (e : Tr) (lim : Nat) (h : Hp) (n : Nat) : evPart off k agg x e lim h n = pv (onA (evX x e) (fun l => partV off k agg l) .bad) h n := rfl

/-! The same, as choices: what is asked for stands in the condition. -/
noncomputable def getLz (b : Blk) (o k : Nat) : L := b.getL o k
noncomputable def cellz (b : Blk) (j : Nat) : V := b.cell j
theorem boxB_if (el : TypeId) (l : L) (h : Hp) (n : Nat) : boxB el l h n = if l.allC = true ∧ l.length ≤ 1099511627776 then newB (blkL el l) (fun p => .p p 0) h n else .no := by
  by_cases hc : l.allC = true ∧ l.length ≤ 1099511627776
  · rw [if_pos hc, boxB_ok el l h n hc.1 hc.2]
  · rw [if_neg hc]
    unfold boxB
    cases h1 : l.allC
    · rfl
    · show fN l.length _ = _
      rw [fN_eq]
      have : Nat.ble l.length 1099511627776 = false := by
        cases h2 : Nat.ble l.length 1099511627776
        · rfl
        · rw [Nat.ble_eq] at h2; exact absurd ⟨h1, h2⟩ hc
      rw [this]
theorem ldB_if (b : Blk) (o : Nat) (h : Hp) (c : Nat) : ldB 1 false (some b) o h c = if o < b.size then .ok (b.cell o) h c else .no := by
  by_cases ho : o < b.size
  · rw [if_pos ho, ldB_1 b o h c ho]
  · rw [if_neg ho]
    have : Nat.ble (Nat.add o 1) b.size = false := by
      cases h2 : Nat.ble (Nat.add o 1) b.size
      · rfl
      · rw [Nat.ble_eq] at h2; exact absurd h2 ho
    show (Bool.rec .no _ (Nat.ble (Nat.add o 1) b.size) : Res) = _
    rw [this]
theorem ldB_agif (k : Nat) (b : Blk) (o : Nat) (h : Hp) (c : Nat) : ldB k true (some b) o h c = if o + k ≤ b.size then .ok (.ag (b.getL o k)) h c else .no := by
  by_cases ho : o + k ≤ b.size
  · rw [if_pos ho, ldB_ag k b o h c ho]
  · rw [if_neg ho]
    have : Nat.ble (Nat.add o k) b.size = false := by
      cases h2 : Nat.ble (Nat.add o k) b.size
      · rfl
      · rw [Nat.ble_eq] at h2; exact absurd h2 ho
    show (Bool.rec .no _ (Nat.ble (Nat.add o k) b.size) : Res) = _
    rw [this]
theorem stB_no (k : Nat) (b : Blk) (t : Nat) (o : Nat) (l : L) (lim : Nat) (h : Hp) (c : Nat) (ht : t < 4294967296) (hc : ¬ (o + k ≤ b.size ∧ l.length = k ∧ l.allC = true ∧ lim ≤ t + 1)) : stB k (some b) (tp t) o l lim h c = .no := by
  have : and (Nat.ble (Nat.add o k) b.size) (and (Nat.beq l.length k) (and l.allC (Nat.ble lim (tp t).num))) = false := by
    cases h2 : and (Nat.ble (Nat.add o k) b.size) (and (Nat.beq l.length k) (and l.allC (Nat.ble lim (tp t).num)))
    · rfl
    · simp only [Bool.and_eq_true, Nat.ble_eq, Nat.beq_eq, tp_num ht] at h2
      exact absurd h2 hc
  show (Bool.rec .no _ (and (Nat.ble (Nat.add o k) b.size) (and (Nat.beq l.length k) (and l.allC (Nat.ble lim (tp t).num)))) : Res) = _
  rw [this]
theorem stB_if (k : Nat) (b : Blk) (t : Nat) (o : Nat) (l : L) (lim : Nat) (h : Hp) (c : Nat) (ht : t < 4294967296) (hk : k < 5) : stB k (some b) (tp t) o l lim h c = if o + k ≤ b.size ∧ l.length = k ∧ l.allC = true ∧ lim ≤ t + 1 then .ok (.tu .nil) (h.put (some (b.setL o l)) (tp t)) c else .no := by
  by_cases hc : o + k ≤ b.size ∧ l.length = k ∧ l.allC = true ∧ lim ≤ t + 1
  · rw [if_pos hc, stB_ok k b t o l lim h c hc.1 hc.2.1 hc.2.2.1 ht hc.2.2.2 hk]
  · rw [if_neg hc, stB_no k b t o l lim h c ht hc]
/-- A large value written whole. -/
noncomputable def stBz (k : Nat) (b : Blk) (t : Nat) (l : L) (lim : Nat) (h : Hp) (c : Nat) : Res := stB k (some b) (tp t) 0 l lim h c
theorem stB_wif (k : Nat) (b : Blk) (t : Nat) (l : L) (lim : Nat) (h : Hp) (c : Nat) (ht : t < 4294967296) (hk : 5 ≤ k) : stB k (some b) (tp t) 0 l lim h c = if b.size = k ∧ l.length = k ∧ l.allC = true ∧ lim ≤ t + 1 then .ok (.tu .nil) (h.put (some (blkL b.el l)) (tp t)) c else stBz k b t l lim h c := by
  by_cases hc : b.size = k ∧ l.length = k ∧ l.allC = true ∧ lim ≤ t + 1
  · rw [if_pos hc, stB_okW k b t 0 l lim h c (by omega) hc.2.1 hc.2.2.1 ht hc.2.2.2, setW_all hk hc.1]
    unfold blkL
    rw [hc.2.1]
  · rw [if_neg hc]
    rfl
theorem bldK_if (m : L) (off sz : Nat) (z : L) (e : Tr) (l : PL) : bldK m off sz z e l = if m.length = sz ∧ m.allC = true ∧ off + sz ≤ z.length then evPL e l (z.updS off m) else none := rfl
theorem O_alloc_if (F : FF) (lim : Nat) (e : Tr) (h : Hp) (n : Nat) (el : TypeId) (z : L) (zl : Nat) : (O.alloc el z zl).ev F e lim h n = if zl = z.length then newB (blkL el z) (fun p => .p p 0) h n else newB ⟨el, zl, zl, z, .lf⟩ (fun p => .p p 0) h n := by
  by_cases hz : zl = z.length
  · rw [if_pos hz, hz]; rfl
  · rw [if_neg hz]; rfl
theorem cell_blkL_if (el : TypeId) (l : L) (j : Nat) : (blkL el l).cell j = if j < l.length then l.get j else cellz (blkL el l) j := by
  by_cases h : j < l.length
  · rw [if_pos h, blkL_cell el l j h]
  · rw [if_neg h]; rfl
theorem getL_blkL_if (el : TypeId) (l : L) (k : Nat) : (blkL el l).getL 0 k = if k = l.length then l else getLz (blkL el l) 0 k := by
  by_cases h : k = l.length
  · rw [if_pos h, getL_blkL el l k h]
  · rw [if_neg h]; rfl
theorem getL_setL_if (b : Blk) (o : Nat) (l : L) (k : Nat) : (b.setL o l).getL o k = if k = l.length ∧ l.allC = true ∧ o + l.length ≤ 1099511627776 then l else getLz (b.setL o l) o k := by
  by_cases h : k = l.length ∧ l.allC = true ∧ o + l.length ≤ 1099511627776
  · rw [if_pos h, getL_setL b o l k h.1 h.2.1 h.2.2]
  · rw [if_neg h]; rfl
theorem rvB_agif (k : Nat) (b : Blk) (o : Nat) : rvB k true (some b) o = if o + k ≤ b.size then .ag (b.getL o k) else .bad := by
  by_cases ho : o + k ≤ b.size
  · rw [if_pos ho, rvB_ag k b o ho]
  · rw [if_neg ho]
    have : Nat.ble (Nat.add o k) b.size = false := by
      cases h2 : Nat.ble (Nat.add o k) b.size
      · rfl
      · rw [Nat.ble_eq] at h2; exact absurd h2 ho
    show (Bool.rec .bad _ (Nat.ble (Nat.add o k) b.size) : V) = _
    rw [this]
theorem rvB_if (b : Blk) (o : Nat) : rvB 1 false (some b) o = if o < b.size then b.cell o else .bad := by
  by_cases ho : o < b.size
  · rw [if_pos ho, rvB_1 b o ho]
  · rw [if_neg ho]
    have : Nat.ble (Nat.add o 1) b.size = false := by
      cases h2 : Nat.ble (Nat.add o 1) b.size
      · rfl
      · rw [Nat.ble_eq] at h2; exact absurd h2 ho
    show (Bool.rec .bad _ (Nat.ble (Nat.add o 1) b.size) : V) = _
    rw [this]
theorem known_ag (l : L) : (V.ag l).known = true := rfl
theorem known_sl (a : Pos) (x y l : Nat) (c : Option Nat) : (V.sl a x y l c).known = true := rfl
theorem known_ns : V.ns.known = true := rfl
theorem known_i (k : IntKind) (z : Int) : (V.i k z).known = true := rfl
theorem pur_b (t : Bool) : (V.b t).pur = true := rfl
theorem pur_s (t : List Nat) : (V.s t).pur = true := rfl
theorem pur_i (k : IntKind) (z : Int) : (V.i k z).pur = true := rfl
theorem pur_ns : V.ns.pur = true := rfl
theorem pur_ag (l : L) : (V.ag l).pur = l.pur := rfl
theorem pur_tu (l : L) : (V.tu l).pur = l.pur := rfl
theorem purL_nil : L.pur .nil = true := rfl
theorem purL_cons (v : V) (l : L) : L.pur (.cons v l) = (v.pur && l.pur) := rfl

/-! Regions whose order is open. -/
noncomputable def tlX (x : Option (DR × DO)) (l : DR) (F : FF) (lim : Nat) (e : Tr) (h : Hp) (n : Nat) : Rg := match x with
  | none => evDs F lim h l [] e n
  | some x => tlR x.2 F lim (evDs F lim h x.1 [] e n)
noncomputable def tlM (d : DO) (x : Option (DR × DO)) : Option (DR × DO) := match x with
  | some x => some (d :: x.1, x.2)
  | none => none
noncomputable def dsR (r : SR) (d : DO) (F : FF) (lim : Nat) (S : Hp) (l : DR) (acc : List Dl) (e : Tr) : Rg := match r with
  | .ok v dl n' => evDs F lim S l (dl :: acc) (setD d.dst v e) n'
  | .no => .no
noncomputable def sdB (ob : Option Hp) (d : DO) (F : FF) (lim : Nat) (er : Tr) (n : Nat) : SR := match ob with
  | none => .no
  | some b => match d.gd with
    | none => runD d F lim b er n
    | some (p, w) => match er.get p with
      | .b x => if x = w then runD d F lim b er n else .ok (.tu .nil) .nil n
      | .tu .nil => .ok (.tu .nil) .nil n
      | _ => .no
noncomputable def sdG (v : V) (w : Bool) (d : DO) (F : FF) (lim : Nat) (b : Hp) (er : Tr) (n : Nat) : SR := match v with
  | .b x => if x = w then runD d F lim b er n else .ok (.tu .nil) .nil n
  | .tu .nil => .ok (.tu .nil) .nil n
  | _ => .no
noncomputable def rdR (r : Res) (fr : Bool) (n : Nat) : SR := match r with
  | .ok v h' n' => .ok v (if fr then coll h' n (n' - n) else .nil) n'
  | .no => .no
section
variable (F : FF) (lim : Nat) (S : Hp) (acc : List Dl) (e er : Tr) (h b : Hp) (n : Nat)
theorem evDr_eq (l : DR) : evDr l F lim e h n = if lim ≤ n ∧ 1 ≤ n then tlX (tlOf l) l F lim e h n else .no := by unfold evDr tlX; cases tlOf l <;> rfl
theorem tlX_none (l : DR) : tlX none l F lim e h n = evDs F lim h l [] e n := rfl
theorem tlX_some (l l0 : DR) (d : DO) : tlX (some (l0, d)) l F lim e h n = tlR d F lim (evDs F lim h l0 [] e n) := rfl
theorem tlOf_cons (d d' : DO) (l : DR) : tlOf (d :: d' :: l) = tlM d (tlOf (d' :: l)) := rfl
theorem tlM_none (d : DO) : tlM d none = none := rfl
theorem tlM_some (d d1 : DO) (l : DR) : tlM d (some (l, d1)) = some (d :: l, d1) := rfl
theorem tlOf_1 (dst : Option Pos) (gd : Option (Pos × Bool)) (pu : Bool) (st : List Pos) (fr : Bool) (an : List Bool) (us ts : List Pos) (o : O) (rd nd gl : List Pos) : tlOf [⟨dst, gd, pu, st, fr, an, us, ts, o, false, rd, nd, gl⟩] = none := by cases pu <;> rfl
theorem tlOf_1t (dst : Option Pos) (gd : Option (Pos × Bool)) (st : List Pos) (fr : Bool) (an : List Bool) (us ts : List Pos) (o : O) (rd nd gl : List Pos) : tlOf [⟨dst, gd, true, st, fr, an, us, ts, o, true, rd, nd, gl⟩] = some ([], ⟨dst, gd, true, st, fr, an, us, ts, o, true, rd, nd, gl⟩) := rfl
theorem evDs_nil : evDs F lim S [] acc e n = .ok e (appAll acc S) n := rfl
theorem evDs_cons (d : DO) (l : DR) : evDs F lim S (d :: l) acc e n = dsR (stepD d F lim acc e S n) d F lim S l acc e := rfl
theorem dsR_ok (v : V) (dl : Dl) (d : DO) (l : DR) : dsR (.ok v dl n) d F lim S l acc e = evDs F lim S l (dl :: acc) (setD d.dst v e) n := rfl
theorem stepD_eq (dst : Option Pos) (gd : Option (Pos × Bool)) (pu : Bool) (st : List Pos) (fr : Bool) (an : List Bool) (us ts : List Pos) (o : O) (ef : Bool) (rd gl : List Pos) : stepD ⟨dst, gd, pu, st, fr, an, us, ts, o, ef, rd, [], gl⟩ F lim acc e S n = sdB (baseOf ⟨dst, gd, pu, st, fr, an, us, ts, o, ef, rd, [], gl⟩ acc e S) ⟨dst, gd, pu, st, fr, an, us, ts, o, ef, rd, [], gl⟩ F lim (restr e ts) n := rfl
theorem sdB_n (dst : Option Pos) (pu : Bool) (st : List Pos) (fr : Bool) (an : List Bool) (us ts : List Pos) (o : O) (ef : Bool) (rd nd gl : List Pos) : sdB (some b) ⟨dst, none, pu, st, fr, an, us, ts, o, ef, rd, nd, gl⟩ F lim er n = runD ⟨dst, none, pu, st, fr, an, us, ts, o, ef, rd, nd, gl⟩ F lim b er n := rfl
theorem sdB_g (p : Pos) (w : Bool) (dst : Option Pos) (pu : Bool) (st : List Pos) (fr : Bool) (an : List Bool) (us ts : List Pos) (o : O) (ef : Bool) (rd nd gl : List Pos) : sdB (some b) ⟨dst, some (p, w), pu, st, fr, an, us, ts, o, ef, rd, nd, gl⟩ F lim er n = sdG (er.get p) w ⟨dst, some (p, w), pu, st, fr, an, us, ts, o, ef, rd, nd, gl⟩ F lim b er n := rfl
theorem sdG_tt (d : DO) : sdG (.b true) true d F lim b er n = runD d F lim b er n := rfl
theorem sdG_ff (d : DO) : sdG (.b false) false d F lim b er n = runD d F lim b er n := rfl
theorem sdG_tf (d : DO) : sdG (.b true) false d F lim b er n = .ok (.tu .nil) .nil n := rfl
theorem sdG_ft (d : DO) : sdG (.b false) true d F lim b er n = .ok (.tu .nil) .nil n := rfl
theorem sdG_none (w : Bool) (d : DO) : sdG (.tu .nil) w d F lim b er n = .ok (.tu .nil) .nil n := rfl
theorem runD_0 (dst : Option Pos) (gd : Option (Pos × Bool)) (pu fr : Bool) (an : List Bool) (us ts : List Pos) (o : O) (rd nd gl : List Pos) : runD ⟨dst, gd, pu, [], fr, an, us, ts, o, false, rd, nd, gl⟩ F lim b er n = rdR (o.ev F er n b n) fr n := by
  unfold runD rdR
  cases o.ev F er n b n <;> rfl
theorem rdR_f (v : V) (h' : Hp) (n' : Nat) : rdR (.ok v h' n') false n = .ok v .nil n' := rfl
theorem rdR_t (v : V) (h' : Hp) (n' : Nat) : rdR (.ok v h' n') true n = .ok v (coll h' n (n' - n)) n' := rfl
theorem baseOf_pu (dst : Option Pos) (gd : Option (Pos × Bool)) (st : List Pos) (fr : Bool) (an : List Bool) (us ts : List Pos) (o : O) (ef : Bool) (rd nd gl : List Pos) : baseOf ⟨dst, gd, true, st, fr, an, us, ts, o, ef, rd, nd, gl⟩ acc e S = some .lf := rfl
theorem baseOf_h (dst : Option Pos) (gd : Option (Pos × Bool)) (st : List Pos) (fr : Bool) (an : List Bool) (us ts : List Pos) (o : O) (ef : Bool) (nd gl : List Pos) : baseOf ⟨dst, gd, false, st, fr, an, us, ts, o, ef, [], nd, gl⟩ acc e S = baseU e us (baseR acc an (baseA acc an S)) := rfl
theorem baseU_nil : baseU e [] h = some h := rfl
theorem baseA_nil (an : List Bool) : baseA [] an h = h := by cases an <;> rfl
theorem baseA_0 (acc : List Dl) (a : Bool) (an : List Bool) : baseA (.nil :: acc) (a :: an) h = baseA acc an h := by cases a <;> rfl
theorem baseR_nil (an : List Bool) : baseR [] an h = h := by cases an <;> rfl
theorem baseR_0 (acc : List Dl) (a : Bool) (an : List Bool) : baseR (.nil :: acc) (a :: an) h = baseR acc an h := by cases a <;> rfl
theorem baseR_00 (acc : List Dl) : baseR (.nil :: acc) [] h = baseR acc [] h := rfl
theorem appAll_nil : appAll [] h = h := rfl
theorem appAll_0 (acc : List Dl) : appAll (.nil :: acc) h = appAll acc h := rfl
theorem restr_nil : restr e [] = .lf := rfl
theorem restr_cons (p : Pos) (ts : List Pos) : restr e (p :: ts) = (restr e ts).set (e.get p) p := rfl
theorem setD_some (p : Pos) (v : V) : setD (some p) v e = e.set v p := rfl
theorem setD_none (v : V) : setD none v e = e := rfl
end

/-! Lists of ints. -/
noncomputable def iL : List Int → L
  | [] => .nil
  | z :: l => .cons (I z) (iL l)
def At (xs : List Int) (k : Nat) : Int := xs[k]?.getD 0
theorem iL_len : ∀ xs, (iL xs).length = xs.length
  | [] => rfl
  | z :: l => by simp [iL, L.length, iL_len l]
theorem iL_allC : ∀ xs, (iL xs).allC = true
  | [] => rfl
  | z :: l => by simp [iL, L.allC, I_isC, iL_allC l]
theorem iL_pur : ∀ xs, (iL xs).pur = true
  | [] => rfl
  | z :: l => by simp [iL, L.pur, I_pur, iL_pur l]
theorem iL_get : ∀ (xs : List Int) (j : Nat), j < xs.length → (iL xs).get j = I (At xs j)
  | [], _, h => by simp at h
  | z :: l, 0, _ => rfl
  | z :: l, j + 1, h => by
    show (iL l).get j = _
    rw [iL_get l j (by simpa using h)]; rfl
theorem drop_At {xs : List Int} {k : Nat} (h : k < xs.length) : xs.drop k = At xs k :: xs.drop (k + 1) := by
  rw [List.drop_eq_getElem_cons h]; simp [At, h]
theorem hp0_0 (i : Nat) : hp0 [] i = .lf := rfl
theorem hp0_c (b : Blk) (l : List Blk) (i : Nat) : hp0 (b :: l) i = (hp0 l (i + 1)).put (some b) (tp i) := rfl
/-- The ints of a slice. -/
noncomputable def rdC (b : Blk) (off : Nat) : Nat → Option (List Int)
  | 0 => some []
  | n + 1 => match asI (b.cell off), rdC b (off + 1) n with
    | some z, some l => some (z :: l)
    | _, _ => none
noncomputable def rdB (ob : Option Blk) (off len : Nat) : Option (List Int) := match ob with
  | some b => if off + len ≤ b.size then rdC b off len else none
  | none => none
noncomputable def rdL (h : Hp) : V → Option (List Int)
  | .ns => some []
  | .sl p off 1 len _ => rdB (h.get p) off len
  | _ => none
theorem rdL_ns (h : Hp) : rdL h .ns = some [] := rfl
theorem rdL_sl (h : Hp) (p : Pos) (off len : Nat) (cap : Option Nat) : rdL h (.sl p off 1 len cap) = rdB (h.get p) off len := rfl
theorem rdC_get {b : Blk} : ∀ {n off : Nat} {xs : List Int}, rdC b off n = some xs → xs.length = n ∧ ∀ j, j < n → asI (b.cell (off + j)) = some (At xs j)
  | 0, off, xs, h => by simp [rdC] at h; subst h; exact ⟨rfl, fun j hj => by omega⟩
  | n + 1, off, xs, h => by
    rw [rdC] at h
    split at h
    · rename_i z l h1 h2
      cases h
      obtain ⟨e1, e2⟩ := rdC_get h2
      refine ⟨by simp [e1], fun j hj => ?_⟩
      cases j with
      | zero => simpa [At] using h1
      | succ j =>
        have := e2 j (by omega)
        rw [show off + (j + 1) = off + 1 + j by omega, this]
        simp [At]
    · cases h
theorem rdC_iL (el : TypeId) : ∀ (ys xs : List Int) (k : Nat), ys = xs.drop k → k + ys.length = xs.length → rdC (blkL el (iL xs)) k ys.length = some ys
  | [], xs, k, _, _ => rfl
  | z :: l, xs, k, h, hl => by
    have hk : k < xs.length := by simp at hl; omega
    have hd := drop_At hk
    rw [← h] at hd
    simp only [List.cons.injEq] at hd
    show rdC _ k (l.length + 1) = _
    rw [rdC, blkL_cell _ _ _ (by rw [iL_len]; exact hk), iL_get _ _ hk, asI_I, rdC_iL el l xs (k + 1) hd.2 (by simp at hl; omega)]
    simp only
    rw [hd.1]
theorem rdB_blk (el : TypeId) (xs : List Int) (len : Nat) (hl : len = xs.length) : rdB (some (blkL el (iL xs))) 0 len = some xs := by
  subst hl
  simp only [rdB, blkL_size, iL_len, Nat.zero_add, Nat.le_refl, if_true]
  exact rdC_iL el xs xs 0 (by simp) (by simp)
/-- A slice of ints handed over: its window. -/
theorem win {h : Hp} {p : Pos} {off len : Nat} {xs : List Int} (hr : rdB (h.get p) off len = some xs) : xs.length = len ∧ ∃ b, h.get p = some b ∧ off + len ≤ b.size ∧ ∀ k, k < len → asI (b.cell (off + k)) = some (At xs k) := by
  unfold rdB at hr
  split at hr
  · rename_i b hb
    split at hr
    · rename_i hle
      obtain ⟨e1, e2⟩ := rdC_get hr
      exact ⟨e1, b, hb, hle, e2⟩
    · cases hr
  · cases hr
theorem I_any {v : V} {z : Int} (h : asI v = some z) (g g' : Sig) (u : Value) (hr : V.rel g v u) : V.rel g' (I z) u := V.pur_rel (I_pur z) (asI_rel h hr)
theorem Ins.one {h : Hp} {p : Pos} {off len : Nat} {xs : List Int} (hr : rdB (h.get p) off len = some xs) : ∃ el, Ins [(p, off)] [blkL el (iL xs)] h := by
  obtain ⟨e, b, hb, hle, hc⟩ := win hr
  refine ⟨b.el, rfl, by simp, fun i j p q hp hq _ => ?_, by simp [blkL], fun j q b0 hq hb0 => ?_⟩
  · cases i with
    | zero => cases j with
      | zero => rfl
      | succ j => simp at hq
    | succ i => simp at hp
  · cases j with
    | succ j => simp at hq
    | zero =>
      simp at hq hb0
      subst hq hb0
      refine ⟨b, hb, rfl, by rw [blkL_size, iL_len, e]; exact hle, fun k hk g g' u hu => ?_⟩
      rw [blkL_size, iL_len] at hk
      rw [blkL_cell _ _ _ (by rw [iL_len]; exact hk), iL_get _ _ hk]
      exact I_any (hc k (by omega)) g g' u hu
theorem Ins.two {h : Hp} {p p' : Pos} {off off' len len' : Nat} {xs ys : List Int} (hne : p ≠ p') (hr : rdB (h.get p) off len = some xs) (hr' : rdB (h.get p') off' len' = some ys) :
    ∃ el el', Ins [(p, off), (p', off')] [blkL el (iL xs), blkL el' (iL ys)] h := by
  obtain ⟨el, I1⟩ := Ins.one hr
  obtain ⟨el', I2⟩ := Ins.one hr'
  refine ⟨el, el', rfl, by simp, fun i j a b ha hb hab => ?_, by simp [blkL], fun j q b0 hq hb0 => ?_⟩
  · match i, j with
    | 0, 0 => rfl
    | 1, 1 => rfl
    | 0, 1 => simp at ha hb; subst ha hb; exact absurd hab hne
    | 1, 0 => simp at ha hb; subst ha hb; exact absurd hab.symm hne
    | i + 2, _ => simp at ha
    | 0, j + 2 => simp at hb
    | 1, j + 2 => simp at hb
  · match j with
    | 0 => exact I1.le 0 q b0 hq hb0
    | 1 => exact I2.le 0 q b0 hq hb0
    | j + 2 => simp at hq

/-! Slices made, and appended to. -/
noncomputable def mkB (el esz by_ zl : Nat) (z : L) (a b : Nat) (h : Hp) (n : Nat) : Res :=
  Bool.rec .no (fN (Nat.mul b esz) fun s => newB ⟨el, s, zl, z, .lf⟩ (fun p => .sl p 0 esz a (some b)) h n) (and (Nat.ble a b) (and (Nat.ble (Nat.mul b esz) 1099511627776) (Nat.ble (Nat.mul by_ b) 281474976710656)))
theorem O_mks (F : FF) (lim : Nat) (e : Tr) (h : Hp) (n : Nat) (el esz by_ zl : Nat) (z : L) (xl xc : X) : (O.mks el esz by_ zl z xl xc).ev F e lim h n = onI (evX xl e) (fun a => onI (evX xc e) (fun b => mkB el esz by_ zl z a b h n) .no) .no := rfl
theorem mkB_if (el esz by_ zl : Nat) (z : L) (a b : Nat) (h : Hp) (n : Nat) : mkB el esz by_ zl z a b h n = if a ≤ b ∧ b * esz ≤ 1099511627776 ∧ by_ * b ≤ 281474976710656 then newB ⟨el, b * esz, zl, z, .lf⟩ (fun p => .sl p 0 esz a (some b)) h n else .no := by
  unfold mkB
  by_cases hc : a ≤ b ∧ b * esz ≤ 1099511627776 ∧ by_ * b ≤ 281474976710656
  · have : and (Nat.ble a b) (and (Nat.ble (Nat.mul b esz) 1099511627776) (Nat.ble (Nat.mul by_ b) 281474976710656)) = true := by
      simp only [Bool.and_eq_true, Nat.ble_eq]; exact hc
    rw [if_pos hc, this]
    show fN (b * esz) _ = _
    rw [fN_eq]
  · have : and (Nat.ble a b) (and (Nat.ble (Nat.mul b esz) 1099511627776) (Nat.ble (Nat.mul by_ b) 281474976710656)) = false := by
      cases hx : and (Nat.ble a b) (and (Nat.ble (Nat.mul b esz) 1099511627776) (Nat.ble (Nat.mul by_ b) 281474976710656))
      · rfl
      · simp only [Bool.and_eq_true, Nat.ble_eq] at hx; exact absurd hx hc
    rw [if_neg hc, this]
noncomputable def bslB (ol : Option L) (el esz len : Nat) (h : Hp) (n : Nat) : Res := Option.rec .no (fun l => Bool.rec .no (newB ⟨el, len * esz, len * esz, l, .lf⟩ (fun p => .sl p 0 esz len (some len)) h n) (and l.allC (Nat.beq l.length (len * esz)))) ol
theorem O_bsl (F : FF) (lim : Nat) (e : Tr) (h : Hp) (n : Nat) (el esz len : Nat) (z : L) (ps : PL) : (O.bsl el esz len z ps).ev F e lim h n = bslB (evPL e ps z) el esz len h n := rfl
theorem bslB_if (l : L) (el esz len : Nat) (h : Hp) (n : Nat) : bslB (some l) el esz len h n = if l.allC = true ∧ len * esz = l.length then newB (blkL el l) (fun p => .sl p 0 esz len (some len)) h n else .no := by
  unfold bslB
  show (Bool.rec .no _ (and l.allC (Nat.beq l.length (len * esz))) : Res) = _
  by_cases hc : l.allC = true ∧ len * esz = l.length
  · have : and l.allC (Nat.beq l.length (len * esz)) = true := by simp only [Bool.and_eq_true, Nat.beq_eq]; exact ⟨hc.1, hc.2.symm⟩
    rw [if_pos hc, this, hc.2]; rfl
  · have : and l.allC (Nat.beq l.length (len * esz)) = false := by
      cases hx : and l.allC (Nat.beq l.length (len * esz))
      · rfl
      · simp only [Bool.and_eq_true, Nat.beq_eq] at hx; exact absurd ⟨hx.1, hx.2.symm⟩ hc
    rw [if_neg hc, this]
noncomputable def apX (el esz by_ : Nat) (s x : V) (lim : Nat) (h : Hp) (n : Nat) : Res := evApp el esz by_ (.c s) (.c x) .lf lim h n
theorem O_app (F : FF) (lim : Nat) (e : Tr) (h : Hp) (n : Nat) (el esz by_ : Nat) (s x : X) : (O.app el esz by_ s x).ev F e lim h n = apX el esz by_ (evX s e) (evX x e) lim h n := rfl
noncomputable def apN (el esz by_ : Nat) (bx : Option Blk) (xo xl : Nat) (h : Hp) (n : Nat) : Res := match bx with
  | none => .no
  | some bx => if xo + xl * esz ≤ bx.size ∧ (bx.getL xo (xl * esz)).allC = true ∧ xl * by_ ≤ 140737488355328 ∧ xl * esz ≤ 1099511627776 then newB (blkL el (bx.getL xo (xl * esz))) (fun p => .sl p 0 esz xl none) h n else .no
theorem apX_ns (el esz by_ : Nat) (xp : Pos) (xo xl : Nat) (c : Option Nat) (lim : Nat) (h : Hp) (n : Nat) (hx : 0 < xl) : apX el esz by_ .ns (.sl xp xo esz xl c) lim h n = apN el esz by_ (h.get xp) xo xl h n := by
  unfold apX evApp
  have h0 : Nat.beq xl 0 = false := by
    cases hb : Nat.beq xl 0
    · rfl
    · rw [Nat.beq_eq] at hb; omega
  show (Bool.rec _ _ (Nat.beq xl 0) : Res) = _
  rw [h0]
  cases hg : h.get xp with
  | none => rfl
  | some bx =>
    have he : Nat.beq esz esz = true := by rw [Nat.beq_eq]
    show (Bool.rec .no (newB (lst el (bx.getL xo (xl * esz))) _ h n) (and (Nat.beq esz esz) _) : Res) = apN el esz by_ (some bx) xo xl h n
    rw [he]
    unfold apN
    by_cases hc : xo + xl * esz ≤ bx.size ∧ (bx.getL xo (xl * esz)).allC = true ∧ xl * by_ ≤ 140737488355328 ∧ xl * esz ≤ 1099511627776
    · have : and true (and (Nat.ble (xo + xl * esz) bx.size) (and (bx.getL xo (xl * esz)).allC (and (Nat.ble (xl * by_) 140737488355328) (Nat.ble (xl * esz) 1099511627776)))) = true := by
        simp only [Bool.and_eq_true, Nat.ble_eq]; exact ⟨trivial, hc⟩
      rw [this]
      show _ = if _ then _ else _
      rw [if_pos hc, lst_eq]; rfl
    · have : and true (and (Nat.ble (xo + xl * esz) bx.size) (and (bx.getL xo (xl * esz)).allC (and (Nat.ble (xl * by_) 140737488355328) (Nat.ble (xl * esz) 1099511627776)))) = false := by
        cases hx : and true (and (Nat.ble (xo + xl * esz) bx.size) (and (bx.getL xo (xl * esz)).allC (and (Nat.ble (xl * by_) 140737488355328) (Nat.ble (xl * esz) 1099511627776))))
        · rfl
        · simp only [Bool.and_eq_true, Nat.ble_eq] at hx; exact absurd hx.2 hc
      rw [this]
      show _ = if _ then _ else _
      rw [if_neg hc]
noncomputable def apS (el esz by_ : Nat) (bx bs : Option Blk) (sp : Pos) (so sl xo xl : Nat) (lim : Nat) (h : Hp) (n : Nat) : Res := match bx, bs with
  | some bx, some bs => if (xo + xl * esz ≤ bx.size ∧ (bx.getL xo (xl * esz)).allC = true ∧ xl * by_ ≤ 140737488355328 ∧ xl * esz ≤ 1099511627776) ∧
      (el = bs.el ∧ so + sl * esz ≤ bs.size ∧ (sl + xl) * by_ ≤ 140737488355328 ∧ (sl + xl) * esz ≤ 1099511627776) ∧ lim ≤ sp.num then
      newB (grown bs so (sl * esz) (bx.getL xo (xl * esz))) (fun p => .sl p 0 esz (sl + xl) none) (h.put none sp) n else .no
  | _, _ => .no
theorem apX_sl (el esz by_ : Nat) (sp xp : Pos) (so sl xo xl : Nat) (c : Option Nat) (lim : Nat) (h : Hp) (n : Nat) (hx : 0 < xl) (hfit : ∀ bs, h.get sp = some bs → bs.size < so + (sl + xl) * esz) : apX el esz by_ (.sl sp so esz sl none) (.sl xp xo esz xl c) lim h n = apS el esz by_ (h.get xp) (h.get sp) sp so sl xo xl lim h n := by
  unfold apX evApp
  have h0 : Nat.beq xl 0 = false := by
    cases hb : Nat.beq xl 0
    · rfl
    · rw [Nat.beq_eq] at hb; omega
  show (Bool.rec _ _ (Nat.beq xl 0) : Res) = _
  rw [h0]
  cases hg : h.get xp with
  | none => rfl
  | some bx =>
    have he : Nat.beq esz esz = true := by rw [Nat.beq_eq]
    cases hs : h.get sp with
    | none =>
      show (Bool.rec .no (Option.rec .no _ (h.get sp)) (and (Nat.beq esz esz) _) : Res) = _
      rw [hs]
      generalize (and (Nat.beq esz esz) _) = B
      cases B <;> rfl
    | some bs =>
      show (Bool.rec .no (Option.rec .no _ (h.get sp)) (and (Nat.beq esz esz) _) : Res) = _
      rw [hs]
      have e4 : Nat.ble (so + (sl + xl) * esz) bs.size = false := by
        cases e : Nat.ble (so + (sl + xl) * esz) bs.size
        · rfl
        · rw [Nat.ble_eq] at e; have := hfit bs hs; omega
      show (Bool.rec .no (Bool.rec .no (Bool.rec (Bool.rec .no (fN (Nat.add sl xl) fun k => newB (grown bs so (sl * esz) (bx.getL xo (xl * esz))) (fun p => .sl p 0 esz k none) (h.put none sp) n) (Nat.ble lim sp.num)) _ (Nat.ble (so + (sl + xl) * esz) bs.size)) (and (Nat.beq esz esz) _)) (and (Nat.beq esz esz) _) : Res) = _
      rw [e4]
      show (Bool.rec .no (Bool.rec .no (Bool.rec .no (fN (Nat.add sl xl) fun k => newB (grown bs so (sl * esz) (bx.getL xo (xl * esz))) (fun p => .sl p 0 esz k none) (h.put none sp) n) (Nat.ble lim sp.num)) (and (Nat.beq esz esz) _)) (and (Nat.beq esz esz) _) : Res) = _
      rw [he, fN_eq]
      unfold apS
      by_cases hc : (xo + xl * esz ≤ bx.size ∧ (bx.getL xo (xl * esz)).allC = true ∧ xl * by_ ≤ 140737488355328 ∧ xl * esz ≤ 1099511627776) ∧ (el = bs.el ∧ so + sl * esz ≤ bs.size ∧ (sl + xl) * by_ ≤ 140737488355328 ∧ (sl + xl) * esz ≤ 1099511627776) ∧ lim ≤ sp.num
      · have e1 : and true (and (Nat.ble (xo + xl * esz) bx.size) (and (bx.getL xo (xl * esz)).allC (and (Nat.ble (xl * by_) 140737488355328) (Nat.ble (xl * esz) 1099511627776)))) = true := by
          simp only [Bool.and_eq_true, Nat.ble_eq]; exact ⟨trivial, hc.1⟩
        have e2 : and true (and (Nat.beq bs.el el) (and (Nat.ble (so + sl * esz) bs.size) (and (Nat.ble ((sl + xl) * by_) 140737488355328) (Nat.ble ((sl + xl) * esz) 1099511627776)))) = true := by
          simp only [Bool.and_eq_true, Nat.ble_eq, Nat.beq_eq]; exact ⟨trivial, hc.2.1.1.symm, hc.2.1.2⟩
        have e3 : Nat.ble lim sp.num = true := by rw [Nat.ble_eq]; exact hc.2.2
        rw [e1, e2, e3]
        show _ = if _ then _ else _
        rw [if_pos hc]; rfl
      · show _ = if _ then _ else _
        rw [if_neg hc]
        cases e1 : and true (and (Nat.ble (xo + xl * esz) bx.size) (and (bx.getL xo (xl * esz)).allC (and (Nat.ble (xl * by_) 140737488355328) (Nat.ble (xl * esz) 1099511627776))))
        · rfl
        · cases e2 : and true (and (Nat.beq bs.el el) (and (Nat.ble (so + sl * esz) bs.size) (and (Nat.ble ((sl + xl) * by_) 140737488355328) (Nat.ble ((sl + xl) * esz) 1099511627776))))
          · rfl
          · cases e3 : Nat.ble lim sp.num
            · rfl
            · simp only [Bool.and_eq_true, Nat.ble_eq, Nat.beq_eq] at e1 e2 e3
              exact absurd ⟨e1.2, ⟨e2.2.1.symm, e2.2.2⟩, e3⟩ hc
theorem apN_some (el esz by_ : Nat) (bx : Blk) (xo xl : Nat) (h : Hp) (n : Nat) : apN el esz by_ (some bx) xo xl h n = if xo + xl * esz ≤ bx.size ∧ (bx.getL xo (xl * esz)).allC = true ∧ xl * by_ ≤ 140737488355328 ∧ xl * esz ≤ 1099511627776 then newB (blkL el (bx.getL xo (xl * esz))) (fun p => .sl p 0 esz xl none) h n else .no := rfl
theorem apS_some (el esz by_ : Nat) (bx bs : Blk) (t : Nat) (ht : t < 4294967296) (so sl xo xl : Nat) (lim : Nat) (h : Hp) (n : Nat) : apS el esz by_ (some bx) (some bs) (tp t) so sl xo xl lim h n = if (xo + xl * esz ≤ bx.size ∧ (bx.getL xo (xl * esz)).allC = true ∧ xl * by_ ≤ 140737488355328 ∧ xl * esz ≤ 1099511627776) ∧
      (el = bs.el ∧ so + sl * esz ≤ bs.size ∧ (sl + xl) * by_ ≤ 140737488355328 ∧ (sl + xl) * esz ≤ 1099511627776) ∧ lim ≤ t + 1 then
      newB (grown bs so (sl * esz) (bx.getL xo (xl * esz))) (fun p => .sl p 0 esz (sl + xl) none) (h.put none (tp t)) n else .no := by
  have : apS el esz by_ (some bx) (some bs) (tp t) so sl xo xl lim h n = if (xo + xl * esz ≤ bx.size ∧ (bx.getL xo (xl * esz)).allC = true ∧ xl * by_ ≤ 140737488355328 ∧ xl * esz ≤ 1099511627776) ∧
      (el = bs.el ∧ so + sl * esz ≤ bs.size ∧ (sl + xl) * by_ ≤ 140737488355328 ∧ (sl + xl) * esz ≤ 1099511627776) ∧ lim ≤ (tp t).num then
      newB (grown bs so (sl * esz) (bx.getL xo (xl * esz))) (fun p => .sl p 0 esz (sl + xl) none) (h.put none (tp t)) n else .no := rfl
  rw [this, tp_num ht]
theorem blkL_el (el : TypeId) (l : L) : (blkL el l).el = el := rfl
theorem HpLe.put {h0 h : Hp} {b0 : Blk} {t : Nat} (hg : ∃ b, h.get (tp t) = some b ∧ BlkLe b0 b) (hl : HpLe h0 h) : HpLe (h0.put (some b0) (tp t)) h := fun p b e => by
  have e := (Hp.get_put _ _ _ _).symm.trans e
  split at e
  · rename_i ep; cases e; rw [ep]; exact hg
  · exact hl p b e
theorem grown_le {el : TypeId} {xs : List Int} {z : Int} (hm : xs.length + 1 ≤ 1099511627776) : BlkLe (blkL el (iL (xs ++ [z]))) (grown (blkL el (iL xs)) 0 xs.length (.cons (I z) .nil)) := by
  obtain ⟨g1, g2, g3⟩ := grown_spec (blkL el (iL xs)) 0 xs.length (.cons (I z) .nil) (by simp [L.allC, I_isC]) (by simp [L.length, maxSize]; omega)
  refine ⟨.inl rfl, g1.symm, by rw [g2, blkL_size, iL_len]; simp [L.length], fun k hk => .inr ?_⟩
  rw [blkL_size, iL_len, List.length_append] at hk
  simp at hk
  rw [g3 k (by simp [L.length]; omega), blkL_cell _ _ _ (by rw [iL_len, List.length_append]; simp; omega), iL_get _ _ (by rw [List.length_append]; simp; omega)]
  by_cases hlt : k < xs.length
  · rw [if_pos hlt, Nat.zero_add, blkL_cell _ _ _ (by rw [iL_len]; exact hlt), iL_get _ _ hlt]
    simp [At, List.getElem?_append_left hlt]
  · rw [if_neg hlt]
    obtain rfl : k = xs.length := by omega
    simp [At, L.get]
theorem set_le {el : TypeId} {xs : List Int} {k : Nat} {z : Int} (hk : k < xs.length) (hm : xs.length ≤ 1099511627776) : BlkLe (blkL el (iL (xs.set k z))) ((blkL el (iL xs)).setL k (.cons (I z) .nil)) := by
  refine ⟨.inl rfl, by show el = _; exact (setL_size (blkL el (iL xs)) (.cons (I z) .nil) k).2.1.symm, by rw [(setL_size _ _ _).1, blkL_size, blkL_size, iL_len, iL_len, List.length_set]; exact Nat.le_refl _, fun j hj => .inr ?_⟩
  rw [blkL_size, iL_len, List.length_set] at hj
  rw [blkL_cell _ _ _ (by rw [iL_len, List.length_set]; exact hj), iL_get _ _ (by rw [List.length_set]; exact hj)]
  by_cases e : j = k
  · subst e
    rw [cell_setL_in _ _ _ _ (by simp [L.length, maxSize]; omega) (by unfold maxSize; omega) (by simp [L.allC, I_isC]) (Nat.le_refl _) (by simp [L.length])]
    simp [At, L.get, hj]
  · rw [cell_setL_out _ _ _ _ (by simp [L.length, maxSize]; omega) (by unfold maxSize; omega) (by simp [L.length]; omega), blkL_cell _ _ _ (by rw [iL_len]; exact hj), iL_get _ _ hj]
    have e' : ¬ k = j := fun h => e h.symm
    simp [At, e']
theorem mk_le {el : TypeId} (n s : Nat) (hs : n ≤ s) (hm : s ≤ 1099511627776) : BlkLe (blkL el (iL (List.replicate n 0))) ⟨el, s, 1, .cons (I 0) .nil, .lf⟩ := by
  refine ⟨.inl rfl, rfl, by rw [blkL_size, iL_len]; simpa using hs, fun j hj => .inr ?_⟩
  rw [blkL_size, iL_len] at hj
  rw [blkL_cell _ _ _ (by rw [iL_len]; exact hj), iL_get _ _ hj]
  rw [cell_lf]; show _ = orZ .bad (nthL (j % 1) (.cons (I 0) .nil))
  rw [Nat.mod_one]
  simp [At] at hj ⊢
  simp [hj]
  rfl
/-- The first of a list, zeros behind them. -/
def fillT (xs : List Int) (k : Nat) : List Int := xs.take k ++ List.replicate (xs.length - k) 0
theorem fillT_len (xs : List Int) {k : Nat} (hk : k ≤ xs.length) : (fillT xs k).length = xs.length := by simp [fillT]; omega
theorem fillT_succ {xs : List Int} {k : Nat} (hk : k < xs.length) : fillT xs (k + 1) = (fillT xs k).set k (At xs k) := by
  apply List.ext_getElem?
  intro j
  rw [List.getElem?_set]
  unfold fillT
  by_cases e : k = j
  · subst e
    rw [if_pos rfl, if_pos (by simp; omega), List.getElem?_append_left (by simp; omega), List.getElem?_take_of_lt (by omega)]
    simp [At, List.getElem?_eq_getElem hk]
  · rw [if_neg e]
    by_cases h : j < k
    · rw [List.getElem?_append_left (by simp; omega), List.getElem?_append_left (by simp; omega), List.getElem?_take_of_lt (by omega), List.getElem?_take_of_lt h]
    · rw [List.getElem?_append_right (by simp; omega), List.getElem?_append_right (by simp; omega), List.getElem?_replicate, List.getElem?_replicate]
      simp only [List.length_take, Nat.min_eq_left (show k + 1 ≤ xs.length by omega), Nat.min_eq_left (show k ≤ xs.length by omega)]
      by_cases h2 : j < xs.length
      · rw [if_pos (by omega), if_pos (by omega)]
      · rw [if_neg (by omega), if_neg (by omega)]
theorem fillT_full (xs : List Int) : fillT xs xs.length = xs := by simp [fillT]
theorem fillT_zero (xs : List Int) : fillT xs 0 = List.replicate xs.length 0 := by simp [fillT]
theorem take_At {xs : List Int} {k : Nat} (hk : k < xs.length) : xs.take (k + 1) = xs.take k ++ [At xs k] := by
  rw [List.take_add_one, At, List.getElem?_eq_getElem hk]; rfl

theorem goodI {t el esz len nb n' : Nat} {cap : Option Nat} {xs : List Int} {h : Hp} (hg : h.get (tp t) = some (blkL el (iL xs))) (h1 : 256 + nb ≤ t + 1) (h2 : t + 1 < n') (h3 : t < 4294967296) :
    ∃ p off b, V.sl (tp t) 0 esz len cap = V.sl p off esz len cap ∧ 256 + nb ≤ p.num ∧ p.num < n' ∧ h.get p = some b ∧ b.el = el ∧ off + xs.length ≤ b.size ∧ ∀ k, k < xs.length → b.cell (off + k) = (iL xs).get k :=
  ⟨tp t, 0, _, rfl, by rw [tp_num h3]; omega, by rw [tp_num h3]; omega, hg, rfl, by rw [blkL_size, iL_len]; omega, fun k hk => by rw [Nat.zero_add, blkL_cell _ _ _ (by rw [iL_len]; exact hk)]⟩
theorem goodIE {t el esz len nb n' : Nat} {cap : Option Nat} {xs : List Int} {h : Hp} {e : V} (hg : h.get (tp t) = some (blkL el (iL xs))) (h1 : 256 + nb ≤ t + 1) (h2 : t + 1 < n') (h3 : t < 4294967296) :
    ∃ p off b, V.tu (.cons (.sl (tp t) 0 esz len cap) (.cons e .nil)) = V.tu (.cons (.sl p off esz len cap) (.cons e .nil)) ∧ 256 + nb ≤ p.num ∧ p.num < n' ∧ h.get p = some b ∧ b.el = el ∧ off + xs.length ≤ b.size ∧ ∀ k, k < xs.length → b.cell (off + k) = (iL xs).get k :=
  ⟨tp t, 0, _, rfl, by rw [tp_num h3]; omega, by rw [tp_num h3]; omega, hg, rfl, by rw [blkL_size, iL_len]; omega, fun k hk => by rw [Nat.zero_add, blkL_cell _ _ _ (by rw [iL_len]; exact hk)]⟩

/-! Calls of function values; contracts of functions of slices. -/
theorem onF_fn {β : Type} (f : Nat) (a c : L) (k : Nat → L → L → β) (z : β) : onF (.fn f a c) k z = k f a c := rfl
theorem O_callv (F : FF) (lim : Nat) (e : Tr) (h : Hp) (n : Nat) (x : X) (xs : XL) : (O.callv x xs).ev F e lim h n = onF (evX x e) (fun f a c => F f (a.app ((evXL xs e).app c)) lim h n) (onY (evX x e) (fun p => F YID (.cons yM (.cons (.yl p) (evXL xs e))) lim h n) .no) := rfl
theorem app_nil (m : L) : L.app .nil m = m := rfl
theorem app_cons (v : V) (l m : L) : L.app (.cons v l) m = .cons v (l.app m) := rfl
def OutOK : Out → Prop
  | .no => True
  | .v x => x.pur = true
  | .sl _ esz len _ l => l.pur = true ∧ l.length = len * esz
  | .slE _ esz len _ l e => l.pur = true ∧ l.length = len * esz ∧ e.pur = true
noncomputable def onL (ox : Option (List Int)) (f : List Int → Out) (h : Hp) (n : Nat) : Res := match ox with | some xs => (f xs).res h n | none => .no
theorem onL_some (xs : List Int) (f : List Int → Out) (h : Hp) (n : Nat) : onL (some xs) f h n = (f xs).res h n := rfl
theorem onL_ge (ox : Option (List Int)) (f : List Int → Out) (h : Hp) (n : Nat) : (onL ox f h n).ge n := by cases ox <;> first | exact Out.res_ge _ _ _ | trivial
noncomputable def spLF (k : Nat) (f : List Int → Out) (args : L) (_ : Nat) (h : Hp) (n : Nat) : Res := match args with | .cons sv (.cons (.fn k' .nil .nil) .nil) => if k' = k then onL (rdL h sv) f h n else .no | _ => .no
theorem spLF_eq (k k' : Nat) (f : List Int → Out) (sv : V) (lim : Nat) (h : Hp) (n : Nat) : spLF k f (.cons sv (.cons (.fn k' .nil .nil) .nil)) lim h n = if k' = k then onL (rdL h sv) f h n else .no := rfl
theorem spLF_mo (k : Nat) (f : List Int → Out) : SMo (spLF k f) := fun args lim h n => by unfold spLF; split <;> (try split) <;> first | exact onL_ge _ _ _ _ | trivial
noncomputable def spL (f : List Int → Out) (args : L) (_ : Nat) (h : Hp) (n : Nat) : Res := match args with | .cons sv .nil => onL (rdL h sv) f h n | _ => .no
theorem spL_eq (f : List Int → Out) (sv : V) (lim : Nat) (h : Hp) (n : Nat) : spL f (.cons sv .nil) lim h n = onL (rdL h sv) f h n := rfl
theorem spL_mo (f : List Int → Out) : SMo (spL f) := fun args lim h n => by unfold spL; split <;> first | exact onL_ge _ _ _ _ | trivial
noncomputable def onLL (ox oy : Option (List Int)) (a b : V) (f : List Int → List Int → Out) (h : Hp) (n : Nat) : Res := match ox, oy with
  | some xs, some ys => match a, b with
    | .sl p .., .sl q .. => if p = q then .no else (f xs ys).res h n
    | _, _ => (f xs ys).res h n
  | _, _ => .no
noncomputable def spLL (f : List Int → List Int → Out) (args : L) (_ : Nat) (h : Hp) (n : Nat) : Res := match args with | .cons a (.cons b .nil) => onLL (rdL h a) (rdL h b) a b f h n | _ => .no
theorem spLL_eq (f : List Int → List Int → Out) (a b : V) (lim : Nat) (h : Hp) (n : Nat) : spLL f (.cons a (.cons b .nil)) lim h n = onLL (rdL h a) (rdL h b) a b f h n := rfl
theorem onLL_ss (xs ys : List Int) (s t x y l x' y' l' : Nat) (c c' : Option Nat) (f : List Int → List Int → Out) (h : Hp) (n : Nat) (hs : s < 4294967296) (ht : t < 4294967296) (hst : s ≠ t) : onLL (some xs) (some ys) (.sl (tp s) x y l c) (.sl (tp t) x' y' l' c') f h n = (f xs ys).res h n := by
  show (if tp s = tp t then _ else _) = _
  rw [if_neg (fun e => hst (tp_inj hs ht e))]
theorem onLL_ns (xs ys : List Int) (t x y l : Nat) (c : Option Nat) (f : List Int → List Int → Out) (h : Hp) (n : Nat) : onLL (some xs) (some ys) .ns (.sl (tp t) x y l c) f h n = (f xs ys).res h n := rfl
theorem onLL_sn (xs ys : List Int) (t x y l : Nat) (c : Option Nat) (f : List Int → List Int → Out) (h : Hp) (n : Nat) : onLL (some xs) (some ys) (.sl (tp t) x y l c) .ns f h n = (f xs ys).res h n := rfl
theorem onLL_nn (xs ys : List Int) (f : List Int → List Int → Out) (h : Hp) (n : Nat) : onLL (some xs) (some ys) .ns .ns f h n = (f xs ys).res h n := rfl
theorem onLL_ge (ox oy : Option (List Int)) (a b : V) (f : List Int → List Int → Out) (h : Hp) (n : Nat) : (onLL ox oy a b f h n).ge n := by
  unfold onLL
  split
  · split
    · split <;> first | exact Out.res_ge _ _ _ | trivial
    · exact Out.res_ge _ _ _
  · trivial
theorem spLL_mo (f : List Int → List Int → Out) : SMo (spLL f) := fun args lim h n => by unfold spLL; split <;> first | exact onLL_ge _ _ _ _ _ _ _ | trivial
section
variable {P : Program} {dr : List Nat} {F : FF} {q : IC} {f : Nat} {fn : Func} {c : Code} {res : List RV}
    (hfn : P.funcs[f]? = some fn) (hnm : (fn.name == "runtime.NumGoroutine") = false) (hb : fn.body = some c) (hq : compC P dr fn.ntmps c = some q) (hres : compRVs P fn.results.toList = some res)
include hfn hnm hb hq hres
theorem spLF_ok {k : Nat} {o : List Int → Out} (ho : ∀ xs, OutOK (o xs))
    (run : ∀ el xs cap, o xs ≠ .no → JQ P dr fn.ntmps F q 257 (Kend res (Good 1 (o xs))) (bind (.cons (.sl (tp 255) 0 1 xs.length cap) (.cons (.fn k .nil .nil) .nil)) 0 .lf) (hp0 [blkL el (iL xs)] 255) 257)
    (run0 : o [] ≠ .no → JQ P dr fn.ntmps F q 256 (Kend res (Good 0 (o []))) (bind (.cons .ns (.cons (.fn k .nil .nil) .nil)) 0 .lf) .lf 256) : SOK P f (spLF k o) := fun args lim h n v h' n' hr => by
  have hno : ∀ {x : Out}, x.res h n = .ok v h' n' → x ≠ .no := fun {x} e e' => by subst e'; cases e
  unfold spLF at hr
  split at hr
  · split at hr
    · rename_i sv k' hk
      subst hk
      unfold onL at hr
      split at hr
      · rename_i xs hx
        unfold rdL at hx
        split at hx
        · cases hx
          exact outC hfn hnm hb hq hres (Ins.none h) (by simp [L.length]) (ren_nil_rel (by simp [L.pur, V.pur])) _ (ho []) (run0 (hno hr)) lim n hr
        · rename_i p off len cap
          obtain ⟨el, I1⟩ := Ins.one hx
          obtain ⟨e1, _⟩ := win hx
          subst e1
          exact outC hfn hnm hb hq hres I1 (by simp [L.length]) (fun g => rel_cons (fun u hu => sl_ren (j := 0) (by omega) rfl hu) (rel_cons (fun u hu => V.pur_rel (by simp [L.pur, V.pur]) hu) fun _ h => L.pur_rel rfl h)) _ (ho xs) (run el xs cap (hno hr)) lim n hr
        · cases hx
      · cases hr
    · cases hr
  · cases hr
theorem spL_ok {o : List Int → Out} (ho : ∀ xs, OutOK (o xs))
    (run : ∀ el xs cap, o xs ≠ .no → JQ P dr fn.ntmps F q 257 (Kend res (Good 1 (o xs))) (bind (.cons (.sl (tp 255) 0 1 xs.length cap) .nil) 0 .lf) (hp0 [blkL el (iL xs)] 255) 257)
    (run0 : o [] ≠ .no → JQ P dr fn.ntmps F q 256 (Kend res (Good 0 (o []))) (bind (.cons .ns .nil) 0 .lf) .lf 256) : SOK P f (spL o) := fun args lim h n v h' n' hr => by
  have hno : ∀ {x : Out}, x.res h n = .ok v h' n' → x ≠ .no := fun {x} e e' => by subst e'; cases e
  unfold spL at hr
  split at hr
  · rename_i sv
    unfold onL at hr
    split at hr
    · rename_i xs hx
      unfold rdL at hx
      split at hx
      · cases hx
        exact outC hfn hnm hb hq hres (Ins.none h) (by simp [L.length]) (ren_nil_rel (by simp [L.pur, V.pur])) _ (ho []) (run0 (hno hr)) lim n hr
      · rename_i p off len cap
        obtain ⟨el, I1⟩ := Ins.one hx
        obtain ⟨e1, _⟩ := win hx
        subst e1
        exact outC hfn hnm hb hq hres I1 (by simp [L.length]) (fun g => rel_cons (fun u hu => sl_ren (j := 0) (by omega) rfl hu) fun _ h => L.pur_rel rfl h) _ (ho xs) (run el xs cap (hno hr)) lim n hr
      · cases hx
    · cases hr
  · cases hr
theorem spLL_ok {o : List Int → List Int → Out} (ho : ∀ xs ys, OutOK (o xs ys))
    (run : ∀ el el' xs ys cap cap', o xs ys ≠ .no → JQ P dr fn.ntmps F q 258 (Kend res (Good 2 (o xs ys))) (bind (.cons (.sl (tp 255) 0 1 xs.length cap) (.cons (.sl (tp 256) 0 1 ys.length cap') .nil)) 0 .lf) (hp0 [blkL el (iL xs), blkL el' (iL ys)] 255) 258)
    (run1 : ∀ el xs cap, o xs [] ≠ .no → JQ P dr fn.ntmps F q 257 (Kend res (Good 1 (o xs []))) (bind (.cons (.sl (tp 255) 0 1 xs.length cap) (.cons .ns .nil)) 0 .lf) (hp0 [blkL el (iL xs)] 255) 257)
    (run2 : ∀ el ys cap, o [] ys ≠ .no → JQ P dr fn.ntmps F q 257 (Kend res (Good 1 (o [] ys))) (bind (.cons .ns (.cons (.sl (tp 255) 0 1 ys.length cap) .nil)) 0 .lf) (hp0 [blkL el (iL ys)] 255) 257)
    (run0 : o [] [] ≠ .no → JQ P dr fn.ntmps F q 256 (Kend res (Good 0 (o [] []))) (bind (.cons .ns (.cons .ns .nil)) 0 .lf) .lf 256) : SOK P f (spLL o) := fun args lim h n v h' n' hr => by
  have hno : ∀ {x : Out}, x.res h n = .ok v h' n' → x ≠ .no := fun {x} e e' => by subst e'; cases e
  unfold spLL at hr
  split at hr
  · rename_i a b
    unfold onLL at hr
    split at hr
    · rename_i xs ys hx hy
      unfold rdL at hx hy
      split at hx
      · cases hx
        split at hy
        · cases hy
          replace hr : (o [] []).res h n = .ok v h' n' := hr
          exact outC hfn hnm hb hq hres (Ins.none h) (by simp [L.length]) (ren_nil_rel (by simp [L.pur, V.pur])) _ (ho [] []) (run0 (hno hr)) lim n hr
        · rename_i p off len cap
          replace hr : (o [] ys).res h n = .ok v h' n' := hr
          obtain ⟨el, I1⟩ := Ins.one hy
          obtain ⟨e1, _⟩ := win hy
          subst e1
          exact outC hfn hnm hb hq hres I1 (by simp [L.length]) (fun g => rel_cons (fun u hu => V.pur_rel (by simp [V.pur]) hu) (rel_cons (fun u hu => sl_ren (j := 0) (by omega) rfl hu) fun _ h => L.pur_rel rfl h)) _ (ho [] ys) (run2 el ys cap (hno hr)) lim n hr
        · cases hy
      · rename_i p off len cap
        split at hy
        · cases hy
          replace hr : (o xs []).res h n = .ok v h' n' := hr
          obtain ⟨el, I1⟩ := Ins.one hx
          obtain ⟨e1, _⟩ := win hx
          subst e1
          exact outC hfn hnm hb hq hres I1 (by simp [L.length]) (fun g => rel_cons (fun u hu => sl_ren (j := 0) (by omega) rfl hu) (rel_cons (fun u hu => V.pur_rel (by simp [V.pur]) hu) fun _ h => L.pur_rel rfl h)) _ (ho xs []) (run1 el xs cap (hno hr)) lim n hr
        · rename_i p' off' len' cap'
          replace hr : (if p = p' then Res.no else (o xs ys).res h n) = .ok v h' n' := hr
          split at hr
          · cases hr
          · rename_i hne
            obtain ⟨el, el', I1⟩ := Ins.two hne hx hy
            obtain ⟨e1, _⟩ := win hx
            obtain ⟨e2, _⟩ := win hy
            subst e1 e2
            exact outC hfn hnm hb hq hres I1 (by simp [L.length]) (fun g => rel_cons (fun u hu => sl_ren (j := 0) (by omega) rfl hu) (rel_cons (fun u hu => sl_ren (j := 1) (by omega) rfl hu) fun _ h => L.pur_rel rfl h)) _ (ho xs ys) (run el el' xs ys cap cap' (hno hr)) lim n hr
        · cases hy
      · cases hx
    · cases hr
  · cases hr
end
end Go.Proofs.Ythgaekbcmhbbgaa.Ev
/- From a law's own run to the call. -/
namespace Go.Proofs.Ythgaekbcmhbbgaa.Ev
set_option linter.unusedVariables false
open Go Go.Proofs Go.RowKit
/-- From a law's own run to the call. -/
theorem lawC {P : Program} {dr : List Nat} {F : FF} {q : IC} {f : Nat} {fn : Func} {c : Code} {res : List RV} {args : L} (hfn : P.funcs[f]? = some fn) (hnm : (fn.name == "runtime.NumGoroutine") = false) (hb : fn.body = some c) (hq : compC P dr fn.ntmps c = some q) (hres : compRVs P fn.results.toList = some res)
    (hal : args.length < 4294967296) (hp : args.pur = true) (j : JQ P dr fn.ntmps F q 256 (Kend res (Good 0 (.v (.b true)))) (bind args 0 .lf) .lf 256) {vs : List Value} (ha : ∀ g, args.rel g vs) (w : World) : Calls P f ⟨vs⟩ w fun e w' => e = .returned (.bool true) ∧ Below w.heap.size w w' := by
  have h0 : ∀ p, (Hp.get p .lf) = none := Hp.get_lf
  have hc := outC hfn hnm hb hq hres (Ins.none .lf) hal (ren_nil_rel hp) (.v (.b true)) rfl j 256 256 (v := .b true) (h' := .lf) (n' := 256) rfl
  refine (hc vs (g0 fun _ => 0) w (ha _) (g0_ok _) ⟨fun p q bp bq _ _ _ _ _ hp => (nomatch (h0 _).symm.trans hp), fun p b hp => (nomatch (h0 _).symm.trans hp)⟩ (fun p b hp => (nomatch (h0 _).symm.trans hp)) (g0_fresh _ _) (by decide)).2.mono ?_
  rintro e w' ⟨u, g', rfl, hv, _, hfr⟩
  rw [V.rel] at hv
  exact ⟨by rw [hv], hfr.os, hfr.tape, hfr.output, hfr.size, fun k hk => hfr.keep k hk fun p b base tot hp => (nomatch (h0 _).symm.trans hp)⟩
/-- A string's bytes. -/
def ofS (s : ByteArray) : List Nat := s.data.toList.map UInt8.toNat
theorem ofS_rel (g : Sig) (s : ByteArray) : (V.s (ofS s)).rel g (.string s) := by
  rw [V.rel]
  have e : (UInt8.ofNat ∘ UInt8.toNat) = id := funext fun x => UInt8.ofNat_toNat
  obtain ⟨⟨l⟩⟩ := s
  show _ = Value.string ⟨⟨(l.map UInt8.toNat).map UInt8.ofNat⟩⟩
  rw [List.map_map, e, List.map_id]
theorem ofS_len (s : ByteArray) : (ofS s).length = s.size := by
  unfold ofS
  rw [List.length_map]; rfl
end Go.Proofs.Ythgaekbcmhbbgaa.Ev
