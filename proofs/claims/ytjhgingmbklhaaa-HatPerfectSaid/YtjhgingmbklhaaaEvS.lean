/- Functions, and the whole. -/
import Derived.Test.YtjhgingmbklhaaaEvR
import Derived.Below
import Derived.RangeFuncRecord
import Derived.RangeFuncLeaves
namespace Go.Proofs.Ytjhgingmbklhaaa.Ev
set_option linter.unusedVariables false
open Go Go.RowKit

inductive RV where
  | tmp (p : Pos) | cell (p : Pos) (n : Nat) (agg : Bool)
inductive FnI where
  | mk (bar drop : Bool) (q : IC) (res : List RV)
inductive FT where
  | lf | nd (l : FT) (v : Option FnI) (r : FT)
noncomputable def FT.get (p : Pos) : FT → Option FnI :=
  Pos.rec (motive := fun _ => FT → Option FnI) (fun t => FT.rec (motive := fun _ => Option FnI) none (fun _ v _ _ _ => v) t)
   (fun _ ih t => FT.rec (motive := fun _ => Option FnI) none (fun l _ _ _ _ => ih l) t)
   (fun _ ih t => FT.rec (motive := fun _ => Option FnI) none (fun _ _ r _ _ => ih r) t) p
noncomputable def FT.put (x : Option FnI) (p : Pos) : FT → FT :=
  Pos.rec (motive := fun _ => FT → FT) (fun t => FT.rec (motive := fun _ => FT) (.nd .lf x .lf) (fun l _ r _ _ => .nd l x r) t)
   (fun _ ih t => FT.rec (motive := fun _ => FT) (.nd (ih .lf) none .lf) (fun l v r _ _ => .nd (ih l) v r) t)
   (fun _ ih t => FT.rec (motive := fun _ => FT) (.nd .lf none (ih .lf)) (fun l v r _ _ => .nd l v (ih r)) t) p
theorem FT.get_lf : ∀ p, FT.get p .lf = none
  | .h => rfl | .o _ => rfl | .i _ => rfl
theorem FT.get_put (x : Option FnI) : ∀ (p q : Pos) (t : FT), (t.put x p).get q = if q = p then x else t.get q
  | .h, .h, .lf => by simp; rfl
  | .h, .h, .nd l v r => by simp; rfl
  | .h, .o q, .lf => by rw [if_neg (by simp)]; exact (FT.get_lf q)
  | .h, .o q, .nd l v r => by rw [if_neg (by simp)]; rfl
  | .h, .i q, .lf => by rw [if_neg (by simp)]; exact (FT.get_lf q)
  | .h, .i q, .nd l v r => by rw [if_neg (by simp)]; rfl
  | .o p, .h, .lf => by rw [if_neg (by simp)]; rfl
  | .o p, .h, .nd l v r => by rw [if_neg (by simp)]; rfl
  | .o p, .i q, .lf => by rw [if_neg (by simp)]; exact (FT.get_lf q)
  | .o p, .i q, .nd l v r => by rw [if_neg (by simp)]; rfl
  | .i p, .h, .lf => by rw [if_neg (by simp)]; rfl
  | .i p, .h, .nd l v r => by rw [if_neg (by simp)]; rfl
  | .i p, .o q, .lf => by rw [if_neg (by simp)]; exact (FT.get_lf q)
  | .i p, .o q, .nd l v r => by rw [if_neg (by simp)]; rfl
  | .o p, .o q, .lf => by have := FT.get_put x p q .lf; rw [FT.get_lf] at this; simp only [Pos.o.injEq]; exact this
  | .o p, .o q, .nd l v r => by have := FT.get_put x p q l; simp only [Pos.o.injEq]; exact this
  | .i p, .i q, .lf => by have := FT.get_put x p q .lf; rw [FT.get_lf] at this; simp only [Pos.i.injEq]; exact this
  | .i p, .i q, .nd l v r => by have := FT.get_put x p q r; simp only [Pos.i.injEq]; exact this
noncomputable def FT.at (t : FT) : Nat → Option FnI :=
  FT.rec (motive := fun _ => Nat → Option FnI) (fun _ => none)
    (fun _ v _ ihl ihr m => Bool.rec (Bool.rec (ihr (Nat.div m 2)) (ihl (Nat.div m 2)) (Nat.beq (Nat.mod m 2) 0)) v (Nat.ble m 1)) t
theorem FT.at_eq : ∀ (t : FT) (f m : Nat), 1 ≤ m → m < 2 ^ (f + 1) → t.at m = t.get (posF f m)
  | .lf, f, m, _, _ => by rw [FT.get_lf]; rfl
  | .nd l v r, f, m, h1, h2 => by
    show (Bool.rec (Bool.rec (r.at (m / 2)) (l.at (m / 2)) (Nat.beq (m % 2) 0)) v (Nat.ble m 1) : Option FnI) = _
    by_cases hm : m ≤ 1
    · have : Nat.ble m 1 = true := by rw [Nat.ble_eq]; exact hm
      rw [this]
      cases f <;> simp [posF, hm] <;> rfl
    · have : Nat.ble m 1 = false := by rw [← Bool.not_eq_true, Nat.ble_eq]; exact hm
      rw [this]
      cases f with
      | zero => simp at h2; omega
      | succ f =>
        have hlt : m / 2 < 2 ^ (f + 1) := by rw [Nat.pow_succ] at h2; omega
        have il := FT.at_eq l f (m / 2) (by omega) hlt
        have ir := FT.at_eq r f (m / 2) (by omega) hlt
        by_cases h0 : m % 2 = 0
        · have e : Nat.beq (m % 2) 0 = true := by rw [h0]; rfl
          rw [e]; simp only [posF, if_neg hm, if_pos h0]; exact il
        · have e : Nat.beq (m % 2) 0 = false := by rw [show m % 2 = 1 by omega]; rfl
          rw [e]; simp only [posF, if_neg hm, if_neg h0]; exact ir
noncomputable def FT.of : List (Nat × FnI) → FT
  | [] => .lf
  | (f, x) :: l => (FT.of l).put (some x) (tp f)
theorem FT.of_mem : ∀ (l : List (Nat × FnI)), (∀ x ∈ l, x.1 < 4294967296) → ∀ f x, f < 4294967296 → (FT.of l).at (f + 1) = some x → (f, x) ∈ l
  | [], _, f, x, hf, h => by cases h
  | (k, y) :: l, hl, f, x, hf, h => by
    rw [FT.at_eq _ 63 _ (by omega) (by omega)] at h
    have h : ((FT.of l).put (some y) (tp k)).get (tp f) = some x := h
    rw [FT.get_put] at h
    split at h
    · rename_i e
      cases h
      rw [tp_inj hf (hl _ (List.mem_cons_self ..)) e]
      exact List.mem_cons_self ..
    · refine List.mem_cons_of_mem _ (FT.of_mem l (fun x hx => hl x (List.mem_cons_of_mem _ hx)) f x hf ?_)
      rw [FT.at_eq _ 63 _ (by omega) (by omega)]; exact h

/-! What a function hands back. -/
noncomputable def evRV (r : RV) (e : Tr) (h : Hp) : V :=
  RV.rec (motive := fun _ => V) (fun p => e.get p) (fun p n agg => onP (e.get p) (fun a o => Option.rec .bad (fun b => Bool.rec .bad (Bool.rec (b.cell o) (.ag (b.getW o n)) agg) (Nat.ble (Nat.add o n) b.size)) (h.get a)) .bad) r
noncomputable def evRVs (e : Tr) (h : Hp) : List RV → L
  | [] => .nil
  | r :: l => .cons (evRV r e h) (evRVs e h l)
noncomputable def evRes (e : Tr) (h : Hp) (l : List RV) : V :=
  match l with
  | [r] => evRV r e h
  | l => .tu (evRVs e h l)
def compRV (P : Program) : ResultVar → Option RV
  | .tmp t => if t < 4294967296 then some (.tmp (tp t)) else none
  | .cell a t => match P.info? t, P_isAgg P t with
    | some i, some agg => if a < 4294967296 ∧ (agg = false → i.size = 1) then some (.cell (tp a) i.size agg) else none
    | _, _ => none
def compRVs (P : Program) : List ResultVar → Option (List RV)
  | [] => some []
  | r :: l => match compRV P r, compRVs P l with
    | some x, some m => some (x :: m)
    | _, _ => none

def resOne (tmps : Array Value) : ResultVar → Sem Value
  | .tmp t => pure (tmps.getD t undef)
  | .cell a t => do loadVar t (← asAddr (tmps.getD a undef))
theorem results_eq (fn : Func) (tmps : Array Value) : results fn tmps = (do let vs ← fn.results.mapM (resOne tmps); pure (if h : vs.size = 1 then vs[0] else .tuple vs)) := by
  unfold results
  congr 1
/-- No part of a value is unknown. -/
def V.known : V → Bool
  | .bad => false
  | _ => true

theorem evRV_sound {P : Program} {N : Nat} {g : Sig} {e : Tr} {a : Act} {h : Hp} {w : World} (he : EnvA N g e a) (m : Mem g h.get w) {rv : ResultVar} {r : RV} (hr : compRV P rv = some r) (hk : (evRV r e h).known = true) :
    ∃ u, (resOne a.tmps rv).run P w = .ok u w ∧ (evRV r e h).rel g u := by
  cases rv with
  | tmp t =>
    simp only [compRV] at hr
    split at hr
    · rename_i ht; cases hr; exact ⟨_, rfl, he.rel t ht⟩
    · cases hr
  | cell x t =>
    simp only [compRV] at hr
    split at hr
    case h_2 => cases hr
    rename_i i agg hi ha
    split at hr
    case isFalse => cases hr
    rename_i hc
    cases hr
    have rx := he.rel x hc.1
    have hk : (onP (e.get (tp x)) (fun a o => (Option.rec .bad (fun b => Bool.rec .bad (Bool.rec (b.cell o) (.ag (b.getW o i.size)) agg) (Nat.ble (Nat.add o i.size) b.size)) (h.get a) : V)) .bad).known = true := hk
    show ∃ u, _ ∧ V.rel g (onP (e.get (tp x)) (fun a o => (Option.rec .bad (fun b => Bool.rec .bad (Bool.rec (b.cell o) (.ag (b.getW o i.size)) agg) (Nat.ble (Nat.add o i.size) b.size)) (h.get a) : V)) .bad) u
    cases hx : e.get (tp x) <;> rw [hx] at hk rx <;> dsimp only [onP, V.asP] at hk ⊢
    case p b off =>
      rw [V.rel] at rx
      obtain ⟨r, base, tot, hg, hv⟩ := rx
      cases hh : h.get b with
      | none => rw [hh] at hk; simp [V.known] at hk
      | some bl =>
        rw [hh] at hk
        dsimp only at hk ⊢
        cases hb : Nat.ble (Nat.add off i.size) bl.size
        · rw [hb] at hk; simp [V.known] at hk
        · have hb : off + i.size ≤ bl.size := by rw [Nat.ble_eq] at hb; exact hb
          cases agg
          · obtain ⟨u, c1, c2, c3, c4⟩ := mem_cell m hh hg (k := off) (by have := hc.2 rfl; omega)
            exact ⟨u, by simp [resOne, hv, asAddr, loadVar, run_isAgg ha, c1], c3⟩
          · obtain ⟨vs, g1, g2, g3, g4⟩ := getL_rel m hh hg i.size off (by omega)
            refine ⟨.agg ⟨vs⟩, ?_, ⟨vs, rfl, by rw [getW_eq]; exact g2⟩⟩
            have hl := run_loadCells_list (P := P) w ⟨r, base + off, none⟩ vs g4
            rw [g1] at hl
            simp [resOne, hv, asAddr, loadVar, run_isAgg ha, sizeOf, typeInfo, hi, hl]
    all_goals simp [V.known] at hk

def L.known : L → Bool
  | .nil => true
  | .cons v l => v.known && l.known
theorem evRVs_sound {P : Program} {N : Nat} {g : Sig} {e : Tr} {a : Act} {h : Hp} {w : World} (he : EnvA N g e a) (m : Mem g h.get w) : ∀ (rvs : List ResultVar) (rs : List RV), compRVs P rvs = some rs → (evRVs e h rs).known = true →
    ∃ us, (rvs.mapM (resOne a.tmps)).run P w = .ok us w ∧ (evRVs e h rs).rel g us
  | [], rs, hr, _ => by simp [compRVs] at hr; subst hr; exact ⟨[], rfl, rfl⟩
  | rv :: rvs, rs, hr, hk => by
    rw [compRVs] at hr
    split at hr
    case h_2 => cases hr
    rename_i r rs' h1 h2
    cases hr
    have hk : ((evRV r e h).known && (evRVs e h rs').known) = true := hk
    rw [Bool.and_eq_true] at hk
    obtain ⟨u, r1, r2⟩ := evRV_sound he m h1 hk.1
    obtain ⟨us, r3, r4⟩ := evRVs_sound he m rvs rs' h2 hk.2
    refine ⟨u :: us, ?_, ⟨u, us, rfl, r2, r4⟩⟩
    rw [List.mapM_cons, Sem.run_bind]
    rw [r1, Result.andThen_ok, Sem.run_bind, r3]
    rfl

def resKnown (v : V) : Bool := match v with | .tu l => l.known | v => v.known
theorem evRes_sound {P : Program} {N : Nat} {g : Sig} {e : Tr} {a : Act} {h : Hp} {w : World} (he : EnvA N g e a) (m : Mem g h.get w) {fn : Func} {rs : List RV} (hr : compRVs P fn.results.toList = some rs) (hk : (evRVs e h rs).known = true) :
    ∃ u, (results fn a.tmps).run P w = .ok u w ∧ (evRes e h rs).rel g u := by
  obtain ⟨us, h1, h2⟩ := evRVs_sound he m _ _ hr hk
  have hm : (fn.results.mapM (resOne a.tmps)).run P w = .ok ⟨us⟩ w := by
    rw [Array.mapM_eq_mapM_toList, Sem.run_map, h1]; rfl
  rw [results_eq, Sem.run_bind, hm, Result.andThen_ok, Sem.run_pure]
  match rs, h2 with
  | [], h2 =>
    have : us = [] := h2
    subst this
    exact ⟨.tuple #[], rfl, [], rfl, rfl⟩
  | [r], h2 =>
    obtain ⟨u, us', rfl, h3, h4⟩ := h2
    have : us' = [] := h4
    subst this
    exact ⟨u, rfl, h3⟩
  | r :: r' :: rs, h2 =>
    have hl := L.rel_length h2
    obtain ⟨u, us', rfl, h3, h4⟩ := h2
    obtain ⟨u', us'', rfl, h5, h6⟩ := h4
    refine ⟨.tuple ⟨u :: u' :: us''⟩, ?_, ⟨_, rfl, u, _, rfl, h3, u', us'', rfl, h5, h6⟩⟩
    rw [dif_neg (by simp)]

/-! Running a function. -/
noncomputable def bind : L → Nat → Tr → Tr
  | .nil, _, e => e
  | .cons v l, k, e => bind l (k + 1) (e.set v (tp k))
noncomputable def endF (drop : Bool) (h0 : Hp) (res : List RV) (e : Tr) (h : Hp) (n : Nat) : Res :=
  Bool.rec .no (Bool.rec (.ok (evRes e h res) h n) (.ok (evRes e h res) h0 n) drop) (evRVs e h res).known
noncomputable def runB (drop : Bool) (q : IC) (res : List RV) (F : FF) (args : L) (lim : Nat) (h : Hp) (n : Nat) : Res :=
  Rs.rec (motive := fun _ => Res) .no (fun e h' n' => endF drop h res e h' n') (fun _ _ _ _ => .no) (fun e h' n' => endF drop h res e h' n') (evC q F lim (bind args 0 .lf) h n)
noncomputable def runF (fi : FnI) (F : FF) (args : L) (lim : Nat) (h : Hp) (n : Nat) : Res :=
  FnI.rec (motive := fun _ => Res) (fun bar drop q res => Bool.rec (runB false q res F args lim h n) (Bool.rec .no (runB drop q res F args n h n) (Nat.ble lim n)) bar) fi
noncomputable def evF (PR : FT) (d : Nat) : FF :=
  Nat.rec (motive := fun _ => FF) (fun _ _ _ _ _ => .no) (fun _ ih f args lim h n => Bool.rec .no (Option.rec (motive := fun _ => Res) .no (fun fi => runF fi ih args lim h n) (PR.at (Nat.succ f))) (and (Nat.ble f 4294967294) (Nat.ble args.length 4294967294))) d

def compF (P : Program) (dr : List Nat) (bar drop : Bool) (fn : Func) : Option FnI :=
  match fn.body with
  | some c => match compC P dr fn.ntmps c, compRVs P fn.results.toList with
    | some q, some rs => if (fn.name == "runtime.NumGoroutine") = true then none else some (.mk bar drop q rs)
    | _, _ => none
  | none => none

theorem bind_get : ∀ (l : L) (k t : Nat) (e : Tr), k + l.length < 4294967296 → t < 4294967296 → (bind l k e).get (tp t) = if k ≤ t ∧ t < k + l.length then l.get (t - k) else e.get (tp t)
  | .nil, k, t, e, _, _ => by
    rw [if_neg (by simp [L.length]; try omega)]; rfl
  | .cons v l, k, t, e, hk, ht => by
    have hlen : (L.cons v l).length = l.length + 1 := rfl
    rw [hlen] at hk ⊢
    show (bind l (k + 1) (e.set v (tp k))).get (tp t) = _
    rw [bind_get l (k + 1) t _ (by omega) ht, Tr.get_set]
    by_cases h1 : k + 1 ≤ t ∧ t < k + 1 + l.length
    · rw [if_pos h1, if_pos (by omega), show t - k = (t - (k + 1)) + 1 by omega]; rfl
    · rw [if_neg h1]
      by_cases h2 : t = k
      · subst h2
        rw [if_pos rfl, if_pos (by omega), Nat.sub_self]; rfl
      · rw [if_neg (fun e => h2 (tp_inj ht (by omega) e)), if_neg (by omega)]

theorem env_bind {g : Sig} {args : L} {vs : List Value} (hgk : GOK g) (hr : args.rel g vs) (hl : args.length < 4294967296) (N : Nat) :
    EnvA N g (bind args 0 .lf) { tmps := (⟨vs⟩ : Array Value) ++ Array.replicate (N - (⟨vs⟩ : Array Value).size) undef, defers := [] } := by
  have hlen := L.rel_length hr
  refine ⟨by simp; omega, hgk, fun t ht => ?_⟩
  rw [bind_get args 0 t .lf (by omega) ht]
  by_cases h1 : 0 ≤ t ∧ t < 0 + args.length
  · rw [if_pos h1, Nat.sub_zero]
    have := L.rel_get t hr
    have hlt : t < vs.length := by omega
    simpa [Array.getD_eq_getD_getElem?, Array.getElem?_append, hlt, List.getD] using this
  · rw [if_neg h1, Tr.get_lf]; trivial

theorem ge_endF {n n' : Nat} (h1 : n ≤ n') (drop : Bool) (h0 : Hp) (res : List RV) (e : Tr) (h : Hp) : (endF drop h0 res e h n').ge n := by
  unfold endF
  cases (evRVs e h res).known
  · trivial
  · cases drop <;> exact h1
theorem ge_runB {F : FF} (hM : F.mono) (drop : Bool) (q : IC) (res : List RV) (args : L) (lim : Nat) (h : Hp) (n : Nat) : (runB drop q res F args lim h n).ge n := by
  unfold runB
  have h1 := evC_ge hM q lim (bind args 0 .lf) h n
  cases hx : evC q F lim (bind args 0 .lf) h n with
  | no => trivial
  | nor => rw [hx] at h1; exact ge_endF h1 _ _ _ _ _
  | ext => trivial
  | ret => rw [hx] at h1; exact ge_endF h1 _ _ _ _ _
theorem evF_mono (PR : FT) : ∀ d, (evF PR d).mono
  | 0 => fun _ _ _ _ _ => trivial
  | d + 1 => fun f args lim h n => by
    show (Bool.rec .no (Option.rec (motive := fun _ => Res) .no (fun fi => runF fi (evF PR d) args lim h n) (PR.at (Nat.succ f))) (and (Nat.ble f 4294967294) (Nat.ble args.length 4294967294)) : Res).ge n
    refine ge_bool ge_no ?_
    cases PR.at (Nat.succ f) with
    | none => trivial
    | some fi =>
      obtain ⟨bar, drop, q, res⟩ := fi
      have hM := evF_mono PR d
      show (Bool.rec (runB false q res (evF PR d) args lim h n) (Bool.rec .no (runB drop q res (evF PR d) args n h n) (Nat.ble lim n)) bar : Res).ge n
      cases bar
      · exact ge_runB hM _ _ _ _ _ _ _
      · cases Nat.ble lim n
        · trivial
        · exact ge_runB hM _ _ _ _ _ _ _

/-- Each of the functions listed is the program's. -/
def Listed (P : Program) (l : List (Nat × FnI)) : Prop := ∀ x ∈ l, x.1 < 4294967296 ∧ ∃ fn dr bar drop, P.funcs[x.1]? = some fn ∧ compF P dr bar drop fn = some x.2

theorem listed_nil {P : Program} : Listed P [] := fun x hx => by simp at hx
theorem listed_cons {P : Program} {l : List (Nat × FnI)} {k : Nat} {fi : FnI} {fn : Func} {dr : List Nat} {b d : Bool} (h1 : P.funcs[k]? = some fn) (h2 : compF P dr b d fn = some fi) (h3 : Listed P l) (h0 : k < 4294967296) : Listed P ((k, fi) :: l) := by
  intro x hx
  rcases List.mem_cons.1 hx with rfl | hx
  · exact ⟨h0, fn, dr, b, d, h1, h2⟩
  · exact h3 x hx

theorem endF_ok {drop : Bool} {h0 h h' : Hp} {res : List RV} {e : Tr} {n n' : Nat} {v : V} (hr : endF drop h0 res e h n = .ok v h' n') :
    (evRVs e h res).known = true ∧ v = evRes e h res ∧ h' = (if drop then h0 else h) ∧ n' = n := by
  unfold endF at hr
  cases hk : (evRVs e h res).known
  · rw [hk] at hr; cases hr
  · rw [hk] at hr
    cases drop
    · have hr : Res.ok (evRes e h res) h n = .ok v h' n' := hr
      cases hr; exact ⟨rfl, rfl, rfl, rfl⟩
    · have hr : Res.ok (evRes e h res) h0 n = .ok v h' n' := hr
      cases hr; exact ⟨rfl, rfl, rfl, rfl⟩

/-- What was there is as it was: the new may be forgotten. -/
theorem dropped {n n1 : Nat} {g g1 : Sig} {h h1 : Hm} {w w1 : World} (m : Mem g h w) (hd : Dom h n) (hf : Fresh g n n1) (f : Fr n n g h w n1 g1 h1 w1) : Mem g1 h w1 ∧ Fr n n g h w n1 g1 h w1 := by
  have hle := f.gle hf
  have hkeep : ∀ r, r < w.heap.size → w1.heap[r]? = w.heap[r]? := fun r hr => f.keep r hr fun p b base tot hp hl => by have := hd p b hp; omega
  refine ⟨⟨?_, ?_⟩, { f with dom := fun p b e => ⟨fun _ => ⟨b, e⟩, by have := hd p b e; have := f.le; omega⟩ }⟩
  · intro p q bp bq r b1 t1 b2 t2 hp hq e1 e2
    have s1 := f.sig p (.inl (hd p bp hp))
    have s2 := f.sig q (.inl (hd q bq hq))
    rw [s1] at e1
    rw [s2] at e2
    exact m.inj p q bp bq r b1 t1 b2 t2 hp hq e1 e2
  · intro p b hp
    obtain ⟨r, base, tot, cur, c1, c2, c3, c4, c5, c6⟩ := m.blk p b hp
    refine ⟨r, base, tot, cur, hle _ _ c1, (c2.mono hle).keep (hkeep r (m.lt hp c1)), c3, c4, c5, fun k hk => ?_⟩
    obtain ⟨v, d1, d2, d3⟩ := c6 k hk
    exact ⟨v, d1, d2, V.rel_mono hle _ d3⟩

/-- A world in which nothing else but blocks of deferred calls, from a place on, is another. -/
structure DefEq (s : Nat) (w w' : World) : Prop where
  os : w'.os = w.os
  tape : w'.tape = w.tape
  output : w'.output = w.output
  size : w'.heap.size = w.heap.size
  heap : ∀ r, w'.heap[r]? = w.heap[r]? ∨ (s ≤ r ∧ (∃ x, w.heap[r]? = some (.deferred x)) ∧ ∃ y, w'.heap[r]? = some (.deferred y))
theorem DefEq.refl (s : Nat) (w : World) : DefEq s w w := ⟨rfl, rfl, rfl, rfl, fun _ => .inl rfl⟩
theorem DefEq.trans {s : Nat} {w w1 w2 : World} (a : DefEq s w w1) (b : DefEq s w1 w2) : DefEq s w w2 := ⟨b.os.trans a.os, b.tape.trans a.tape, b.output.trans a.output, b.size.trans a.size, fun r => by
  rcases b.heap r with h1 | ⟨h1, ⟨x, h2⟩, h3⟩
  · rcases a.heap r with h4 | ⟨h4, h5, y, h6⟩
    · exact .inl (h1.trans h4)
    · exact .inr ⟨h4, h5, y, h1.trans h6⟩
  · rcases a.heap r with h4 | ⟨h4, h5, y, h6⟩
    · exact .inr ⟨h1, ⟨x, h4 ▸ h2⟩, h3⟩
    · exact .inr ⟨h1, h5, h3⟩⟩
theorem DefEq.mem {s : Nat} {w w' : World} (e : DefEq s w w') {g : Sig} {h : Hm} (m : Mem g h w) : Mem g h w' := ⟨m.inj, fun p b hp => by
  obtain ⟨r, base, tot, cur, c1, c2, c3, c4, c5, c6⟩ := m.blk p b hp
  refine ⟨r, base, tot, cur, c1, c2.keep ?_, c3, c4, c5, c6⟩
  rcases e.heap r with h1 | ⟨_, ⟨x, h2⟩, _⟩
  · exact h1
  · exact absurd h2 (c2.notDef x)⟩
theorem DefEq.fr {w0 w w' : World} (e : DefEq w0.heap.size w w') {lim n n1 : Nat} {g g1 : Sig} {h h1 : Hm} (f : Fr lim n g h w0 n1 g1 h1 w) : Fr lim n g h w0 n1 g1 h1 w' :=
  { f with
    os := e.os.trans f.os
    tape := e.tape.trans f.tape
    output := e.output.trans f.output
    size := by rw [e.size]; exact f.size
    keep := fun r hr hW => by
      rcases e.heap r with h1 | ⟨h1, _⟩
      · rw [h1]; exact f.keep r hr hW
      · omega }
theorem leave_marks {P : Program} {fn : Func} {tmps : Array Value} {R : Ending → World → Prop} {s : Nat} : ∀ (ds : List Deferred) (w : World), ds.Nodup → (∀ d ∈ ds, isMk s w d) →
    (∀ w', DefEq s w w' → ∃ v, (results fn tmps).run P w' = .ok v w' ∧ R (.returned v) w') → LeavesInM Fence.wide 0 P fn tmps R ds .returning w
  | [], w, _, _, h => h w (DefEq.refl s w)
  | d :: ds, w, hn, hm, h => by
    obtain ⟨r, h1, h2, h3⟩ := hm d (List.mem_cons_self ..)
    have hlt := (Array.getElem?_eq_some_iff.1 h3).1
    rw [List.nodup_cons] at hn
    have e1 : DefEq s w (w.putObj r (.deferred none)) := ⟨rfl, rfl, rfl, by simp [World.putObj], fun k => by
      by_cases hk : k = r
      · subst hk; exact .inr ⟨h1, ⟨_, h3⟩, _, World.putObj_heap_same hlt⟩
      · exact .inl (World.putObj_heap_other hk)⟩
    refine ⟨by simp, .inl ⟨r, _, by rw [h2], run_takeDeferred h3, leave_marks ds _ hn.2 (fun d' hd' => ?_) fun w' e => h w' (e1.trans e)⟩⟩
    obtain ⟨r', k1, k2, k3⟩ := hm d' (List.mem_cons_of_mem _ hd')
    refine ⟨r', k1, k2, (World.putObj_heap_other fun e => ?_).trans k3⟩
    subst e
    rw [h2, ← k2] at hn
    exact hn.1 hd'
theorem runB_sound {P : Program} (hP : P.follows .mixedOrders = true) {F : FF} (hF : FOK P F) (hM : F.mono) {f : Nat} {fn : Func} {c : Code} (hfn : P.funcs[f]? = some fn) (hb : fn.body = some c) {dr : List Nat} {q : IC} {res : List RV} (hq : compC P dr fn.ntmps c = some q) (hres : compRVs P fn.results.toList = some res)
    (drop : Bool) {args : L} {lim n n' : Nat} {h h' : Hp} {v : V} (hr : runB drop q res F args lim h n = .ok v h' n') (hdr : drop = true → lim = n) {vs : List Value} {g : Sig} {w : World} (ha : args.rel g vs) (hgk : GOK g) (hal : args.length < 4294967296) (m : Mem g h.get w) (hd : Dom h.get n) (hf : Fresh g n n') (hn : n' < 9223372036854775808) :
    Calls P f ⟨vs⟩ w fun e w' => ∃ u g', e = .returned u ∧ v.rel g' u ∧ Mem g' h'.get w' ∧ Fr lim n g h.get w n' g' h'.get w' := by
  refine callsIn_wide.1 (callsIn_of_wp_marks (F := Fence.wide) (n := 0) hfn hb trivial ?_)
  have fin : ∀ (e1 : Tr) (h1 : Hp) (n1 : Nat), endF drop h res e1 h1 n1 = .ok v h' n' → ∀ (a' : Act) (g1 : Sig) (w' : World), EnvA fn.ntmps g1 e1 a' → Mem g1 h1.get w' → Fr lim n g h.get w n1 g1 h1.get w' → Mk w.heap.size w' a' →
      LeavesInM Fence.wide 0 P fn a'.tmps (fun e w' => ∃ u g', e = .returned u ∧ v.rel g' u ∧ Mem g' h'.get w' ∧ Fr lim n g h.get w n' g' h'.get w') a'.defers .returning w' := by
    intro e1 h1 n1 he a' g1 w' hE m1 f1 hmk
    obtain ⟨hk, rfl, rfl, rfl⟩ := endF_ok he
    refine leave_marks a'.defers w' hmk.1 hmk.2 fun w2 e2 => ?_
    obtain ⟨u, r1, r2⟩ := evRes_sound hE (e2.mem m1) hres hk
    refine ⟨u, r1, u, g1, rfl, r2, ?_⟩
    cases drop with
    | false => exact ⟨e2.mem m1, e2.fr f1⟩
    | true =>
      have := hdr rfl
      subst this
      exact dropped m hd hf (e2.fr f1)
  have m0 : Mk w.heap.size w { tmps := (⟨vs⟩ : Array Value) ++ Array.replicate (fn.ntmps - (⟨vs⟩ : Array Value).size) undef, defers := [] } := ⟨List.nodup_nil, fun d hd => by simp at hd⟩
  unfold runB at hr
  cases hx : evC q F lim (bind args 0 .lf) h n with
  | no => rw [hx] at hr; cases hr
  | ext => rw [hx] at hr; cases hr
  | nor e1 h1 n1 =>
    rw [hx] at hr
    have hr : endF drop h res e1 h1 n1 = .ok v h' n' := hr
    have hnn : n1 = n' := (endF_ok hr).2.2.2.symm
    refine wpIn_mono (evC_sound hP hF hM c q hq lim _ h n _ hx (by simp) _ g w (env_bind hgk ha hal fn.ntmps) m hd (hnn ▸ hf) (hnn ▸ hn) none (.inl rfl)) ?_
    rintro ex a' w' ⟨rfl, k1, g1, hE, m1, f1⟩
    exact fin e1 h1 n1 hr a' g1 w' hE m1 f1 (k1.2 _ (Nat.le_refl _) m0)
  | ret e1 h1 n1 =>
    rw [hx] at hr
    have hr : endF drop h res e1 h1 n1 = .ok v h' n' := hr
    have hnn : n1 = n' := (endF_ok hr).2.2.2.symm
    refine wpIn_mono (evC_sound hP hF hM c q hq lim _ h n _ hx (by simp) _ g w (env_bind hgk ha hal fn.ntmps) m hd (hnn ▸ hf) (hnn ▸ hn) none (.inl rfl)) ?_
    rintro ex a' w' ⟨rfl, k1, g1, hE, m1, f1⟩
    exact fin e1 h1 n1 hr a' g1 w' hE m1 f1 (k1.2 _ (Nat.le_refl _) m0)

theorem evF_sound {P : Program} (hP : P.follows .mixedOrders = true) {l : List (Nat × FnI)} (hl : Listed P l) : ∀ d, FOK P (evF (FT.of l) d)
  | 0 => ⟨fun f args lim h n v h' n' hr => (by cases hr), fun p args lim h n v h' n' hr => (by cases hr)⟩
  | d + 1 => by
    refine ⟨fun f args lim h n v h' n' hr => ?_, fun p args lim h n v h' n' hr => by
      have hr : (Bool.rec .no (Option.rec (motive := fun _ => Res) .no (fun fi => runF fi (evF (FT.of l) d) (.cons yM (.cons (.yl p) args)) lim h n) ((FT.of l).at (Nat.succ YID))) (and (Nat.ble YID 4294967294) (Nat.ble (L.cons yM (.cons (.yl p) args)).length 4294967294)) : Res) = .ok v h' n' := hr
      rw [show Nat.ble YID 4294967294 = false by decide] at hr
      cases hr⟩
    intro vs g w ha hgk m hd hf hn
    have hr : (Bool.rec .no (Option.rec (motive := fun _ => Res) .no (fun fi => runF fi (evF (FT.of l) d) args lim h n) ((FT.of l).at (Nat.succ f))) (and (Nat.ble f 4294967294) (Nat.ble args.length 4294967294)) : Res) = .ok v h' n' := hr
    cases hb : and (Nat.ble f 4294967294) (Nat.ble args.length 4294967294)
    · rw [hb] at hr; cases hr
    · rw [hb] at hr
      simp only [Bool.and_eq_true, Nat.ble_eq] at hb
      cases hat : (FT.of l).at (Nat.succ f) with
      | none => rw [hat] at hr; cases hr
      | some fi =>
        rw [hat] at hr
        have hr : runF fi (evF (FT.of l) d) args lim h n = .ok v h' n' := hr
        have hmem := FT.of_mem l (fun x hx => (hl x hx).1) f fi (by omega) hat
        obtain ⟨_, fn, dr, bar, drop, hfn, hcomp⟩ := hl _ hmem
        have hfn : P.funcs[f]? = some fn := hfn
        have hcomp : compF P dr bar drop fn = some fi := hcomp
        unfold compF at hcomp
        split at hcomp
        case h_2 => cases hcomp
        rename_i c hbody
        split at hcomp
        case h_2 => cases hcomp
        rename_i q res hq hres
        split at hcomp
        case isTrue => cases hcomp
        rename_i hname
        cases hcomp
        refine ⟨⟨fn, hfn, by simpa using hname, by rw [hbody]; rfl⟩, ?_⟩
        have hr : (Bool.rec (runB false q res (evF (FT.of l) d) args lim h n) (Bool.rec .no (runB drop q res (evF (FT.of l) d) args n h n) (Nat.ble lim n)) bar : Res) = .ok v h' n' := hr
        cases bar with
        | false => exact runB_sound hP (evF_sound hP hl d) (evF_mono _ d) hfn hbody hq hres false hr (fun h => by cases h) ha hgk (by omega) m hd hf hn
        | true =>
          cases hlim : Nat.ble lim n
          · rw [hlim] at hr; cases hr
          · rw [hlim] at hr
            rw [Nat.ble_eq] at hlim
            refine (runB_sound hP (evF_sound hP hl d) (evF_mono _ d) hfn hbody hq hres drop hr (fun _ => rfl) ha hgk (by omega) m hd hf hn).mono ?_
            rintro e w' ⟨u, g', h1, h2, h3, h4⟩
            exact ⟨u, g', h1, h2, h3, h4.weak hlim⟩

/-- Where the package-level variables stand. -/
noncomputable def g0 (tot : Nat → Nat) : Sig := fun p => if p.num ≤ gK then some (p.num - 1, 0, tot (p.num - 1)) else none
theorem g0_ok (tot : Nat → Nat) : GOK (g0 tot) := fun k hk => ⟨tot k, by
  have := num_posF 63 (k + 1) (by omega) (by unfold gK at hk; omega)
  unfold g0; rw [this, if_pos (by omega)]; simp⟩
theorem g0_fresh (tot : Nat → Nat) (n : Nat) : Fresh (g0 tot) (gK + 1) n := fun p h _ => by
  unfold g0; rw [if_neg (by omega)]

/-- From the evaluator's answer to the call, in any world. -/
theorem ran {P : Program} (hP : P.follows .mixedOrders = true) {l : List (Nat × FnI)} (hl : Listed P l) {d f : Nat} {args : L} {v : V} {h' : Hp} {n' : Nat} (hr : evF (FT.of l) d f args (gK + 1) .lf (gK + 1) = .ok v h' n') (hn : n' < 9223372036854775808) {vs : List Value} {u : Value}
    (ha : ∀ g, args.rel g vs) (hu : ∀ g x, v.rel g x → x = u) (w : World) : Calls P f ⟨vs⟩ w fun e w' => e = .returned u ∧ Below w.heap.size w w' := by
  have h0 : ∀ p, (Hp.get p .lf) = none := Hp.get_lf
  refine ((evF_sound hP hl d).1 f args (gK + 1) .lf (gK + 1) v h' n' hr vs (g0 fun _ => 0) w (ha _) (g0_ok _) ⟨fun p q bp bq _ _ _ _ _ hp => ?_, fun p b hp => ?_⟩ (fun p b hp => ?_) (g0_fresh _ _) hn).2.mono ?_
  · have := (h0 _).symm.trans hp; cases this
  · have := (h0 _).symm.trans hp; cases this
  · have := (h0 _).symm.trans hp; cases this
  · rintro e w' ⟨x, g', rfl, hv, _, hfr⟩
    refine ⟨by rw [hu g' x hv], hfr.os, hfr.tape, hfr.output, hfr.size, fun k hk => hfr.keep k hk fun p b base tot hp => ?_⟩
    have := (h0 _).symm.trans hp; cases this

/-- The tables of a memory: which variable, of which type, what its cells hold. -/
noncomputable def tabH : List (Nat × TypeId × L) → Hp
  | [] => .lf
  | (k, el, z) :: l => (tabH l).put (some ⟨el, z.length, z.length, z, .lf⟩) (tp k)
def tabT : List (Nat × TypeId × L) → Nat → Nat
  | [], _ => 0
  | (k, _, z) :: l, j => if j = k then z.length else tabT l j
/-- That a world holds them. -/
def Holds (w : World) : List (Nat × TypeId × L) → Prop
  | [] => True
  | (k, el, z) :: l => (k < gK ∧ z.allC = true ∧ z.length ≤ maxSize ∧ ∃ vs, w.heap[k]? = some (.cells ⟨vs⟩ el (0, 0)) ∧ ∀ g, z.rel g vs) ∧ Holds w l

theorem tabH_get {w : World} : ∀ (l : List (Nat × TypeId × L)), Holds w l → ∀ p b, (tabH l).get p = some b → ∃ k z, k < gK ∧ p = tp k ∧ b = ⟨b.el, z.length, z.length, z, .lf⟩ ∧ tabT l k = z.length ∧ z.allC = true ∧ z.length ≤ maxSize ∧ ∃ vs, w.heap[k]? = some (.cells ⟨vs⟩ b.el (0, 0)) ∧ ∀ g, z.rel g vs
  | [], _, p, b, h => by have := (Hp.get_lf p).symm.trans h; cases this
  | (k, el, z) :: l, hw, p, b, h => by
    have h : ((tabH l).put (some ⟨el, z.length, z.length, z, .lf⟩) (tp k)).get p = some b := h
    rw [Hp.get_put] at h
    split at h
    · rename_i e
      cases h
      exact ⟨k, z, hw.1.1, e, rfl, by simp [tabT], hw.1.2.1, hw.1.2.2.1, hw.1.2.2.2⟩
    · rename_i hne
      obtain ⟨k', z', h1, h2, h3, h4, h5⟩ := tabH_get l hw.2 p b h
      refine ⟨k', z', h1, h2, h3, ?_, h5⟩
      show (if k' = k then _ else _) = _
      rw [if_neg (fun e => hne (by rw [h2, e])), h4]

/-- The same, in a world that holds tables. -/
theorem ranT {P : Program} (hP : P.follows .mixedOrders = true) {l : List (Nat × FnI)} (hl : Listed P l) (tabs : List (Nat × TypeId × L)) {d f : Nat} {args : L} {v : V} {h' : Hp} {n' : Nat} (hr : evF (FT.of l) d f args (gK + 1) (tabH tabs) (gK + 1) = .ok v h' n') (hn : n' < 9223372036854775808) {vs : List Value} {u : Value}
    (ha : ∀ g, args.rel g vs) (hu : ∀ g x, v.rel g x → x = u) (w : World) (hw : Holds w tabs) : Calls P f ⟨vs⟩ w fun e w' => e = .returned u ∧ Below w.heap.size w w' := by
  have num : ∀ k, k < gK → (tp k).num = k + 1 := fun k hk => num_posF 63 (k + 1) (by omega) (by unfold gK at hk; omega)
  have hg : ∀ k, k < gK → g0 (tabT tabs) (tp k) = some (k, 0, tabT tabs k) := fun k hk => by
    unfold g0; rw [num k hk, if_pos (by omega)]; simp
  refine ((evF_sound hP hl d).1 f args (gK + 1) (tabH tabs) (gK + 1) v h' n' hr vs (g0 (tabT tabs)) w (ha _) (g0_ok _) ⟨fun p q bp bq r b1 t1 b2 t2 hp hq e1 e2 => ?_, fun p b hp => ?_⟩ (fun p b hp => ?_) (g0_fresh _ _) hn).2.mono ?_
  · obtain ⟨k, z, h1, rfl, _⟩ := tabH_get tabs hw p bp hp
    obtain ⟨k', z', h1', rfl, _⟩ := tabH_get tabs hw q bq hq
    rw [hg k h1] at e1
    rw [hg k' h1'] at e2
    cases e1; cases e2; rfl
  · obtain ⟨k, z, h1, rfl, h3, h4, h5, h6, vs, h7, h8⟩ := tabH_get tabs hw p b hp
    have hlen : vs.length = z.length := L.rel_length (h8 (fun _ => none))
    have hbs : b.size = z.length := by rw [h3]
    refine ⟨k, 0, tabT tabs k, ⟨vs⟩, hg k h1, .inl ⟨RowIs.of h7, Nat.zero_le _⟩, by rw [h4]; simpa using hlen, .inr (by rw [h4, hbs]; simp), by rw [hbs]; exact h6, fun j hj => ?_⟩
    obtain ⟨u, c1, c2, c3⟩ := cell_list (h8 (g0 (tabT tabs))) h5 b.el j (by rw [← hbs]; exact hj)
    refine ⟨u, by simpa using c1, c2, ?_⟩
    rw [h3]; exact c3
  · obtain ⟨k, z, h1, rfl, _⟩ := tabH_get tabs hw p b hp
    rw [num k h1]; omega
  · rintro e w' ⟨x, g', rfl, hv, _, hfr⟩
    refine ⟨by rw [hu g' x hv], hfr.os, hfr.tape, hfr.output, hfr.size, fun k hk => hfr.keep k hk fun p b base tot hp hl => ?_⟩
    obtain ⟨k', z, h1, rfl, _⟩ := tabH_get tabs hw p b hp
    rw [num k' h1] at hl; omega
end Go.Proofs.Ytjhgingmbklhaaa.Ev
