/- The texts EvPc, EvPd, TpC, EvPe, EvTc, EvTb, TpA, TpA1, TpA2, TpA3, TpB, TpD, TpD1, TpD2, TpD3, TpD4, TpE, TpK, TpK0. -/
import Derived.Test.YtagjnlnnecidnaaDoorQ6
import Derived.Test.YtagjnlnnecidnaaDoorQ7
import Derived.Test.YtagjnlnnecidnaaDoorQ8
import Derived.Test.YtagjnlnnecidnaaDoorQ5
/- Stages of a law by evaluation alone: a piece is run at each value of an argument; what it leaves is read off its slots. -/
namespace Go.Proofs.YtagjnlnnecidnaaDoor.Ev
set_option linter.unusedVariables false
open Go Go.Proofs Go.RowKit

noncomputable def pcE (r : Rs) : Tr := Rs.rec (motive := fun _ => Tr) .lf (fun e _ _ => e) (fun _ _ _ _ => .lf) (fun _ _ _ => .lf) r
noncomputable def pcH (r : Rs) : Hp := Rs.rec (motive := fun _ => Hp) .lf (fun _ h _ => h) (fun _ _ _ _ => .lf) (fun _ _ _ => .lf) r
/-- The piece goes on to the next, and its places stay below m. -/
noncomputable def pcN (m : Nat) (r : Rs) : Bool := Rs.rec (motive := fun _ => Bool) false (fun _ _ n => Nat.ble n m) (fun _ _ _ _ => false) (fun _ _ _ => false) r
theorem pcN_ok {m : Nat} {r : Rs} (h : pcN m r = true) : ∃ n, r = .nor (pcE r) (pcH r) n ∧ n ≤ m := by
  cases r with
  | nor e h' n => exact ⟨n, rfl, Nat.le_of_ble_eq_true h⟩
  | _ => cases h
/-- Some slots with their values. -/
noncomputable def mkE : List (Nat × V) → Tr
  | [] => .lf
  | x :: l => (mkE l).set x.2 (tp x.1)
/-- What is read behind a piece: that it goes on, the slots ts, the tables' blocks. -/
noncomputable def stg (tabs : List (Nat × TypeId × L)) (m : Nat) (ts : List Nat) (r : Rs) : Bool × List V × List (Option Blk) :=
  (pcN m r, ts.map (fun t => (pcE r).get (tp t)), tabs.map fun x => (pcH r).get (tp x.1))
/-- What it should be. -/
noncomputable def stgIs (tabs : List (Nat × TypeId × L)) (l : List (Nat × V)) : Bool × List V × List (Option Blk) :=
  (true, l.map Prod.snd, tabs.map fun x => (tabH tabs).get (tp x.1))
theorem mkE_le {e : Tr} : ∀ {l : List (Nat × V)}, (l.all fun x => decide (x.1 < 4294967296)) = true → (l.map Prod.fst).map (fun t => e.get (tp t)) = l.map Prod.snd → EnvLe (mkE l) e
  | [], _, _ => EnvLe.lf e
  | (t, v) :: l, hl, h => by
    simp only [List.all_cons, Bool.and_eq_true, decide_eq_true_eq] at hl
    simp only [List.map_cons, List.cons.injEq] at h
    exact EnvLe.set hl.1 h.1 (mkE_le hl.2 h.2)
theorem tabH_mem : ∀ (l : List (Nat × TypeId × L)) (p : Pos) (b : Blk), (tabH l).get p = some b → ∃ x ∈ l, p = tp x.1
  | [], p, b, h => by have := (Hp.get_lf p).symm.trans h; cases this
  | (k, el, z) :: l, p, b, h => by
    have h : ((tabH l).put (some ⟨el, z.length, z.length, z, .lf⟩) (tp k)).get p = some b := h
    rw [Hp.get_put] at h
    split at h
    · rename_i e; exact ⟨_, List.mem_cons_self, e⟩
    · obtain ⟨x, hx, e⟩ := tabH_mem l p b h; exact ⟨x, List.mem_cons_of_mem _ hx, e⟩
theorem tabH_le {tabs : List (Nat × TypeId × L)} {h : Hp} (hh : (tabs.map fun x => h.get (tp x.1)) = tabs.map fun x => (tabH tabs).get (tp x.1)) : HpLe (tabH tabs) h := fun p b hp => by
  obtain ⟨x, hx, rfl⟩ := tabH_mem tabs p b hp
  exact ⟨b, (List.map_inj_left.1 hh x hx).trans hp, BlkLe.refl b⟩
/-- A piece is as good from a later place on. -/
theorem JQ.later {P : Program} {dr : List Nat} {N lim n n2 : Nat} {F : FF} {q : IC} {K : Rs → Prop} {e : Tr} {h : Hp} (hn : n ≤ n2) (j : JQ P dr N F q lim K e h n2) : JQ P dr N F q lim K e h n := fun c hc a g w he m hd hf =>
  wp_mono (j c hc a g w he m (fun p b hp => Nat.lt_of_lt_of_le (hd p b hp) hn) (fun p hp => hf p (Nat.le_trans hn hp))) fun ex a' w' ⟨r, k, t, p⟩ => ⟨r, k, t, by
    have key : ∀ {n' : Nat} {g' : Sig} {h' : Hm} {w' : World}, Fr lim n2 g h.get w n' g' h' w' → Fr lim n g h.get w n' g' h' w' := fun f =>
      { f with
        le := Nat.le_trans hn f.le
        sig := fun p hp => f.sig p (by omega)
        dom := fun p b e => ⟨fun hp => (f.dom p b e).1 (by omega), (f.dom p b e).2⟩
        new := fun p r base tot h1 h2 e => by
          by_cases h3 : n2 ≤ p.num
          · exact f.new p r base tot h3 h2 e
          · rw [f.sig p (.inl (by omega)), hf p h1] at e; cases e }
    cases r with
    | no => exact p
    | nor => obtain ⟨h1, h2, g', h3, h4, h5⟩ := p; exact ⟨h1, h2, g', h3, h4, key h5⟩
    | ext => obtain ⟨h1, h2, g', h3, h4, h5⟩ := p; exact ⟨h1, h2, g', h3, h4, key h5⟩
    | ret => obtain ⟨h1, h2, g', h3, h4, h5⟩ := p; exact ⟨h1, h2, g', h3, h4, key h5⟩⟩
/-- A piece evaluated, all that follows kept. -/
theorem JQ.piece {P : Program} (hP : P.follows .mixedOrders = true) {dr : List Nat} {N lim n : Nat} {F : FF} (hF : FOK P F) (hM : F.mono) {qa qb : IC} {K : Rs → Prop} {e : Tr} {h : Hp} {e1 : Tr} {h1 : Hp} {n1 : Nat} (hk : (kC qa nK).f F lim e h n = .nor e1 h1 n1) (hn : n1 < big)
    (j : JQ P dr N F qb lim K e1 h1 n1) : JQ P dr N F (.seq qa qb) lim K e h n := by
  refine JQ.step hP hF hM ?_
  rw [kC_eq, onC_nK] at hk
  rw [hk]; exact ⟨hn, j⟩
/-- A stage: the piece is evaluated; the slots of l and the tables are all that is kept of it. -/
theorem JQ.stage {P : Program} (hP : P.follows .mixedOrders = true) {dr : List Nat} {N lim n m : Nat} {F : FF} (hF : FOK P F) (hM : F.mono) {qa qb : IC} {K : Rs → Prop} {e : Tr} {h : Hp} {tabs : List (Nat × TypeId × L)} {l : List (Nat × V)}
    (hk : stg tabs m (l.map Prod.fst) ((kC qa nK).f F lim e h n) = stgIs tabs l) (hl : (l.all fun x => decide (x.1 < 4294967296)) = true) (hm : m < big)
    (j : JQ P dr N F qb lim K (mkE l) (tabH tabs) m) : JQ P dr N F (.seq qa qb) lim K e h n := by
  have hk' := hk
  unfold stg stgIs at hk'
  simp only [Prod.mk.injEq] at hk'
  obtain ⟨h1, h2, h3⟩ := hk'
  obtain ⟨n1, h4, h5⟩ := pcN_ok h1
  exact JQ.piece hP hF hM h4 (Nat.lt_of_le_of_lt h5 hm) (JQ.later h5 (JQ.weak (mkE_le hl h2) (tabH_le h3) j))
/-- A chunk of values. -/
theorem chunk {α : Type} {f g : Nat → α} {c k t : Nat} (h : (List.range c).map (fun i => f (k + i)) = (List.range c).map fun i => g (k + i)) (h1 : k ≤ t) (h2 : t < k + c) : f t = g t := by
  have := List.map_inj_left.1 h (t - k) (List.mem_range.2 (by omega))
  have e : k + (t - k) = t := by omega
  rwa [e] at this
theorem chunkB {f : Nat → Bool} {c k t : Nat} (h : (List.range c).all (fun i => f (k + i)) = true) (h1 : k ≤ t) (h2 : t < k + c) : f t = true := by
  have := List.all_eq_true.1 h (t - k) (List.mem_range.2 (by omega))
  have e : k + (t - k) = t := by omega
  rwa [e] at this
/-! Several pieces in a row. -/
noncomputable def seqs (ps : List IC) (q : IC) : IC := ps.foldr .seq q
/-- The first so many pieces of a body, and the rest. -/
noncomputable def IC.pcs (q : IC) (k : Nat) : List IC := Nat.rec (motive := fun _ => IC → List IC) (fun _ => []) (fun _ ih q => match q with | .seq a b => a :: ih b | q => [q]) k q
noncomputable def IC.rst (q : IC) (k : Nat) : IC := Nat.rec (motive := fun _ => IC → IC) (fun q => q) (fun _ ih q => match q with | .seq _ b => ih b | q => q) k q
/-- They are run one after the other; each has to go on to the next with its places below m. -/
noncomputable def runP (F : FF) (lim m : Nat) (ps : List IC) : Rs → Rs := List.rec (motive := fun _ => Rs → Rs) (fun r => r)
  (fun p _ ih r => Rs.rec (motive := fun _ => Rs) .no (fun e h n => Bool.rec .no (ih ((kC p nK).f F lim e h n)) (Nat.ble n m)) (fun _ _ _ _ => .no) (fun _ _ _ => .no) r) ps
theorem runP_no (F : FF) (lim m : Nat) {ps : List IC} {r : Rs} {e : Tr} {h : Hp} {n : Nat} (hr : runP F lim m ps r = .nor e h n) : ∃ e1 h1 n1, r = .nor e1 h1 n1 := by
  cases ps with
  | nil => exact ⟨_, _, _, hr⟩
  | cons p ps =>
    cases r with
    | nor e1 h1 n1 => exact ⟨_, _, _, rfl⟩
    | _ => exact absurd (show (Rs.no) = _ from hr) (by simp)
theorem JQ.pieces {P : Program} (hP : P.follows .mixedOrders = true) {dr : List Nat} {N lim m : Nat} {F : FF} (hF : FOK P F) (hM : F.mono) {qb : IC} {K : Rs → Prop} (hm : m < big) {e1 : Tr} {h1 : Hp} {n1 : Nat} (hn1 : n1 ≤ m) (j : JQ P dr N F qb lim K e1 h1 n1) :
    ∀ (ps : List IC) {e : Tr} {h : Hp} {n : Nat}, runP F lim m ps (.nor e h n) = .nor e1 h1 n1 → JQ P dr N F (seqs ps qb) lim K e h n
  | [], e, h, n, hr => by
    have hr : Rs.nor e h n = Rs.nor e1 h1 n1 := hr
    cases hr; exact j
  | p :: ps, e, h, n, hr => by
    have hr : (Bool.rec .no (runP F lim m ps ((kC p nK).f F lim e h n)) (Nat.ble n m) : Rs) = .nor e1 h1 n1 := hr
    cases hb : Nat.ble n m with
    | false => rw [hb] at hr; cases hr
    | true =>
      rw [hb] at hr
      have hr : runP F lim m ps ((kC p nK).f F lim e h n) = .nor e1 h1 n1 := hr
      obtain ⟨e2, h2, n2, h3⟩ := runP_no F lim m hr
      rw [h3] at hr
      have hn2 : n2 ≤ m := by
        cases ps with
        | nil => have hr : Rs.nor e2 h2 n2 = Rs.nor e1 h1 n1 := hr; cases hr; exact hn1
        | cons p' ps' =>
          have hr : (Bool.rec .no (runP F lim m ps' ((kC p' nK).f F lim e2 h2 n2)) (Nat.ble n2 m) : Rs) = .nor e1 h1 n1 := hr
          cases hb2 : Nat.ble n2 m with
          | false => rw [hb2] at hr; cases hr
          | true => exact Nat.le_of_ble_eq_true hb2
      exact JQ.piece hP hF hM h3 (Nat.lt_of_le_of_lt hn2 hm) (JQ.pieces hP hF hM hm hn1 j ps hr)
/-- A stage of several pieces. -/
theorem JQ.stages {P : Program} (hP : P.follows .mixedOrders = true) {dr : List Nat} {N lim n m : Nat} {F : FF} (hF : FOK P F) (hM : F.mono) {q qb : IC} (ps : List IC) {K : Rs → Prop} {e : Tr} {h : Hp} {tabs : List (Nat × TypeId × L)} {l : List (Nat × V)} (hq : q = seqs ps qb)
    (hk : stg tabs m (l.map Prod.fst) (runP F lim m ps (.nor e h n)) = stgIs tabs l) (hl : (l.all fun x => decide (x.1 < 4294967296)) = true) (hm : m < big)
    (j : JQ P dr N F qb lim K (mkE l) (tabH tabs) m) : JQ P dr N F q lim K e h n := by
  subst hq
  have hk' := hk
  unfold stg stgIs at hk'
  simp only [Prod.mk.injEq] at hk'
  obtain ⟨h1, h2, h3⟩ := hk'
  obtain ⟨n1, h4, h5⟩ := pcN_ok h1
  exact JQ.pieces hP hF hM hm h5 (JQ.later h5 (JQ.weak (mkE_le hl h2) (tabH_le h3) j)) ps h4
end Go.Proofs.YtagjnlnnecidnaaDoor.Ev
/- Laws over few inputs, where no table is in memory: a stage that keeps its memory, and the run's end. -/
namespace Go.Proofs.YtagjnlnnecidnaaDoor.Ev
set_option linter.unusedVariables false
open Go Go.Proofs Go.RowKit
/-- A run's end: true is handed back. -/
noncomputable def finB (res : List RV) (e : Tr) (h : Hp) (n : Nat) : Bool := and (evRVs e h res).known (and (onB (evRes e h res) (fun b => b) false) (Nat.blt n 9223372036854775808))
noncomputable def finR (res : List RV) (r : Rs) : Bool := Rs.rec false (fun e h n => finB res e h n) (fun _ _ _ _ => false) (fun e h n => finB res e h n) r
theorem finB_ok {res : List RV} {e : Tr} {h : Hp} {n : Nat} (hf : finB res e h n = true) : n < big ∧ (evRVs e h res).known = true ∧ evRes e h res = .b true := by
  unfold finB at hf
  simp only [Bool.and_eq_true, Nat.blt_eq] at hf
  refine ⟨hf.2.2, hf.1, ?_⟩
  have := hf.2.1
  cases hx : evRes e h res <;> rw [hx] at this <;> simp [onB, V.asB] at this
  rw [this]
theorem got_fin {res : List RV} {r : Rs} (h : finR res r = true) : Got (Kend res (Good 0 (.v (.b true)))) r := by
  cases r with
  | no => cases h
  | ext => cases h
  | nor e h' n => have := finB_ok h; exact ⟨this.1, this.2.1, this.2.2, rfl⟩
  | ret e h' n => have := finB_ok h; exact ⟨this.1, this.2.1, this.2.2, rfl⟩
/-- A piece run to the law's end. -/
theorem JQ.fin {P : Program} (hP : P.follows .mixedOrders = true) {dr : List Nat} {N lim n : Nat} {F : FF} (hF : FOK P F) (hM : F.mono) {res : List RV} {q : IC} {e : Tr} {h : Hp} (hk : finR res ((kC q nK).f F lim e h n) = true) : JQ P dr N F q lim (Kend res (Good 0 (.v (.b true)))) e h n := by
  refine JQ.run hP hF hM ?_
  rw [kC_eq, onC_nK] at hk; exact got_fin hk
/-- What is looked at behind a stage. -/
noncomputable def obs (m : Nat) (ts : List Nat) (r : Rs) : Bool × List V × Hp := (pcN m r, ts.map (fun t => (pcE r).get (tp t)), pcH r)
noncomputable def lstO (ts : List Nat) (r : Rs) : List (Nat × V) := ts.map fun t => (t, (pcE r).get (tp t))
/-- A stage that comes to what another run of it comes to. -/
theorem JQ.stageX {P : Program} (hP : P.follows .mixedOrders = true) {dr : List Nat} {N lim n m : Nat} {F : FF} (hF : FOK P F) (hM : F.mono) {q qb : IC} (ps : List IC) {K : Rs → Prop} {e : Tr} {h : Hp} (ts : List Nat) (r0 : Rs) (hq : q = seqs ps qb)
    (hk : obs m ts (runP F lim m ps (.nor e h n)) = obs m ts r0) (h0 : pcN m r0 = true) (hl : ((lstO ts r0).all fun x => decide (x.1 < 4294967296)) = true) (hm : m < big)
    (j : JQ P dr N F qb lim K (mkE (lstO ts r0)) (pcH r0) m) : JQ P dr N F q lim K e h n := by
  subst hq
  unfold obs at hk
  simp only [Prod.mk.injEq] at hk
  obtain ⟨h1, h2, h3⟩ := hk
  rw [h0] at h1
  obtain ⟨n1, h4, h5⟩ := pcN_ok h1
  refine JQ.pieces hP hF hM hm h5 (JQ.later h5 (JQ.weak (mkE_le hl ?_) (by rw [h3]; exact HpLe.refl _) j)) ps h4
  unfold lstO
  rw [List.map_map, List.map_map, List.map_map]
  exact h2
/-- A stage that comes to slots and memory that are told. -/
theorem JQ.stageY {P : Program} (hP : P.follows .mixedOrders = true) {dr : List Nat} {N lim n m : Nat} {F : FF} (hF : FOK P F) (hM : F.mono) {q qb : IC} (ps : List IC) {K : Rs → Prop} {e : Tr} {h : Hp} (l : List (Nat × V)) (hh : Hp) (hq : q = seqs ps qb)
    (hk : obs m (l.map Prod.fst) (runP F lim m ps (.nor e h n)) = (true, l.map Prod.snd, hh)) (hl : (l.all fun x => decide (x.1 < 4294967296)) = true) (hm : m < big)
    (j : JQ P dr N F qb lim K (mkE l) hh m) : JQ P dr N F q lim K e h n := by
  subst hq
  unfold obs at hk
  simp only [Prod.mk.injEq] at hk
  obtain ⟨h1, h2, h3⟩ := hk
  obtain ⟨n1, h4, h5⟩ := pcN_ok h1
  exact JQ.pieces hP hF hM hm h5 (JQ.later h5 (JQ.weak (mkE_le hl h2) (by rw [h3]; exact HpLe.refl _) j)) ps h4
/-- A run's end: a plain value is handed back. -/
noncomputable def finXB (x : V) (res : List RV) (e : Tr) (h : Hp) (n : Nat) : Bool := and (evRVs e h res).known (and (eqV (evRes e h res) x) (Nat.blt n 9223372036854775808))
noncomputable def finX (x : V) (res : List RV) (r : Rs) : Bool := Rs.rec false (fun e h n => finXB x res e h n) (fun _ _ _ _ => false) (fun e h n => finXB x res e h n) r
theorem finXB_ok {x : V} {res : List RV} {e : Tr} {h : Hp} {n : Nat} (hf : finXB x res e h n = true) : n < big ∧ (evRVs e h res).known = true ∧ evRes e h res = x := by
  unfold finXB at hf
  simp only [Bool.and_eq_true, Nat.blt_eq] at hf
  exact ⟨hf.2.2, hf.1, eqV_eq _ _ hf.2.1⟩
theorem JQ.finX {P : Program} (hP : P.follows .mixedOrders = true) {dr : List Nat} {N lim n nb : Nat} {F : FF} (hF : FOK P F) (hM : F.mono) {res : List RV} {q : IC} {e : Tr} {h : Hp} {x : V} (hx : x.pur = true) (hk : finX x res ((kC q nK).f F lim e h n) = true) : JQ P dr N F q lim (Kend res (Good nb (.v x))) e h n := by
  refine JQ.run hP hF hM ?_
  rw [kC_eq, onC_nK] at hk
  revert hk
  generalize evC q F lim e h n = r
  intro hk
  cases r with
  | no => cases hk
  | ext => cases hk
  | nor e h' n => have := finXB_ok hk; exact ⟨this.1, this.2.1, this.2.2, hx⟩
  | ret e h' n => have := finXB_ok hk; exact ⟨this.1, this.2.1, this.2.2, hx⟩
/-- Some answers by a contract, all others as before. -/
def ovF (f : Nat) (s : L → Nat → Hp → Nat → Res) (F : FF) : FF := fun g args lim h n => if g = f then (match s args lim h n with | .ok v h' n' => .ok v h' n' | .no => F g args lim h n) else F g args lim h n
theorem ovF_ok {P : Program} {f : Nat} {s : L → Nat → Hp → Nat → Res} {F : FF} (hs : SOK P f s) (hF : FOK P F) (hne : YID ≠ f := by decide) : FOK P (ovF f s F) := by
  refine ⟨fun g args lim h n v h' n' hr => ?_, fun p args lim h n v h' n' hr => ?_⟩
  · unfold ovF at hr
    split at hr
    · rename_i e
      subst e
      split at hr
      · rename_i v1 h1 n1 he
        cases hr
        exact hs _ _ _ _ _ _ _ he
      · exact hF.1 _ _ _ _ _ _ _ _ hr
    · exact hF.1 _ _ _ _ _ _ _ _ hr
  · unfold ovF at hr
    rw [if_neg hne] at hr
    exact hF.2 _ _ _ _ _ _ _ _ hr
theorem ovF_mono {f : Nat} {s : L → Nat → Hp → Nat → Res} {F : FF} (hs : SMo s) (hF : F.mono) : (ovF f s F).mono := fun g args lim h n => by
  unfold ovF
  split
  · have := hs args lim h n
    cases he : s args lim h n with
    | no => exact hF _ _ _ _ _
    | ok v h' n' => rw [he] at this; exact this
  · exact hF _ _ _ _ _
/-- Some blocks with their places. -/
noncomputable def hpL : List (Nat × Blk) → Hp
  | [] => .lf
  | x :: l => (hpL l).put (some x.2) (tp x.1)
theorem hpL_le {h : Hp} : ∀ {l : List (Nat × Blk)}, (l.map fun x => h.get (tp x.1)) = (l.map fun x => some x.2) → HpLe (hpL l) h
  | [], _ => HpLe.lf h
  | x :: l, e => by
    simp only [List.map_cons, List.cons.injEq] at e
    exact HpLe.put ⟨x.2, e.1, BlkLe.refl _⟩ (hpL_le e.2)
noncomputable def obsZ (m : Nat) (ts ks : List Nat) (r : Rs) : Bool × List V × List (Option Blk) := (pcN m r, ts.map (fun t => (pcE r).get (tp t)), ks.map fun k => (pcH r).get (tp k))
noncomputable def isZ (l : List (Nat × V)) (bl : List (Nat × Blk)) : Bool × List V × List (Option Blk) := (true, l.map Prod.snd, bl.map fun x => some x.2)
/-- A stage of which some slots and some blocks are kept. -/
theorem JQ.stageZ {P : Program} (hP : P.follows .mixedOrders = true) {dr : List Nat} {N lim n m : Nat} {F : FF} (hF : FOK P F) (hM : F.mono) {q qb : IC} (ps : List IC) {K : Rs → Prop} {e : Tr} {h : Hp} (l : List (Nat × V)) (bl : List (Nat × Blk)) (hq : q = seqs ps qb)
    (hk : obsZ m (l.map Prod.fst) (bl.map Prod.fst) (runP F lim m ps (.nor e h n)) = isZ l bl) (hl : (l.all fun x => decide (x.1 < 4294967296)) = true) (hm : m < big)
    (j : JQ P dr N F qb lim K (mkE l) (hpL bl) m) : JQ P dr N F q lim K e h n := by
  subst hq
  unfold obsZ isZ at hk
  simp only [Prod.mk.injEq] at hk
  obtain ⟨h1, h2, h3⟩ := hk
  obtain ⟨n1, h4, h5⟩ := pcN_ok h1
  rw [List.map_map] at h3
  exact JQ.pieces hP hF hM hm h5 (JQ.later h5 (JQ.weak (mkE_le hl h2) (hpL_le h3) j)) ps h4
noncomputable def FnI.q (x : FnI) : IC := FnI.rec (motive := fun _ => IC) (fun _ _ q _ => q) x
noncomputable def FnI.r (x : FnI) : List RV := FnI.rec (motive := fun _ => List RV) (fun _ _ _ r => r) x
end Go.Proofs.YtagjnlnnecidnaaDoor.Ev
/- Comparison of numbers, as contracts. -/
namespace Go.Proofs.YtagjnlnnecidnaaDoor.Ev
set_option linter.unusedVariables false
set_option linter.unusedSimpArgs false
set_option maxRecDepth 100000
open Go Go.Proofs Go.RowKit
attribute [local go_sem] evC_seq evC_reg evC_cond evC_block evC_skip evC_exit evC_ret evR_cons evR_nil evR_gd guardB_tt guardB_ff guardB_tf guardB_ft guardB_none bindR_ok bindR_okn rgRs_ok seqR_nor seqR_ext seqR_ret condR_true condR_false blockR_nor blockR_ext blockR_ret evX_t evX_c evXL_nil evXL_cons O_mv O_bin O_pick O_eqb O_not O_ext O_call O_conv O_slen O_six O_sbi pv_I pv_i pv_b pv_s pv_ns pv_sl pv_p pv_tu pv_ag bin_lss bin_leq bin_gtr bin_geq bin_eql bin_neq bin8_eql bin8_neq bin_add bin_sub bin_mul get_st get_lf bind_nil bind_cons if_true if_false Got_nor Got_ext Got_ret Kseq Kblk Klp Kend onStr_s onB_b onT_tu onI_I onN_I onK_I eqb_b not_b nthL_0 nthL_1 nthL_2 known_nil known_cons I_known known_b known_s evRVs_nil evRVs_cons evRes_1 evRes_2 evRV_tmp Bool.and_true Bool.true_and Bool.and_self Bool.not_true Bool.not_false decide_true decide_false Int.toNat_natCast true_and and_true big hget_same hget_ne newB_n onP_p onS_sl onS_ns O_fad O_alloc_if O_ixs O_len O_ld O_st O_box boxB_if ldB_if ldB_agif stB_if stB_wif toL_I toL_i toL_b toL_s toL_sl toL_ns toL_ag allC_nil allC_cons isC_i isC_b isC_s isC_sl isC_ns I_isC Llen_nil Llen_cons Lget_0 Lget_1 Lget_2 Lget_3 blkL_size cell_blkL_if getL_blkL_if getL_setL_if setL_sz evRV_cell' rvB_agif rvB_if evPL_cons bldK_if evPL_nil O_build O_part evBuild_ok okL_some onA_ag partV_1 evPart_eq updS_nil updS_cons upd_0 upd_1 upd_2 upd_3 ge_iff_le if_pos and_self Nat.le_refl known_ag known_sl known_ns known_i ov_at spS_eq spSI_eq spSII_eq spI_eq spII_eq spIII_eq spIIII_eq res_v res_sl res_slE Good I_pur pur_b pur_s pur_i pur_ns pur_ag pur_tu purL_nil purL_cons evDr_eq evDs_nil evDs_cons dsR_ok stepD_eq sdB_n sdB_g sdG_tt sdG_ff sdG_tf sdG_ft sdG_none runD_0 rdR_f rdR_t baseOf_pu baseOf_h baseU_nil baseA_nil baseA_0 baseR_nil baseR_0 baseR_00 appAll_nil appAll_0 restr_nil restr_cons setD_some setD_none evC_draw iL_len iL_get iL_allC iL_pur hp0_0 hp0_c rdL_ns rdL_sl List.length_cons List.length_nil O_mks mkB_if O_bsl bslB_if O_app apX_ns apX_sl apN_some apS_some blkL_el Nat.one_mul Nat.mul_one Nat.zero_add n_I onF_fn O_callv app_nil app_cons spLF_eq spL_eq spLL_eq onL_some onLL_ss onLL_ns onLL_sn onLL_nn rdB_blk Int.cast_ofNat_Int tlX_none tlX_some tlOf_cons tlOf_1 tlOf_1t tlM_none tlM_some
noncomputable def q62 : IC := (.seq (.reg (.cons (some (tp 2)) none (.mv (.c (.b false))) .nil)) (.seq (.reg (.cons (some (tp 3)) none (.mv (.t (tp 0))) (.cons (some (tp 4)) none (.mv (.t (tp 0))) (.cons (some 
  (tp 5)) none (.bin .neq (.t (tp 3)) (.t (tp 4))) (.cons (some (tp 2)) none (.mv (.t (tp 5))) .nil))))) .ret))
noncomputable def res62 : List RV := [(.tmp (tp 2))]
noncomputable def c62c : Code := match Tryd.f62.body with | some c => c | none => .skip
theorem b62 : Tryd.f62.body = some c62c := by kernel_rfl
theorem k62 : compC Tryd.prog drops Tryd.f62.ntmps c62c = some q62 := by kernel_rfl
theorem r62 : compRVs Tryd.prog Tryd.f62.results.toList = some res62 := by kernel_rfl
theorem n62 : (Tryd.f62.name == "runtime.NumGoroutine") = false := by kernel_rfl
noncomputable def q40 : IC := (.seq (.reg (.cons (some (tp 4)) none (.mv (.c (I 0))) .nil)) (.seq (.reg (.cons (some (tp 7)) none (.mv (.t (tp 0))) (.cons (some (tp 8)) none (.call 62 (.cons (.t (tp 7)) .nil)) 
  (.cons (some (tp 5)) none (.mv (.t (tp 8))) .nil)))) (.seq (.reg (.cons (some (tp 9)) none (.mv (.t (tp 1))) (.cons (some (tp 10)) none (.call 62 (.cons (.t (tp 9)) .nil)) (.cons 
  (some (tp 6)) none (.mv (.t (tp 10))) .nil)))) (.seq (.seq (.reg (.cons (some (tp 11)) none (.mv (.t (tp 5))) .nil)) (.cond (.t (tp 11)) (.seq (.seq (.reg (.cons (some (tp 12)) 
  none (.mv (.t (tp 6))) .nil)) (.cond (.t (tp 12)) (.seq (.reg (.cons (some (tp 4)) none (.mv (.c (I 0))) .nil)) .ret) .skip)) (.seq (.reg (.cons (some (tp 4)) none (.mv (.c (I 
  (-1)))) .nil)) .ret)) .skip)) (.seq (.seq (.reg (.cons (some (tp 13)) none (.mv (.t (tp 6))) .nil)) (.cond (.t (tp 13)) (.seq (.reg (.cons (some (tp 4)) none (.mv (.c (I 1))) 
  .nil)) .ret) .skip)) (.seq (.seq (.reg (.cons (some (tp 14)) none (.mv (.t (tp 0))) (.cons (some (tp 15)) none (.mv (.t (tp 1))) (.cons (some (tp 16)) none (.bin .lss (.t (tp 
  14)) (.t (tp 15))) .nil)))) (.cond (.t (tp 16)) (.seq (.reg (.cons (some (tp 4)) none (.mv (.c (I (-1)))) .nil)) .ret) .skip)) (.seq (.seq (.reg (.cons (some (tp 17)) none (.mv 
  (.t (tp 0))) (.cons (some (tp 18)) none (.mv (.t (tp 1))) (.cons (some (tp 19)) none (.bin .gtr (.t (tp 17)) (.t (tp 18))) .nil)))) (.cond (.t (tp 19)) (.seq (.reg (.cons (some 
  (tp 4)) none (.mv (.c (I 1))) .nil)) .ret) .skip)) (.seq (.reg (.cons (some (tp 4)) none (.mv (.c (I 0))) .nil)) .ret))))))))
noncomputable def res40 : List RV := [(.tmp (tp 4))]
noncomputable def c40c : Code := match Tryd.f40.body with | some c => c | none => .skip
theorem b40 : Tryd.f40.body = some c40c := by kernel_rfl
theorem k40 : compC Tryd.prog drops Tryd.f40.ntmps c40c = some q40 := by kernel_rfl
theorem r40 : compRVs Tryd.prog Tryd.f40.results.toList = some res40 := by kernel_rfl
theorem n40 : (Tryd.f40.name == "runtime.NumGoroutine") = false := by kernel_rfl
theorem run62 (z : Int) : JQ Tryd.prog drops Tryd.f62.ntmps F0 q62 256 (Kend res62 (Good 0 (.v (.b false)))) (bind (.cons (I z) .nil) 0 .lf) .lf 256 := by
  have hF := F0_ok Tryd.prog
  have hM := F0_mono
  unfold q62
  (refine JQ.run follows hF hM ?_; simp (config := { maxSteps := 4000000 }) (disch := (omega)) only [go_sem, Nat.reduceLT, Nat.reduceEqDiff, reduceIte, Nat.reduceAdd, Nat.reduceSub, Nat.reduceLeDiff, Int.reduceEq, Int.reduceLT, Int.reduceLE, Int.reduceNeg, Int.reduceAdd, Int.reduceSub, Int.reduceToNat, Int.reduceMul, Nat.reduceMul, res62])
noncomputable def f62 (z : Int) : Out := .v (.b false)
theorem ok62 : SOK Tryd.prog 62 (spI f62) := spI_ok fun z lim h n v h' n' hr => outC Tryd.func62 n62 b62 k62 r62 (Ins.none h) (by simp [L.length]) (ren_nil_rel (by simp only [purL_cons, purL_nil, I_pur, Bool.and_self])) (f62 z) rfl (run62 z) lim n hr
theorem f62_res (z : Int) (h : Hp) (n : Nat) : (f62 z).res h n = .ok (.b false) h n := rfl
noncomputable def F40 : FF := ov 62 (spI f62) F0
theorem F40_ok : FOK Tryd.prog F40 := ov_ok ok62 (F0_ok _)
theorem F40_mono : F40.mono := ov_mono (spI_mo _) F0_mono
def cmpI (x y : Int) : Int := if x < y then -1 else if y < x then 1 else 0
theorem cmpI_lt {x y : Int} (h : x < y) : cmpI x y = -1 := if_pos h
theorem cmpI_gt {x y : Int} (h : y < x) : cmpI x y = 1 := by unfold cmpI; rw [if_neg (by omega), if_pos h]
theorem cmpI_eq {x y : Int} (h1 : ¬ x < y) (h2 : ¬ y < x) : cmpI x y = 0 := by unfold cmpI; rw [if_neg h1, if_neg h2]
theorem run40 (x y : Int) : JQ Tryd.prog drops Tryd.f40.ntmps F40 q40 256 (Kend res40 (Good 0 (.v (I (cmpI x y))))) (bind (.cons (I x) (.cons (I y) .nil)) 0 .lf) .lf 256 := by
  have hF := F40_ok
  have hM := F40_mono
  unfold q40
  by_cases h1 : x < y
  · (refine JQ.run follows hF hM ?_; simp (config := { maxSteps := 4000000 }) (disch := (omega)) only [go_sem, Nat.reduceLT, Nat.reduceEqDiff, reduceIte, Nat.reduceAdd, Nat.reduceSub, Nat.reduceLeDiff, Int.reduceEq, Int.reduceLT, Int.reduceLE, Int.reduceNeg, Int.reduceAdd, Int.reduceSub, Int.reduceToNat, Int.reduceMul, Nat.reduceMul, F40, f62_res, h1, cmpI_lt h1, res40])
  · by_cases h2 : y < x
    · (refine JQ.run follows hF hM ?_; simp (config := { maxSteps := 4000000 }) (disch := (omega)) only [go_sem, Nat.reduceLT, Nat.reduceEqDiff, reduceIte, Nat.reduceAdd, Nat.reduceSub, Nat.reduceLeDiff, Int.reduceEq, Int.reduceLT, Int.reduceLE, Int.reduceNeg, Int.reduceAdd, Int.reduceSub, Int.reduceToNat, Int.reduceMul, Nat.reduceMul, F40, f62_res, h1, h2, cmpI_gt h2, res40])
    · (refine JQ.run follows hF hM ?_; simp (config := { maxSteps := 4000000 }) (disch := (omega)) only [go_sem, Nat.reduceLT, Nat.reduceEqDiff, reduceIte, Nat.reduceAdd, Nat.reduceSub, Nat.reduceLeDiff, Int.reduceEq, Int.reduceLT, Int.reduceLE, Int.reduceNeg, Int.reduceAdd, Int.reduceSub, Int.reduceToNat, Int.reduceMul, Nat.reduceMul, F40, f62_res, h1, h2, cmpI_eq h1 h2, res40])
noncomputable def f40 (x y : Int) : Out := .v (I (cmpI x y))
theorem ok40 : SOK Tryd.prog 40 (spII f40) := spII_ok fun x y lim h n v h' n' hr => outC Tryd.func40 n40 b40 k40 r40 (Ins.none h) (by simp [L.length]) (ren_nil_rel (by simp only [purL_cons, purL_nil, I_pur, Bool.and_self])) (f40 x y) (I_pur _) (run40 x y) lim n hr
noncomputable def WN40 (G : FF) : FF := ovF 40 (spII f40) G
theorem WN40_mono (G : FF) (h : G.mono) : (WN40 G).mono := ovF_mono (spII_mo _) h
theorem WN40_ok (G : FF) (h : FOK Tryd.prog G) : FOK Tryd.prog (WN40 G) := ovF_ok ok40 h
noncomputable def EN40 (d : Nat) : FF := EQ WN40 d
theorem EN40_ok (d : Nat) : FOK Tryd.prog (EN40 d) := EQ_ok WN40_mono WN40_ok d
theorem EN40_mono (d : Nat) : (EN40 d).mono := EQ_mono WN40_mono d
end Go.Proofs.YtagjnlnnecidnaaDoor.Ev
/- One answer for one list of plain arguments, evaluated once and then told. -/
namespace Go.Proofs.YtagjnlnnecidnaaDoor.Ev
set_option linter.unusedVariables false
open Go Go.Proofs Go.RowKit
noncomputable def spE (a : L) (x : V) (args : L) (_ : Nat) (h : Hp) (n : Nat) : Res := Bool.rec .no (.ok x h n) (eqL args a)
theorem spE_mo (a : L) (x : V) : SMo (spE a x) := fun args lim h n => by
  unfold spE
  cases eqL args a with
  | false => trivial
  | true => exact Nat.le_refl n
noncomputable def isX (x : V) (r : Res) : Bool := Res.rec false (fun v _ n => and (eqV v x) (Nat.blt n 9223372036854775808)) r
theorem isX_ok {x : V} {r : Res} (h : isX x r = true) : ∃ h' n', r = .ok x h' n' ∧ n' < 9223372036854775808 := by
  cases r with
  | no => cases h
  | ok v h' n' =>
    have h : and (eqV v x) (Nat.blt n' 9223372036854775808) = true := h
    simp only [Bool.and_eq_true, Nat.blt_eq] at h
    exact ⟨h', n', by rw [eqV_eq _ _ h.1], h.2⟩
theorem spE_ok {P : Program} {F : FF} (hF : FOK P F) {f : Nat} {a : L} {x : V} (hk : isX x (F f a 256 .lf 256) = true) (hpa : a.pur = true) (hpx : x.pur = true) : SOK P f (spE a x) := fun args lim h n v h' n' hr => by
  unfold spE at hr
  cases he : eqL args a with
  | false => rw [he] at hr; cases hr
  | true =>
    rw [he] at hr
    cases hr
    rw [eqL_eq _ _ he]
    obtain ⟨h1, n1, e1, e2⟩ := isX_ok hk
    exact callsAny rfl (hF.1 f a 256 .lf 256 x h1 n1 e1) e2 hpa hpx lim _ _
end Go.Proofs.YtagjnlnnecidnaaDoor.Ev
/- A function's answer at one input, evaluated in its own numbering beside tables and blocks, and then told in any memory that holds them. -/
namespace Go.Proofs.YtagjnlnnecidnaaDoor.Ev
set_option linter.unusedVariables false
open Go Go.Proofs Go.RowKit

/-- Tables, laid over a memory: the number of the variable, its element type, its cells. -/
noncomputable def tabP : List (Nat × TypeId × L) → Hp → Hp
  | [], H => H
  | (k, el, l) :: r, H => (tabP r H).put (some (blkL el l)) (tp k)
theorem tabP_get : ∀ (ts : List (Nat × TypeId × L)) (H : Hp) (p : Pos) (b : Blk), (tabP ts H).get p = some b → (∃ k el l, (k, el, l) ∈ ts ∧ p = tp k ∧ b = blkL el l) ∨ H.get p = some b
  | [], H, p, b, h => .inr h
  | (k, el, l) :: r, H, p, b, h => by
    have h : ((tabP r H).put (some (blkL el l)) (tp k)).get p = some b := h
    rw [Hp.get_put] at h
    split at h
    · rename_i e; cases h; exact .inl ⟨k, el, l, List.mem_cons_self .., e, rfl⟩
    · rcases tabP_get r H p b h with ⟨k', el', l', h1, h2, h3⟩ | h1
      · exact .inl ⟨k', el', l', List.mem_cons_of_mem _ h1, h2, h3⟩
      · exact .inr h1
theorem L.pur_get {l : L} : ∀ k, l.pur = true → (l.get k).pur = true := by
  induction l using L.rec (motive_1 := fun _ => True) with
  | nil => intro k _; rfl
  | cons v l _ ih =>
    intro k hk
    simp [L.pur] at hk
    cases k with
    | zero => exact hk.1
    | succ k => exact ih k hk.2
  | _ => trivial

/-- The memory holds the tables, and the blocks of the arguments lie elsewhere. -/
structure TabsIn (ts : List (Nat × TypeId × L)) (h : Hp) : Prop where
  at' : ∀ k el l, (k, el, l) ∈ ts → k < 255 ∧ l.pur = true ∧ ∃ b, h.get (tp k) = some b ∧ el = b.el ∧ l.length ≤ b.size ∧ ∀ j, j < l.length → b.cell j = l.get j

section
variable {P : Program} {ps : List (Pos × Nat)} {bs : List Blk} {h : Hp} {ts : List (Nat × TypeId × L)}
theorem TabsIn.mem (T : TabsIn ts h) (I : Ins ps bs h) (hs : ∀ (j : Nat) (q : Pos × Nat), ps[j]? = some q → 256 ≤ q.1.num) {g : Sig} {w : World} (m : Mem g h.get w) : Mem (ren ps g) (tabP ts (hp0 bs 255)).get w := by
  have mI := I.mem m
  have tn : ∀ k, k < 255 → (tp k).num = k + 1 := fun k hk => tp_num (by omega)
  have rt : ∀ k, k < 255 → ren ps g (tp k) = g (tp k) := fun k hk => by unfold ren; rw [tn k hk, if_pos (by omega)]
  have hlen := I.len; have hfew := I.few
  have other : ∀ q bq r b1 t1, (hp0 bs 255).get q = some bq → ren ps g q = some (r, b1, t1) → ∃ (j : Nat) (pq : Pos × Nat) (b : Blk) (x y : Nat), ps[j]? = some pq ∧ h.get pq.1 = some b ∧ g pq.1 = some (r, x, y) := fun q bq r b1 t1 hq e => by
    obtain ⟨i, h1, rfl, h3⟩ := hp0_get bs 255 (by omega) q bq hq
    have hi : ps[i]? = some ps[i] := List.getElem?_eq_getElem (by omega)
    rw [ren_at (by omega) hi, Option.map_eq_some_iff] at e
    obtain ⟨⟨r1, y1, z1⟩, e, e'⟩ := e
    cases e'
    obtain ⟨x, hx, _⟩ := I.le i _ bq hi h3
    exact ⟨i, _, x, y1, z1, hi, hx, e⟩
  have cross : ∀ k el l q bq r b1 t1 b2 t2, (k, el, l) ∈ ts → (hp0 bs 255).get q = some bq → ren ps g (tp k) = some (r, b1, t1) → ren ps g q = some (r, b2, t2) → False := fun k el l q bq r b1 t1 b2 t2 hm hq e1 e2 => by
    obtain ⟨hk, _, b, hb, _⟩ := T.at' k el l hm
    obtain ⟨j, pq, b', x, y, hj, hb', e3⟩ := other q bq r b2 t2 hq e2
    rw [rt k hk] at e1
    have := m.inj _ _ _ _ _ _ _ _ _ hb hb' e1 e3
    have h1 := hs j pq hj
    rw [← this, tn k hk] at h1
    omega
  refine ⟨fun p q bp bq r b1 t1 b2 t2 hp hq e1 e2 => ?_, fun p b0 hp => ?_⟩
  · rcases tabP_get ts _ p bp hp with ⟨k, el, l, hm, rfl, rfl⟩ | hp
    · rcases tabP_get ts _ q bq hq with ⟨k', el', l', hm', rfl, rfl⟩ | hq
      · obtain ⟨hk, _, b, hb, _⟩ := T.at' k el l hm
        obtain ⟨hk', _, b', hb', _⟩ := T.at' k' el' l' hm'
        rw [rt k hk] at e1
        rw [rt k' hk'] at e2
        exact m.inj _ _ _ _ _ _ _ _ _ hb hb' e1 e2
      · exact (cross k el l q bq r b1 t1 b2 t2 hm hq e1 e2).elim
    · rcases tabP_get ts _ q bq hq with ⟨k', el', l', hm', rfl, rfl⟩ | hq
      · exact (cross k' el' l' p bp r b2 t2 b1 t1 hm' hp e2 e1).elim
      · exact mI.inj p q bp bq r b1 t1 b2 t2 hp hq e1 e2
  · rcases tabP_get ts _ p b0 hp with ⟨k, el, l, hm, rfl, rfl⟩ | hp
    · obtain ⟨hk, hpur, b, hb, hel, hle, hc⟩ := T.at' k el l hm
      obtain ⟨r, base, tot, cur, c1, c2, c3, c4, c5, c6⟩ := m.blk _ b hb
      refine ⟨r, base, tot, cur, (rt k hk).trans c1, c2.cut (off := 0) (b0 := blkL el l) hel (by rw [blkL_size]; omega) c4 rfl, c3, by rw [blkL_size]; omega, by rw [blkL_size]; omega, fun j hj => ?_⟩
      rw [blkL_size] at hj
      obtain ⟨v, d1, d2, d3⟩ := c6 j (by omega)
      refine ⟨v, d1, d2, ?_⟩
      rw [hc j hj] at d3
      rw [blkL_cell _ _ _ hj]
      exact V.pur_rel (L.pur_get j hpur) d3
    · exact mI.blk p b0 hp
theorem TabsIn.dom (T : TabsIn ts h) (I : Ins ps bs h) : Dom (tabP ts (hp0 bs 255)).get (256 + ps.length) := fun p b hp => by
  rcases tabP_get ts _ p b hp with ⟨k, el, l, hm, rfl, rfl⟩ | hp
  · have := (T.at' k el l hm).1
    rw [tp_num (by omega)]; omega
  · exact I.dom p b hp

theorem callsH {f : Nat} {args args0 : L} {H0 : Hp} {v : V} {h' : Hp} {n' k : Nat} (hk : k = 256 + ps.length) (IM : ∀ (g : Sig) (w : World), Mem g h.get w → Mem (ren ps g) H0.get w) (ID : Dom H0.get (256 + ps.length))
    (harg : ∀ g vs, args.rel g vs → args0.rel (ren ps g) vs) (hc : CallsOK P f args0 k H0 k v h' n') (hn : n' < 9223372036854775808) (hpv : v.pur = true) (lim n : Nat) : CallsOK P f args lim h n v h n := by
  subst hk
  intro vs g w ha hgk m hd hf _
  obtain ⟨hx, hy⟩ := hc vs (ren ps g) w (harg g vs ha) (ren_gok hgk) (IM g w m) ID ((ren_fresh ps g).to _) hn
  refine ⟨hx, hy.mono ?_⟩
  rintro e w' ⟨u, g', rfl, hv, _, f⟩
  have keep : ∀ r, r < w.heap.size → w'.heap[r]? = w.heap[r]? := fun r hr => f.keep r hr fun p b base tot hp hl => by
    have := ID p b hp; omega
  refine ⟨u, g, rfl, V.pur_rel hpv hv, ⟨m.inj, fun p b hp => ?_⟩, ?_⟩
  · obtain ⟨r, base, tot, cur, c1, c2, c3, c4, c5, c6⟩ := m.blk p b hp
    exact ⟨r, base, tot, cur, c1, c2.keep (keep r (m.lt hp c1)), c3, c4, c5, c6⟩
  · exact { le := Nat.le_refl _, os := f.os, tape := f.tape, output := f.output, size := f.size, keep := fun r hr _ => keep r hr, sig := fun _ _ => rfl,
            dom := fun p b e => ⟨fun _ => ⟨b, e⟩, hd p b e⟩, new := fun _ _ _ _ a b => by omega }
end

/-- A table is where it should be. -/
noncomputable def isTab (h : Hp) (k : Nat) (l : L) : Bool := Option.rec false (fun b => and (Nat.ble l.length b.size) (eqL (b.getL 0 l.length) l)) (h.get (tp k))
theorem isTab_ok {h : Hp} {k : Nat} {l : L} (ht : isTab h k l = true) : ∃ b, h.get (tp k) = some b ∧ l.length ≤ b.size ∧ ∀ j, j < l.length → b.cell j = l.get j := by
  unfold isTab at ht
  cases hb : h.get (tp k) with
  | none => rw [hb] at ht; cases ht
  | some b =>
    rw [hb] at ht
    have ht : and (Nat.ble l.length b.size) (eqL (b.getL 0 l.length) l) = true := ht
    rw [Bool.and_eq_true, Nat.ble_eq] at ht
    refine ⟨b, rfl, ht.1, fun j hj => ?_⟩
    have e := eqL_eq _ _ ht.2
    have := getL_get b l.length 0 j hj
    rw [e, Nat.zero_add] at this
    exact this.symm
end Go.Proofs.YtagjnlnnecidnaaDoor.Ev
/- Tables of rows of numbers out of a row's condition, and two tables at once. -/
namespace Go.Proofs.YtagjnlnnecidnaaDoor.Ev
set_option linter.unusedVariables false
open Go Go.RowKit

/-- A table of rows as a row lists it. -/
def tab2Data {H : Type} (k : IntKind) (zss : List (List Int)) : DataW H := .agg (zss.map fun zs => Lib.tabData k zs)
theorem flat_of {α : Type} : ∀ (zss : List (List α)) (cs : List α) (m : Nat), cs.length = zss.length * m → (∀ i zs, zss[i]? = some zs → (cs.drop (i * m)).take m = zs) → cs = zss.flatten
  | [], cs, m, h, _ => by simp at h; simp [h]
  | z :: r, cs, m, h, hi => by
    have h0 := hi 0 z rfl
    simp at h0
    have hl : (cs.drop m).length = r.length * m := by
      simp only [List.length_cons] at h
      rw [List.length_drop, h, Nat.add_mul, Nat.one_mul, Nat.add_sub_cancel]
    have hr := flat_of r (cs.drop m) m hl fun i zs hz => by
      have := hi (i + 1) zs (by simpa using hz)
      rw [List.drop_drop]
      rw [Nat.add_mul, Nat.one_mul, Nat.add_comm] at this
      exact this
    show cs = z ++ r.flatten
    rw [← hr, ← h0, List.take_append_drop]

theorem cells_of_tab2 {H : Type} {enc : TypeId × Value → H} {P : Program} {w : World} {base : Nat} {sp : Nat → Bool} {held : Bool} {fuel : Nat} {t e e2 : TypeId} {n m : Nat} {k : IntKind} {cs : List Value} {zss : List (List Int)} {p : List MemPlace}
    (ht : P.underlying t = some (.array n e)) (he : P.underlying e = some (.array m e2)) (he2 : P.underlying e2 = some (.int k)) (hc2 : P.cellsOf e2 = 1) (hce : P.cellsOf e = m) (hct : P.cellsOf t = n * m)
    (h : DataW.trod enc P w base sp held fuel t cs = some (tab2Data k zss, p)) : cs = zss.flatten.map fun z => Value.int k z := by
  cases fuel with
  | zero => simp [DataW.trod] at h
  | succ fuel =>
    simp only [DataW.trod, ht, hce, hct] at h
    split at h
    · rename_i hl
      obtain ⟨xs, hm, hx⟩ := Option.map_eq_some_iff.1 h
      have hxs : xs.map (·.1) = zss.map fun zs => (Lib.tabData k zs : DataW H) := by
        have := congrArg Prod.fst hx
        simpa [tab2Data] using this
      have hxl : xs.length = n := by simpa using Lib.mapM_length hm
      have hzl : zss.length = n := by
        have := congrArg List.length hxs
        simp at this
        omega
      have hflat := flat_of (zss.map fun zs => zs.map fun z => Value.int k z) cs m (by simp [hzl, hl]) fun i zs hz => by
        simp only [List.getElem?_map, Option.map_eq_some_iff] at hz
        obtain ⟨zs0, hz0, rfl⟩ := hz
        have hi : i < n := by
          have := (List.getElem?_eq_some_iff.1 hz0).1
          omega
        obtain ⟨b, hb, hf⟩ := Lib.mapM_at hm i i (by simp [hi])
        have h2 : (xs.map (·.1))[i]? = some (Lib.tabData k zs0 : DataW H) := by rw [hxs]; simp [hz0]
        simp only [List.getElem?_map, hb, Option.map_some, Option.some.injEq] at h2
        obtain ⟨b1, b2⟩ := b
        dsimp only at h2
        subst h2
        exact Lib.cells_of_tab he he2 hc2 hce hf
      rw [hflat, List.map_flatten]
    · cases h

/-- A listed variable's block, whatever its cells are. -/
theorem laid_any {P : Program} {w : World} {name : String} {d : DataW Unit} {g : Nat} {t : TypeId} {vs : List Value}
    (hg : P.globalNamed name = some g) (hty : (P.globals[g]?).map (·.type) = some t) (hz : 0 < vs.length)
    (hd : ∀ fuel cs p, DataW.trod (fun _ => ()) P w 0 (fun _ => true) false fuel t cs = some (d, p) → cs = vs) :
    ∀ (l : List (String × DataW Unit)) (ps : List MemPlace), DataW.LaidVars P w l ps → (∀ b off, MemPlace.cell b off ∈ ps → ∃ c u, w.heap[b]? = some (.cells c u (0, 0))) → (name, d) ∈ l →
    ∃ el, w.heap[g]? = some (.cells (⟨vs⟩ : Array Value) el (0, 0))
  | [], _, _, _, hm => by cases hm
  | (n', d') :: r, ps, h, hf, hm => by
    obtain ⟨g', t', cs, fuel, p, q, h1, h2, h3, h4, h5, rfl⟩ := h
    rcases List.mem_cons.1 hm with e0 | e0
    · cases e0
      obtain rfl := Option.some.inj (hg.symm.trans h1)
      obtain rfl := Option.some.inj (hty.symm.trans h2)
      have hcs := hd _ _ _ h4
      have hsz : 0 < cs.size := by rw [← Array.length_toList, hcs]; exact hz
      obtain ⟨c, u, hcu⟩ := hf g 0 (by
        refine List.mem_append_left _ (List.mem_append_left _ ?_)
        unfold MemPlace.row
        exact List.mem_map.2 ⟨0, List.mem_range.2 hsz, rfl⟩)
      refine ⟨u, ?_⟩
      have hv := h3
      simp only [World.var?, hg, Option.bind_some, hcu, Option.some.injEq] at hv
      rw [hcu, ← hcs, hv]
    · exact laid_any hg hty hz hd r q h5 (fun b off hb => hf b off (List.mem_append_right _ hb)) e0

theorem holds_tab2 {P : Program} {w : World} {laid : List (String × DataW Unit)} (hp : (laid.all fun x => x.2.handleName?.isNone) = true) (h : laidMetH P laid w) {name : String} {k : IntKind} {zss : List (List Int)} {g : Nat} {t e e2 : TypeId} {n m : Nat}
    (hg : P.globalNamed name = some g) (hty : (P.globals[g]?).map (·.type) = some t) (ht : P.underlying t = some (.array n e)) (he : P.underlying e = some (.array m e2)) (he2 : P.underlying e2 = some (.int k)) (hc2 : P.cellsOf e2 = 1) (hce : P.cellsOf e = m) (hct : P.cellsOf t = n * m)
    (hz : 0 < zss.flatten.length) (hm : (name, tab2Data k zss) ∈ laid) (hgk : g < gK) (hmax : zss.flatten.length ≤ maxSize) : ∃ el, Holds w [(g, el, kL k zss.flatten)] := by
  rw [MakeChecks.laidMetH_plain _ _ _ hp] at h
  obtain ⟨ps, h1, _, h3⟩ := h
  obtain ⟨el, h4⟩ := laid_any (vs := zss.flatten.map fun z => Value.int k z) hg hty (by rw [List.length_map]; exact hz) (fun fuel cs p hd => cells_of_tab2 ht he he2 hc2 hce hct hd) laid ps h1 (fun b off hb => (h3 b off hb).1) hm
  exact ⟨el, ⟨hgk, kL_allC k _, by rw [kL_length]; exact hmax, _, h4, fun g' => kL_rel g' k _⟩, trivial⟩
theorem Holds.app {w : World} : ∀ {l m : List (Nat × TypeId × L)}, Holds w l → Holds w m → Holds w (l ++ m)
  | [], m, _, h => h
  | x :: l, m, ⟨a, b⟩, h => ⟨a, Holds.app b h⟩
end Go.Proofs.YtagjnlnnecidnaaDoor.Ev
/- Where the points of the grid lie of two pieces: told, one by one. -/
namespace Go.Proofs.YtagjnlnnecidnaaDoor.Ev
set_option linter.unusedVariables false
set_option maxRecDepth 100000
open Go Go.Proofs Go.RowKit
def zsQ : List Int := [2, 3, 3, 2, 0, 0, 1, 1, 0]
def zsS : List Int := [0, 1, 2, -1]
noncomputable def tb2 (e1 e2 : TypeId) : Hp := tabH [(1, e1, kL .i64 zsQ), (0, e2, kL .i64 zsS)]
noncomputable def tsP (e1 e2 : TypeId) : List (Nat × TypeId × L) := [(1, e1, kL .i64 zsQ), (0, e2, kL .i64 zsS)]
def zsL : List Int := [0, 0, 4, 0, 4, 2, 2, 2, 2, 4, 0, 4]
def anL : List Nat := [1, 1, 1, 1, 1, 0, 0, 0, 0, 0, 0, 0, 0, 1, 2, 2, 2, 1, 0, 0, 0, 0, 0, 0, 0, 0, 1, 2, 1, 1, 1, 0, 0, 0, 0, 0, 0, 0, 0, 1, 2, 1, 0, 0, 0, 0, 0, 0, 0, 0, 0, 0, 1, 1, 1, 0, 0, 0, 0, 0, 0, 0, 0, 0, 0, 0, 0, 0, 0, 0, 0, 0, 0, 0, 0, 0, 0, 0, 0, 0, 0, 0, 0, 0, 0, 0, 0, 0, 0, 0, 0, 0, 0, 0, 0, 0, 0, 0, 0, 0, 0, 0, 0, 0, 0, 0, 0, 0, 0, 0, 0, 0, 0, 0, 0, 0, 0, 0, 0, 0, 0, 0, 0, 0, 0, 0, 0, 0, 0, 0, 0, 0, 0, 0, 0, 0, 0, 0, 0, 0, 0, 0, 0, 0, 0, 0, 0, 0, 0, 0, 0, 0, 0, 0, 0, 0, 0, 0, 0, 0, 0, 0, 0, 0, 0, 0, 0, 0, 0]
def zsT : List Int := [0, 0, 3, 1, 2, 1]
def anT : List Nat := [1, 0, 0, 0, 0, 0, 0, 0, 0, 0, 0, 0, 0, 0, 0, 0, 0, 0, 0, 0, 0, 0, 0, 0, 0, 0, 0, 1, 0, 0, 0, 0, 0, 0, 0, 0, 0, 0, 0, 0, 1, 0, 0, 0, 0, 0, 0, 0, 0, 0, 0, 0, 0, 0, 0, 0, 0, 0, 0, 0, 0, 0, 0, 0, 0, 0, 0, 0, 0, 0, 0, 0, 0, 0, 0, 0, 0, 0, 0, 0, 0, 0, 0, 0, 0, 0, 0, 0, 0, 0, 0, 0, 0, 0, 0, 0, 0, 0, 0, 0, 0, 0, 0, 0, 0, 0, 0, 0, 0, 0, 0, 0, 0, 0, 0, 0, 0, 0, 0, 0, 0, 0, 0, 0, 0, 0, 0, 0, 0, 0, 0, 0, 0, 0, 0, 0, 0, 0, 0, 0, 0, 0, 0, 0, 0, 0, 0, 0, 0, 0, 0, 0, 0, 0, 0, 0, 0, 0, 0, 0, 0, 0, 0, 0, 0, 0, 0, 0, 0]
noncomputable def HW (zs : List Int) (el e1 e2 : TypeId) : Hp := tabP (tsP e1 e2) (hp0 [blkL el (iL zs)] 255)
noncomputable def whB (zs : List Int) (an : List Nat) (len x : Nat) (el e1 e2 : TypeId) (cap : Option Nat) : Bool := (List.range 13).all fun y => isX (.n (an.getD (13 * x + y) 0)) (EN40 40 21 (.cons (.sl (tp 255) 0 2 len cap) (.cons (.ag (.cons (.n x) (.cons (.n y) .nil))) .nil)) 257 (HW zs el e1 e2) 257)
end Go.Proofs.YtagjnlnnecidnaaDoor.Ev
/- Where the points of the grid lie of two pieces: evaluated. -/
namespace Go.Proofs.YtagjnlnnecidnaaDoor.Ev
set_option linter.unusedVariables false
set_option maxRecDepth 100000
open Go Go.Proofs Go.RowKit
theorem whL_0 : (fun el e1 e2 cap => whB zsL anL 6 0 el e1 e2 cap) = fun _ _ _ _ => true := by kernel_rfl
theorem whL_1 : (fun el e1 e2 cap => whB zsL anL 6 1 el e1 e2 cap) = fun _ _ _ _ => true := by kernel_rfl
theorem whL_2 : (fun el e1 e2 cap => whB zsL anL 6 2 el e1 e2 cap) = fun _ _ _ _ => true := by kernel_rfl
theorem whL_3 : (fun el e1 e2 cap => whB zsL anL 6 3 el e1 e2 cap) = fun _ _ _ _ => true := by kernel_rfl
theorem whL_4 : (fun el e1 e2 cap => whB zsL anL 6 4 el e1 e2 cap) = fun _ _ _ _ => true := by kernel_rfl
theorem whL_5 : (fun el e1 e2 cap => whB zsL anL 6 5 el e1 e2 cap) = fun _ _ _ _ => true := by kernel_rfl
theorem whL_6 : (fun el e1 e2 cap => whB zsL anL 6 6 el e1 e2 cap) = fun _ _ _ _ => true := by kernel_rfl
end Go.Proofs.YtagjnlnnecidnaaDoor.Ev
/- Where the points of the grid lie of two pieces: evaluated. -/
namespace Go.Proofs.YtagjnlnnecidnaaDoor.Ev
set_option linter.unusedVariables false
set_option maxRecDepth 100000
open Go Go.Proofs Go.RowKit
theorem whL_7 : (fun el e1 e2 cap => whB zsL anL 6 7 el e1 e2 cap) = fun _ _ _ _ => true := by kernel_rfl
theorem whL_8 : (fun el e1 e2 cap => whB zsL anL 6 8 el e1 e2 cap) = fun _ _ _ _ => true := by kernel_rfl
theorem whL_9 : (fun el e1 e2 cap => whB zsL anL 6 9 el e1 e2 cap) = fun _ _ _ _ => true := by kernel_rfl
theorem whL_10 : (fun el e1 e2 cap => whB zsL anL 6 10 el e1 e2 cap) = fun _ _ _ _ => true := by kernel_rfl
theorem whL_11 : (fun el e1 e2 cap => whB zsL anL 6 11 el e1 e2 cap) = fun _ _ _ _ => true := by kernel_rfl
theorem whL_12 : (fun el e1 e2 cap => whB zsL anL 6 12 el e1 e2 cap) = fun _ _ _ _ => true := by kernel_rfl
end Go.Proofs.YtagjnlnnecidnaaDoor.Ev
/- Where the points of the grid lie of two pieces: evaluated. -/
namespace Go.Proofs.YtagjnlnnecidnaaDoor.Ev
set_option linter.unusedVariables false
set_option maxRecDepth 100000
open Go Go.Proofs Go.RowKit
theorem whT_0 : (fun el e1 e2 cap => whB zsT anT 3 0 el e1 e2 cap) = fun _ _ _ _ => true := by kernel_rfl
theorem whT_1 : (fun el e1 e2 cap => whB zsT anT 3 1 el e1 e2 cap) = fun _ _ _ _ => true := by kernel_rfl
theorem whT_2 : (fun el e1 e2 cap => whB zsT anT 3 2 el e1 e2 cap) = fun _ _ _ _ => true := by kernel_rfl
theorem whT_3 : (fun el e1 e2 cap => whB zsT anT 3 3 el e1 e2 cap) = fun _ _ _ _ => true := by kernel_rfl
theorem whT_4 : (fun el e1 e2 cap => whB zsT anT 3 4 el e1 e2 cap) = fun _ _ _ _ => true := by kernel_rfl
theorem whT_5 : (fun el e1 e2 cap => whB zsT anT 3 5 el e1 e2 cap) = fun _ _ _ _ => true := by kernel_rfl
theorem whT_6 : (fun el e1 e2 cap => whB zsT anT 3 6 el e1 e2 cap) = fun _ _ _ _ => true := by kernel_rfl
theorem whT_7 : (fun el e1 e2 cap => whB zsT anT 3 7 el e1 e2 cap) = fun _ _ _ _ => true := by kernel_rfl
theorem whT_8 : (fun el e1 e2 cap => whB zsT anT 3 8 el e1 e2 cap) = fun _ _ _ _ => true := by kernel_rfl
theorem whT_9 : (fun el e1 e2 cap => whB zsT anT 3 9 el e1 e2 cap) = fun _ _ _ _ => true := by kernel_rfl
theorem whT_10 : (fun el e1 e2 cap => whB zsT anT 3 10 el e1 e2 cap) = fun _ _ _ _ => true := by kernel_rfl
theorem whT_11 : (fun el e1 e2 cap => whB zsT anT 3 11 el e1 e2 cap) = fun _ _ _ _ => true := by kernel_rfl
theorem whT_12 : (fun el e1 e2 cap => whB zsT anT 3 12 el e1 e2 cap) = fun _ _ _ _ => true := by kernel_rfl
end Go.Proofs.YtagjnlnnecidnaaDoor.Ev
/- Where the points of the grid lie of two pieces, as a contract; the examples of chapter 13, evaluated. -/
namespace Go.Proofs.YtagjnlnnecidnaaDoor.Ev
set_option linter.unusedVariables false
set_option maxRecDepth 100000
open Go Go.Proofs Go.RowKit
theorem wh_at {zs : List Int} {an : List Nat} {len x : Nat} (h : (fun el e1 e2 cap => whB zs an len x el e1 e2 cap) = fun _ _ _ _ => true) (el e1 e2 : TypeId) (cap : Option Nat) (y : Nat) (hy : y < 13) :
    isX (.n (an.getD (13 * x + y) 0)) (EN40 40 21 (.cons (.sl (tp 255) 0 2 len cap) (.cons (.ag (.cons (.n x) (.cons (.n y) .nil))) .nil)) 257 (HW zs el e1 e2) 257) = true := by
  have h1 : whB zs an len x el e1 e2 cap = true := congrFun (congrFun (congrFun (congrFun h el) e1) e2) cap
  exact List.all_eq_true.1 h1 y (List.mem_range.2 hy)
theorem whL_all (el e1 e2 : TypeId) (cap : Option Nat) (x y : Nat) (hx : x < 13) (hy : y < 13) :
    isX (.n (anL.getD (13 * x + y) 0)) (EN40 40 21 (.cons (.sl (tp 255) 0 2 6 cap) (.cons (.ag (.cons (.n x) (.cons (.n y) .nil))) .nil)) 257 (HW zsL el e1 e2) 257) = true := by
  rcases (show x = 0 ∨ x = 1 ∨ x = 2 ∨ x = 3 ∨ x = 4 ∨ x = 5 ∨ x = 6 ∨ x = 7 ∨ x = 8 ∨ x = 9 ∨ x = 10 ∨ x = 11 ∨ x = 12 by omega) with rfl | rfl | rfl | rfl | rfl | rfl | rfl | rfl | rfl | rfl | rfl | rfl | rfl
  · exact wh_at whL_0 el e1 e2 cap y hy
  · exact wh_at whL_1 el e1 e2 cap y hy
  · exact wh_at whL_2 el e1 e2 cap y hy
  · exact wh_at whL_3 el e1 e2 cap y hy
  · exact wh_at whL_4 el e1 e2 cap y hy
  · exact wh_at whL_5 el e1 e2 cap y hy
  · exact wh_at whL_6 el e1 e2 cap y hy
  · exact wh_at whL_7 el e1 e2 cap y hy
  · exact wh_at whL_8 el e1 e2 cap y hy
  · exact wh_at whL_9 el e1 e2 cap y hy
  · exact wh_at whL_10 el e1 e2 cap y hy
  · exact wh_at whL_11 el e1 e2 cap y hy
  · exact wh_at whL_12 el e1 e2 cap y hy
theorem whT_all (el e1 e2 : TypeId) (cap : Option Nat) (x y : Nat) (hx : x < 13) (hy : y < 13) :
    isX (.n (anT.getD (13 * x + y) 0)) (EN40 40 21 (.cons (.sl (tp 255) 0 2 3 cap) (.cons (.ag (.cons (.n x) (.cons (.n y) .nil))) .nil)) 257 (HW zsT el e1 e2) 257) = true := by
  rcases (show x = 0 ∨ x = 1 ∨ x = 2 ∨ x = 3 ∨ x = 4 ∨ x = 5 ∨ x = 6 ∨ x = 7 ∨ x = 8 ∨ x = 9 ∨ x = 10 ∨ x = 11 ∨ x = 12 by omega) with rfl | rfl | rfl | rfl | rfl | rfl | rfl | rfl | rfl | rfl | rfl | rfl | rfl
  · exact wh_at whT_0 el e1 e2 cap y hy
  · exact wh_at whT_1 el e1 e2 cap y hy
  · exact wh_at whT_2 el e1 e2 cap y hy
  · exact wh_at whT_3 el e1 e2 cap y hy
  · exact wh_at whT_4 el e1 e2 cap y hy
  · exact wh_at whT_5 el e1 e2 cap y hy
  · exact wh_at whT_6 el e1 e2 cap y hy
  · exact wh_at whT_7 el e1 e2 cap y hy
  · exact wh_at whT_8 el e1 e2 cap y hy
  · exact wh_at whT_9 el e1 e2 cap y hy
  · exact wh_at whT_10 el e1 e2 cap y hy
  · exact wh_at whT_11 el e1 e2 cap y hy
  · exact wh_at whT_12 el e1 e2 cap y hy
/-- The piece's answers, if it is one of both. -/
def anOf (xs : List Int) : Option (List Nat) := if xs = zsL then some anL else if xs = zsT then some anT else none
noncomputable def whC (h : Hp) (p : Pos) (x y : Nat) : Bool := and (isTab h 1 (kL .i64 zsQ)) (and (isTab h 0 (kL .i64 zsS)) (and (Nat.ble 256 p.num) (and (Nat.blt x 13) (Nat.blt y 13))))
noncomputable def sWh (args : L) (_ : Nat) (h : Hp) (n : Nat) : Res := match args with
  | .cons (.sl p off 2 len cap) (.cons (.ag (.cons (.n x) (.cons (.n y) .nil))) .nil) => (match rdB (h.get p) off (2 * len) with
    | some xs => (match anOf xs with
      | some an => Bool.rec .no (.ok (.n (an.getD (13 * x + y) 0)) h n) (whC h p x y)
      | none => .no)
    | none => .no)
  | _ => .no
theorem sWh_mo : SMo sWh := fun args lim h n => by
  unfold sWh
  split
  · split
    · split
      · exact ge_bool ge_no ge_ok
      · trivial
    · trivial
  · trivial
theorem kQ_pur : (kL .i64 zsQ).pur = true := by kernel_rfl
theorem kS_pur : (kL .i64 zsS).pur = true := by kernel_rfl
theorem okWh : SOK Tryd.prog 21 sWh := fun args lim h n v h' n' hr => by
  unfold sWh at hr
  split at hr
  · rename_i p off len cap x y
    split at hr
    · rename_i xs hxs
      split at hr
      · rename_i an han
        cases hc : whC h p x y
        · rw [hc] at hr; cases hr
        rw [hc] at hr
        cases hr
        unfold whC at hc
        simp only [Bool.and_eq_true, Nat.ble_eq, Nat.blt_eq] at hc
        obtain ⟨t1, t0, hp, hx, hy⟩ := hc
        obtain ⟨b1, g1, s1, c1⟩ := isTab_ok t1
        obtain ⟨b0, g0, s0, c0⟩ := isTab_ok t0
        obtain ⟨el, I⟩ := Ins.one hxs
        have T : TabsIn (tsP b1.el b0.el) h := ⟨fun k el l hm => by
          simp only [tsP, List.mem_cons, List.not_mem_nil, or_false, Prod.mk.injEq] at hm
          rcases hm with ⟨rfl, rfl, rfl⟩ | ⟨rfl, rfl, rfl⟩
          · exact ⟨by omega, kQ_pur, b1, g1, rfl, s1, c1⟩
          · exact ⟨by omega, kS_pur, b0, g0, rfl, s0, c0⟩⟩
        have hs : ∀ (j : Nat) (q : Pos × Nat), [(p, off)][j]? = some q → 256 ≤ q.1.num := fun j q hj => by
          cases j with
          | zero => simp at hj; subst hj; exact hp
          | succ j => simp at hj
        have key : isX (.n (an.getD (13 * x + y) 0)) (EN40 40 21 (.cons (.sl (tp 255) 0 2 len cap) (.cons (.ag (.cons (.n x) (.cons (.n y) .nil))) .nil)) 257 (HW xs el b1.el b0.el) 257) = true := by
          unfold anOf at han
          split at han
          · rename_i e
            cases han
            subst e
            have : len = 6 := by have := (win hxs).1; simp [zsL] at this; omega
            subst this
            exact whL_all el b1.el b0.el cap x y hx hy
          · split at han
            · rename_i e
              cases han
              subst e
              have : len = 3 := by have := (win hxs).1; simp [zsT] at this; omega
              subst this
              exact whT_all el b1.el b0.el cap x y hx hy
            · cases han
        obtain ⟨h1, n1, e1, e2⟩ := isX_ok key
        exact callsH (ps := [(p, off)]) (k := 257) rfl (fun g w m => T.mem I hs m) (T.dom I)
          (fun g vs hv => rel_cons (fun u hu => sl_ren (j := 0) (by omega) rfl hu) (fun vs h => L.pur_rel (l := .cons (.ag (.cons (.n x) (.cons (.n y) .nil))) .nil) rfl h) vs hv)
          ((EN40_ok 40).1 21 _ 257 _ 257 _ h1 n1 e1) e2 rfl lim n
      · cases hr
    · cases hr
  · cases hr
noncomputable def WW (G : FF) : FF := ovF 21 sWh (WN40 G)
theorem WW_mono (G : FF) (h : G.mono) : (WW G).mono := ovF_mono sWh_mo (WN40_mono G h)
theorem WW_ok (G : FF) (h : FOK Tryd.prog G) : FOK Tryd.prog (WW G) := ovF_ok okWh (WN40_ok G h)
noncomputable def EW (d : Nat) : FF := EQ WW d
theorem EW_ok (d : Nat) : FOK Tryd.prog (EW d) := EQ_ok WW_mono WW_ok d
theorem EW_mono (d : Nat) : (EW d).mono := EQ_mono WW_mono d
end Go.Proofs.YtagjnlnnecidnaaDoor.Ev
/- Which corners are cuts, and that pieces are right: told. -/
namespace Go.Proofs.YtagjnlnnecidnaaDoor.Ev
set_option linter.unusedVariables false
set_option maxRecDepth 100000
open Go Go.Proofs Go.RowKit
/-- One answer: the points, how many, the other arguments, the answer. -/
structure Ent where
  xs : List Int
  len : Nat
  rest : L
  ans : V
noncomputable def entB (f : Nat) (d : Nat) (e : Ent) (el e1 e2 : TypeId) : Bool := isX e.ans (EW d f (.cons (.sl (tp 255) 0 2 e.len none) e.rest) 257 (HW e.xs el e1 e2) 257)
noncomputable def entP (e : Ent) : Bool := and (Nat.beq e.xs.length (2 * e.len)) (and e.rest.pur (and e.ans.pur (Nat.blt e.rest.length 100)))
noncomputable def findE : List Ent → List Int → L → Option V
  | [], _, _ => none
  | e :: r, xs, l => if e.xs = xs then Bool.rec (findE r xs l) (some e.ans) (eqL l e.rest) else findE r xs l
theorem findE_ok : ∀ {tb : List Ent} {xs : List Int} {l : L} {v : V}, findE tb xs l = some v → ∃ e, e ∈ tb ∧ e.xs = xs ∧ e.rest = l ∧ e.ans = v
  | [], _, _, _, h => by cases h
  | e :: r, xs, l, v, h => by
    unfold findE at h
    have go : findE r xs l = some v → ∃ e', e' ∈ e :: r ∧ e'.xs = xs ∧ e'.rest = l ∧ e'.ans = v := fun h => by
      obtain ⟨e', h1, h2⟩ := findE_ok h
      exact ⟨e', List.mem_cons_of_mem _ h1, h2⟩
    split at h
    · rename_i hx
      cases he : eqL l e.rest
      · rw [he] at h; exact go h
      · rw [he] at h
        exact ⟨e, List.mem_cons_self .., hx, (eqL_eq _ _ he).symm, Option.some.inj h⟩
    · exact go h
noncomputable def taC (h : Hp) (p : Pos) : Bool := and (isTab h 1 (kL .i64 zsQ)) (and (isTab h 0 (kL .i64 zsS)) (Nat.ble 256 p.num))
noncomputable def spTd (tb : List Ent) (args : L) (_ : Nat) (h : Hp) (n : Nat) : Res := match args with
  | .cons (.sl p off 2 len none) rest => (match rdB (h.get p) off (2 * len) with
    | some xs => (match findE tb xs rest with
      | some v => Bool.rec .no (.ok v h n) (taC h p)
      | none => .no)
    | none => .no)
  | _ => .no
theorem spTd_mo (tb : List Ent) : SMo (spTd tb) := fun args lim h n => by
  unfold spTd
  split
  · split
    · split
      · exact ge_bool ge_no ge_ok
      · trivial
    · trivial
  · trivial
theorem spTd_ok {f d : Nat} {tb : List Ent} (hk : ∀ e ∈ tb, ∀ el e1 e2, entB f d e el e1 e2 = true) (hp : tb.all entP = true) : SOK Tryd.prog f (spTd tb) := fun args lim h n v h' n' hr => by
  unfold spTd at hr
  split at hr
  · rename_i p off len rest
    split at hr
    · rename_i xs hxs
      split at hr
      · rename_i v0 han
        cases hc : taC h p
        · rw [hc] at hr; cases hr
        rw [hc] at hr
        cases hr
        obtain ⟨e, hm, rfl, rfl, rfl⟩ := findE_ok han
        have he := List.all_eq_true.1 hp e hm
        unfold entP at he
        simp only [Bool.and_eq_true, Nat.beq_eq, Nat.blt_eq] at he
        obtain ⟨q1, q2, q3, q4⟩ := he
        unfold taC at hc
        simp only [Bool.and_eq_true, Nat.ble_eq] at hc
        obtain ⟨t1, t0, hpn⟩ := hc
        obtain ⟨b1, g1, s1, c1⟩ := isTab_ok t1
        obtain ⟨b0, g0, s0, c0⟩ := isTab_ok t0
        obtain ⟨el, I⟩ := Ins.one hxs
        have T : TabsIn (tsP b1.el b0.el) h := ⟨fun k el l hm => by
          simp only [tsP, List.mem_cons, List.not_mem_nil, or_false, Prod.mk.injEq] at hm
          rcases hm with ⟨rfl, rfl, rfl⟩ | ⟨rfl, rfl, rfl⟩
          · exact ⟨by omega, kQ_pur, b1, g1, rfl, s1, c1⟩
          · exact ⟨by omega, kS_pur, b0, g0, rfl, s0, c0⟩⟩
        have hs : ∀ (j : Nat) (q : Pos × Nat), [(p, off)][j]? = some q → 256 ≤ q.1.num := fun j q hj => by
          cases j with
          | zero => simp at hj; subst hj; exact hpn
          | succ j => simp at hj
        have hlen : e.len = len := by have := (win hxs).1; omega
        subst hlen
        obtain ⟨h1, n1, e1, e2⟩ := isX_ok (hk e hm el b1.el b0.el)
        exact callsH (ps := [(p, off)]) (k := 257) rfl (fun g w m => T.mem I hs m) (T.dom I)
          (fun g vs hv => rel_cons (fun u hu => sl_ren (j := 0) (by omega) rfl hu) (fun vs h => L.pur_rel q2 h) vs hv)
          ((EW_ok d).1 f _ 257 _ 257 _ h1 n1 e1) e2 q3 lim n
      · cases hr
    · cases hr
  · cases hr
noncomputable def ec0 : Ent := ⟨[0, 0, 4, 0, 4, 2, 2, 2, 2, 4, 0, 4], 6, .cons (.n 0) (.cons (.n 1) .nil), .b false⟩
noncomputable def ec1 : Ent := ⟨[0, 0, 4, 0, 4, 2, 2, 2, 2, 4, 0, 4], 6, .cons (.n 0) (.cons (.n 2) .nil), .b true⟩
noncomputable def ec2 : Ent := ⟨[0, 0, 4, 0, 4, 2, 2, 2, 2, 4, 0, 4], 6, .cons (.n 0) (.cons (.n 3) .nil), .b true⟩
noncomputable def ec3 : Ent := ⟨[0, 0, 4, 0, 4, 2, 2, 2, 2, 4, 0, 4], 6, .cons (.n 0) (.cons (.n 4) .nil), .b true⟩
noncomputable def ec4 : Ent := ⟨[0, 0, 4, 0, 4, 2, 2, 2, 2, 4, 0, 4], 6, .cons (.n 0) (.cons (.n 5) .nil), .b false⟩
noncomputable def ec5 : Ent := ⟨[0, 0, 4, 0, 4, 2, 2, 2, 2, 4, 0, 4], 6, .cons (.n 1) (.cons (.n 2) .nil), .b false⟩
noncomputable def ec6 : Ent := ⟨[0, 0, 4, 0, 4, 2, 2, 2, 2, 4, 0, 4], 6, .cons (.n 1) (.cons (.n 3) .nil), .b true⟩
noncomputable def ec7 : Ent := ⟨[0, 0, 4, 0, 4, 2, 2, 2, 2, 4, 0, 4], 6, .cons (.n 1) (.cons (.n 4) .nil), .b false⟩
noncomputable def ec8 : Ent := ⟨[0, 0, 4, 0, 4, 2, 2, 2, 2, 4, 0, 4], 6, .cons (.n 1) (.cons (.n 5) .nil), .b false⟩
noncomputable def ec9 : Ent := ⟨[0, 0, 4, 0, 4, 2, 2, 2, 2, 4, 0, 4], 6, .cons (.n 2) (.cons (.n 3) .nil), .b false⟩
noncomputable def ec10 : Ent := ⟨[0, 0, 4, 0, 4, 2, 2, 2, 2, 4, 0, 4], 6, .cons (.n 2) (.cons (.n 4) .nil), .b false⟩
noncomputable def ec11 : Ent := ⟨[0, 0, 4, 0, 4, 2, 2, 2, 2, 4, 0, 4], 6, .cons (.n 2) (.cons (.n 5) .nil), .b false⟩
noncomputable def ec12 : Ent := ⟨[0, 0, 4, 0, 4, 2, 2, 2, 2, 4, 0, 4], 6, .cons (.n 3) (.cons (.n 4) .nil), .b false⟩
noncomputable def ec13 : Ent := ⟨[0, 0, 4, 0, 4, 2, 2, 2, 2, 4, 0, 4], 6, .cons (.n 3) (.cons (.n 5) .nil), .b true⟩
noncomputable def ec14 : Ent := ⟨[0, 0, 4, 0, 4, 2, 2, 2, 2, 4, 0, 4], 6, .cons (.n 4) (.cons (.n 5) .nil), .b false⟩
noncomputable def ec15 : Ent := ⟨[0, 0, 4, 0, 4, 2, 2, 2, 2, 4, 0, 4], 6, .cons (.n 5) (.cons (.n 1) .nil), .b false⟩
noncomputable def ec16 : Ent := ⟨[0, 0, 4, 0, 4, 2, 2, 2, 2, 4, 0, 4], 6, .cons (.n 4) (.cons (.n 0) .nil), .b true⟩
noncomputable def ec17 : Ent := ⟨[0, 0, 4, 2, 2, 2, 2, 4, 0, 4], 5, .cons (.n 4) (.cons (.n 1) .nil), .b false⟩
noncomputable def ec18 : Ent := ⟨[0, 0, 4, 2, 2, 2, 2, 4, 0, 4], 5, .cons (.n 0) (.cons (.n 2) .nil), .b true⟩
noncomputable def ec19 : Ent := ⟨[0, 0, 4, 2, 2, 2, 2, 4, 0, 4], 5, .cons (.n 1) (.cons (.n 3) .nil), .b false⟩
noncomputable def ec20 : Ent := ⟨[0, 0, 4, 2, 2, 2, 2, 4, 0, 4], 5, .cons (.n 2) (.cons (.n 4) .nil), .b true⟩
noncomputable def ec21 : Ent := ⟨[0, 0, 4, 2, 2, 2, 2, 4, 0, 4], 5, .cons (.n 3) (.cons (.n 0) .nil), .b true⟩
noncomputable def ec22 : Ent := ⟨[0, 0, 2, 2, 2, 4, 0, 4], 4, .cons (.n 3) (.cons (.n 1) .nil), .b true⟩
noncomputable def ec23 : Ent := ⟨[0, 0, 2, 2, 2, 4, 0, 4], 4, .cons (.n 0) (.cons (.n 2) .nil), .b true⟩
noncomputable def ec24 : Ent := ⟨[0, 0, 2, 2, 2, 4, 0, 4], 4, .cons (.n 1) (.cons (.n 3) .nil), .b true⟩
noncomputable def ec25 : Ent := ⟨[0, 0, 2, 2, 2, 4, 0, 4], 4, .cons (.n 2) (.cons (.n 0) .nil), .b true⟩
noncomputable def tbCut : List Ent := [ec0, ec1, ec2, ec3, ec4, ec5, ec6, ec7, ec8, ec9, ec10, ec11, ec12, ec13, ec14, ec15, ec16, ec17, ec18, ec19, ec20, ec21, ec22, ec23, ec24, ec25]
noncomputable def ek0 : Ent := ⟨[0, 0, 4, 0, 4, 2, 2, 2, 2, 4, 0, 4], 6, .nil, .n 0⟩
noncomputable def ek1 : Ent := ⟨[0, 0, 2, 0, 2, 2, 0, 2], 4, .nil, .n 0⟩
noncomputable def ek2 : Ent := ⟨[0, 0, 3, 1, 2, 1], 3, .nil, .n 0⟩
noncomputable def tbChk : List Ent := [ek0, ek1, ek2]
end Go.Proofs.YtagjnlnnecidnaaDoor.Ev
/- Which corners are cuts, and that pieces are right: evaluated. -/
namespace Go.Proofs.YtagjnlnnecidnaaDoor.Ev
set_option linter.unusedVariables false
set_option maxRecDepth 100000
open Go Go.Proofs Go.RowKit
theorem vec0 : (fun el e1 e2 => entB 24 60 ec0 el e1 e2) = fun _ _ _ => true := by kernel_rfl
theorem vec4 : (fun el e1 e2 => entB 24 60 ec4 el e1 e2) = fun _ _ _ => true := by kernel_rfl
theorem vec8 : (fun el e1 e2 => entB 24 60 ec8 el e1 e2) = fun _ _ _ => true := by kernel_rfl
theorem vec12 : (fun el e1 e2 => entB 24 60 ec12 el e1 e2) = fun _ _ _ => true := by kernel_rfl
theorem vec16 : (fun el e1 e2 => entB 24 60 ec16 el e1 e2) = fun _ _ _ => true := by kernel_rfl
theorem vec20 : (fun el e1 e2 => entB 24 60 ec20 el e1 e2) = fun _ _ _ => true := by kernel_rfl
theorem vec24 : (fun el e1 e2 => entB 24 60 ec24 el e1 e2) = fun _ _ _ => true := by kernel_rfl
theorem vek2 : (fun el e1 e2 => entB 17 60 ek2 el e1 e2) = fun _ _ _ => true := by kernel_rfl
end Go.Proofs.YtagjnlnnecidnaaDoor.Ev
/- Which corners are cuts, and that pieces are right: evaluated. -/
namespace Go.Proofs.YtagjnlnnecidnaaDoor.Ev
set_option linter.unusedVariables false
set_option maxRecDepth 100000
open Go Go.Proofs Go.RowKit
theorem vec1 : (fun el e1 e2 => entB 24 60 ec1 el e1 e2) = fun _ _ _ => true := by kernel_rfl
theorem vec5 : (fun el e1 e2 => entB 24 60 ec5 el e1 e2) = fun _ _ _ => true := by kernel_rfl
theorem vec9 : (fun el e1 e2 => entB 24 60 ec9 el e1 e2) = fun _ _ _ => true := by kernel_rfl
theorem vec13 : (fun el e1 e2 => entB 24 60 ec13 el e1 e2) = fun _ _ _ => true := by kernel_rfl
theorem vec17 : (fun el e1 e2 => entB 24 60 ec17 el e1 e2) = fun _ _ _ => true := by kernel_rfl
theorem vec21 : (fun el e1 e2 => entB 24 60 ec21 el e1 e2) = fun _ _ _ => true := by kernel_rfl
theorem vec25 : (fun el e1 e2 => entB 24 60 ec25 el e1 e2) = fun _ _ _ => true := by kernel_rfl
end Go.Proofs.YtagjnlnnecidnaaDoor.Ev
/- Which corners are cuts, and that pieces are right: evaluated. -/
namespace Go.Proofs.YtagjnlnnecidnaaDoor.Ev
set_option linter.unusedVariables false
set_option maxRecDepth 100000
open Go Go.Proofs Go.RowKit
theorem vec2 : (fun el e1 e2 => entB 24 60 ec2 el e1 e2) = fun _ _ _ => true := by kernel_rfl
theorem vec6 : (fun el e1 e2 => entB 24 60 ec6 el e1 e2) = fun _ _ _ => true := by kernel_rfl
theorem vec10 : (fun el e1 e2 => entB 24 60 ec10 el e1 e2) = fun _ _ _ => true := by kernel_rfl
theorem vec14 : (fun el e1 e2 => entB 24 60 ec14 el e1 e2) = fun _ _ _ => true := by kernel_rfl
theorem vec18 : (fun el e1 e2 => entB 24 60 ec18 el e1 e2) = fun _ _ _ => true := by kernel_rfl
theorem vec22 : (fun el e1 e2 => entB 24 60 ec22 el e1 e2) = fun _ _ _ => true := by kernel_rfl
theorem vek0 : (fun el e1 e2 => entB 17 60 ek0 el e1 e2) = fun _ _ _ => true := by kernel_rfl
end Go.Proofs.YtagjnlnnecidnaaDoor.Ev
/- Which corners are cuts, and that pieces are right: evaluated. -/
namespace Go.Proofs.YtagjnlnnecidnaaDoor.Ev
set_option linter.unusedVariables false
set_option maxRecDepth 100000
open Go Go.Proofs Go.RowKit
theorem vec3 : (fun el e1 e2 => entB 24 60 ec3 el e1 e2) = fun _ _ _ => true := by kernel_rfl
theorem vec7 : (fun el e1 e2 => entB 24 60 ec7 el e1 e2) = fun _ _ _ => true := by kernel_rfl
theorem vec11 : (fun el e1 e2 => entB 24 60 ec11 el e1 e2) = fun _ _ _ => true := by kernel_rfl
theorem vec15 : (fun el e1 e2 => entB 24 60 ec15 el e1 e2) = fun _ _ _ => true := by kernel_rfl
theorem vec19 : (fun el e1 e2 => entB 24 60 ec19 el e1 e2) = fun _ _ _ => true := by kernel_rfl
theorem vec23 : (fun el e1 e2 => entB 24 60 ec23 el e1 e2) = fun _ _ _ => true := by kernel_rfl
theorem vek1 : (fun el e1 e2 => entB 17 60 ek1 el e1 e2) = fun _ _ _ => true := by kernel_rfl
end Go.Proofs.YtagjnlnnecidnaaDoor.Ev
/- Which corners are cuts, and that pieces are right, as contracts. -/
namespace Go.Proofs.YtagjnlnnecidnaaDoor.Ev
set_option linter.unusedVariables false
set_option maxRecDepth 100000
open Go Go.Proofs Go.RowKit
theorem ent_at {f d : Nat} {e : Ent} (h : (fun el e1 e2 => entB f d e el e1 e2) = fun _ _ _ => true) (el e1 e2 : TypeId) : entB f d e el e1 e2 = true := congrFun (congrFun (congrFun h el) e1) e2
theorem tbCut_all : ∀ e ∈ tbCut, ∀ el e1 e2, entB 24 60 e el e1 e2 = true := fun e he => by
  simp only [tbCut, List.mem_cons, List.not_mem_nil, or_false] at he
  rcases he with rfl | rfl | rfl | rfl | rfl | rfl | rfl | rfl | rfl | rfl | rfl | rfl | rfl | rfl | rfl | rfl | rfl | rfl | rfl | rfl | rfl | rfl | rfl | rfl | rfl | rfl
  · exact ent_at vec0
  · exact ent_at vec1
  · exact ent_at vec2
  · exact ent_at vec3
  · exact ent_at vec4
  · exact ent_at vec5
  · exact ent_at vec6
  · exact ent_at vec7
  · exact ent_at vec8
  · exact ent_at vec9
  · exact ent_at vec10
  · exact ent_at vec11
  · exact ent_at vec12
  · exact ent_at vec13
  · exact ent_at vec14
  · exact ent_at vec15
  · exact ent_at vec16
  · exact ent_at vec17
  · exact ent_at vec18
  · exact ent_at vec19
  · exact ent_at vec20
  · exact ent_at vec21
  · exact ent_at vec22
  · exact ent_at vec23
  · exact ent_at vec24
  · exact ent_at vec25
theorem tbCut_p : tbCut.all entP = true := by kernel_rfl
theorem tbChk_all : ∀ e ∈ tbChk, ∀ el e1 e2, entB 17 60 e el e1 e2 = true := fun e he => by
  simp only [tbChk, List.mem_cons, List.not_mem_nil, or_false] at he
  rcases he with rfl | rfl | rfl
  · exact ent_at vek0
  · exact ent_at vek1
  · exact ent_at vek2
theorem tbChk_p : tbChk.all entP = true := by kernel_rfl
theorem okCut : SOK Tryd.prog 24 (spTd tbCut) := spTd_ok tbCut_all tbCut_p
theorem okChk : SOK Tryd.prog 17 (spTd tbChk) := spTd_ok tbChk_all tbChk_p
noncomputable def WU (G : FF) : FF := ovF 17 (spTd tbChk) (ovF 24 (spTd tbCut) (WW G))
theorem WU_mono (G : FF) (h : G.mono) : (WU G).mono := ovF_mono (spTd_mo _) (ovF_mono (spTd_mo _) (WW_mono G h))
theorem WU_ok (G : FF) (h : FOK Tryd.prog G) : FOK Tryd.prog (WU G) := ovF_ok okChk (ovF_ok okCut (WW_ok G h))
noncomputable def EU (d : Nat) : FF := EQ WU d
theorem EU_ok (d : Nat) : FOK Tryd.prog (EU d) := EQ_ok WU_mono WU_ok d
theorem EU_mono (d : Nat) : (EU d).mono := EQ_mono WU_mono d
end Go.Proofs.YtagjnlnnecidnaaDoor.Ev
/- The examples of chapter 13, evaluated. -/
namespace Go.Proofs.YtagjnlnnecidnaaDoor.Ev
set_option linter.unusedVariables false
set_option maxRecDepth 100000
open Go Go.Proofs Go.RowKit
theorem pworks_eval : (fun e1 e2 => isX (.b true) (EU 60 18 .nil 256 (tabP (tsP e1 e2) (hp0 [] 255)) 256)) = fun _ _ => true := by kernel_rfl
/-- The answer of works(), where the tables stand. -/
noncomputable def sPw (args : L) (_ : Nat) (h : Hp) (n : Nat) : Res := match args with
  | .nil => Bool.rec .no (.ok (.b true) h n) (and (isTab h 1 (kL .i64 zsQ)) (isTab h 0 (kL .i64 zsS)))
  | _ => .no
theorem sPw_mo : SMo sPw := fun args lim h n => by
  unfold sPw
  split
  · exact ge_bool ge_no ge_ok
  · trivial
theorem okPw : SOK Tryd.prog 18 sPw := fun args lim h n v h' n' hr => by
  unfold sPw at hr
  split at hr
  · cases hc : and (isTab h 1 (kL .i64 zsQ)) (isTab h 0 (kL .i64 zsS))
    · rw [hc] at hr; cases hr
    rw [hc] at hr
    cases hr
    simp only [Bool.and_eq_true] at hc
    obtain ⟨b1, g1, s1, c1⟩ := isTab_ok hc.1
    obtain ⟨b0, g0, s0, c0⟩ := isTab_ok hc.2
    have T : TabsIn (tsP b1.el b0.el) h := ⟨fun k el l hm => by
      simp only [tsP, List.mem_cons, List.not_mem_nil, or_false, Prod.mk.injEq] at hm
      rcases hm with ⟨rfl, rfl, rfl⟩ | ⟨rfl, rfl, rfl⟩
      · exact ⟨by omega, kQ_pur, b1, g1, rfl, s1, c1⟩
      · exact ⟨by omega, kS_pur, b0, g0, rfl, s0, c0⟩⟩
    obtain ⟨h1, n1, e1, e2⟩ := isX_ok (congrFun (congrFun pworks_eval b1.el) b0.el)
    exact callsH (ps := []) (k := 256) rfl (fun g w m => T.mem (Ins.none h) (fun j q hj => by simp at hj) m) (T.dom (Ins.none h)) (fun g vs hv => L.pur_rel rfl hv) ((EU_ok 60).1 18 _ 256 _ 256 _ h1 n1 e1) e2 rfl lim n
  · cases hr
noncomputable def WPk (G : FF) : FF := ovF 18 sPw (WU G)
theorem WPk_mono (G : FF) (h : G.mono) : (WPk G).mono := ovF_mono sPw_mo (WU_mono G h)
theorem WPk_ok (G : FF) (h : FOK Tryd.prog G) : FOK Tryd.prog (WPk G) := ovF_ok okPw (WU_ok G h)
noncomputable def EVp (d : Nat) : FF := EQ WPk d
theorem EVp_ok (d : Nat) : FOK Tryd.prog (EVp d) := EQ_ok WPk_mono WPk_ok d
theorem EVp_mono (d : Nat) : (EVp d).mono := EQ_mono WPk_mono d
end Go.Proofs.YtagjnlnnecidnaaDoor.Ev
/- The law of the examples of chapter 13, evaluated. -/
namespace Go.Proofs.YtagjnlnnecidnaaDoor.Ev
set_option linter.unusedVariables false
set_option maxRecDepth 100000
open Go Go.Proofs Go.RowKit
theorem pknown_eval : (fun e1 e2 => okR (EVp 60 3 .nil (gK + 1) (tabH [(1, e1, kL .i64 zsQ), (0, e2, kL .i64 zsS)]) (gK + 1))) = fun _ _ => true := by kernel_rfl
theorem pknown_walk (w : World) (e1 e2 : TypeId) (hw : Holds w [(1, e1, kL .i64 zsQ), (0, e2, kL .i64 zsS)]) : Calls Tryd.prog 3 #[] w fun e w' => e = .returned (.bool true) ∧ Below w.heap.size w w' :=
  ranTBF (EVp_ok 60) _ (congrFun (congrFun pknown_eval e1) e2) (vs := []) (fun _ => rfl) w hw
end Go.Proofs.YtagjnlnnecidnaaDoor.Ev
