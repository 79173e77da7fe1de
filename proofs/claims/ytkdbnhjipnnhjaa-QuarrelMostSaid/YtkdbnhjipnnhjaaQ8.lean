/- The texts EvPc, EvPd, EvGo, TqG, EvPe, EvPf, EvPl, TqW, TqM1, TqA3, TqM2. -/
import Derived.Test.YtkdbnhjipnnhjaaQ6
import Derived.Test.YtkdbnhjipnnhjaaQ7
/- Stages of a law by evaluation alone: a piece is run at each value of an argument; what it leaves is read off its slots. -/
namespace Go.Proofs.Ytkdbnhjipnnhjaa.Ev
set_option linter.unusedVariables false
open Go Go.Proofs Go.RowKit

noncomputable def pcE (r : Rs) : Tr := Rs.rec (motive := fun _ => Tr) .lf (fun e _ _ => e) (fun _ _ _ _ => .lf) (fun _ _ _ => .lf) r
noncomputable def pcH (r : Rs) : Hp := Rs.rec (motive := fun _ => Hp) .lf (fun _ h _ => h) (fun _ _ _ _ => .lf) (fun _ _ _ => .lf) r
/-- The piece goes on to the next, and its places stay below m. -/
noncomputable def pcN (m : Nat) (r : Rs) : Bool := Rs.rec (motive := fun _ => Bool) false (fun _ _ n => Nat.ble n m) (fun _ _ _ _ => false) (fun _ _ _ => false) r
theorem pcN_ok {m : Nat} {r : Rs} (h : pcN m r = true) : ∃ n, r = .nor (pcE r) (pcH r) n ∧ n ≤ m := by
  cases r with
  | nor e h' n => exact ⟨n, rfl, Nat.le_of_ble_eq_true h⟩
  | _ => cases h
/-- Some slots with their values. -/
noncomputable def mkE : List (Nat × V) → Tr
  | [] => .lf
  | x :: l => (mkE l).set x.2 (tp x.1)
/-- What is read behind a piece: that it goes on, the slots ts, the tables' blocks. -/
noncomputable def stg (tabs : List (Nat × TypeId × L)) (m : Nat) (ts : List Nat) (r : Rs) : Bool × List V × List (Option Blk) :=
  (pcN m r, ts.map (fun t => (pcE r).get (tp t)), tabs.map fun x => (pcH r).get (tp x.1))
/-- What it should be. -/
noncomputable def stgIs (tabs : List (Nat × TypeId × L)) (l : List (Nat × V)) : Bool × List V × List (Option Blk) :=
  (true, l.map Prod.snd, tabs.map fun x => (tabH tabs).get (tp x.1))
theorem mkE_le {e : Tr} : ∀ {l : List (Nat × V)}, (l.all fun x => decide (x.1 < 4294967296)) = true → (l.map Prod.fst).map (fun t => e.get (tp t)) = l.map Prod.snd → EnvLe (mkE l) e
  | [], _, _ => EnvLe.lf e
  | (t, v) :: l, hl, h => by
    simp only [List.all_cons, Bool.and_eq_true, decide_eq_true_eq] at hl
    simp only [List.map_cons, List.cons.injEq] at h
    exact EnvLe.set hl.1 h.1 (mkE_le hl.2 h.2)
theorem tabH_mem : ∀ (l : List (Nat × TypeId × L)) (p : Pos) (b : Blk), (tabH l).get p = some b → ∃ x ∈ l, p = tp x.1
  | [], p, b, h => by have := (Hp.get_lf p).symm.trans h; cases this
  | (k, el, z) :: l, p, b, h => by
    have h : ((tabH l).put (some ⟨el, z.length, z.length, z, .lf⟩) (tp k)).get p = some b := h
    rw [Hp.get_put] at h
    split at h
    · rename_i e; exact ⟨_, List.mem_cons_self, e⟩
    · obtain ⟨x, hx, e⟩ := tabH_mem l p b h; exact ⟨x, List.mem_cons_of_mem _ hx, e⟩
theorem tabH_le {tabs : List (Nat × TypeId × L)} {h : Hp} (hh : (tabs.map fun x => h.get (tp x.1)) = tabs.map fun x => (tabH tabs).get (tp x.1)) : HpLe (tabH tabs) h := fun p b hp => by
  obtain ⟨x, hx, rfl⟩ := tabH_mem tabs p b hp
  exact ⟨b, (List.map_inj_left.1 hh x hx).trans hp, BlkLe.refl b⟩
/-- A piece is as good from a later place on. -/
theorem JQ.later {P : Program} {dr : List Nat} {N lim n n2 : Nat} {F : FF} {q : IC} {K : Rs → Prop} {e : Tr} {h : Hp} (hn : n ≤ n2) (j : JQ P dr N F q lim K e h n2) : JQ P dr N F q lim K e h n := fun c hc a g w he m hd hf =>
  wp_mono (j c hc a g w he m (fun p b hp => Nat.lt_of_lt_of_le (hd p b hp) hn) (fun p hp => hf p (Nat.le_trans hn hp))) fun ex a' w' ⟨r, k, t, p⟩ => ⟨r, k, t, by
    have key : ∀ {n' : Nat} {g' : Sig} {h' : Hm} {w' : World}, Fr lim n2 g h.get w n' g' h' w' → Fr lim n g h.get w n' g' h' w' := fun f =>
      { f with
        le := Nat.le_trans hn f.le
        sig := fun p hp => f.sig p (by omega)
        dom := fun p b e => ⟨fun hp => (f.dom p b e).1 (by omega), (f.dom p b e).2⟩
        new := fun p r base tot h1 h2 e => by
          by_cases h3 : n2 ≤ p.num
          · exact f.new p r base tot h3 h2 e
          · rw [f.sig p (.inl (by omega)), hf p h1] at e; cases e }
    cases r with
    | no => exact p
    | nor => obtain ⟨h1, h2, g', h3, h4, h5⟩ := p; exact ⟨h1, h2, g', h3, h4, key h5⟩
    | ext => obtain ⟨h1, h2, g', h3, h4, h5⟩ := p; exact ⟨h1, h2, g', h3, h4, key h5⟩
    | ret => obtain ⟨h1, h2, g', h3, h4, h5⟩ := p; exact ⟨h1, h2, g', h3, h4, key h5⟩⟩
/-- A piece evaluated, all that follows kept. -/
theorem JQ.piece {P : Program} (hP : P.follows .mixedOrders = true) {dr : List Nat} {N lim n : Nat} {F : FF} (hF : FOK P F) (hM : F.mono) {qa qb : IC} {K : Rs → Prop} {e : Tr} {h : Hp} {e1 : Tr} {h1 : Hp} {n1 : Nat} (hk : (kC qa nK).f F lim e h n = .nor e1 h1 n1) (hn : n1 < big)
    (j : JQ P dr N F qb lim K e1 h1 n1) : JQ P dr N F (.seq qa qb) lim K e h n := by
  refine JQ.step hP hF hM ?_
  rw [kC_eq, onC_nK] at hk
  rw [hk]; exact ⟨hn, j⟩
/-- A stage: the piece is evaluated; the slots of l and the tables are all that is kept of it. -/
theorem JQ.stage {P : Program} (hP : P.follows .mixedOrders = true) {dr : List Nat} {N lim n m : Nat} {F : FF} (hF : FOK P F) (hM : F.mono) {qa qb : IC} {K : Rs → Prop} {e : Tr} {h : Hp} {tabs : List (Nat × TypeId × L)} {l : List (Nat × V)}
    (hk : stg tabs m (l.map Prod.fst) ((kC qa nK).f F lim e h n) = stgIs tabs l) (hl : (l.all fun x => decide (x.1 < 4294967296)) = true) (hm : m < big)
    (j : JQ P dr N F qb lim K (mkE l) (tabH tabs) m) : JQ P dr N F (.seq qa qb) lim K e h n := by
  have hk' := hk
  unfold stg stgIs at hk'
  simp only [Prod.mk.injEq] at hk'
  obtain ⟨h1, h2, h3⟩ := hk'
  obtain ⟨n1, h4, h5⟩ := pcN_ok h1
  exact JQ.piece hP hF hM h4 (Nat.lt_of_le_of_lt h5 hm) (JQ.later h5 (JQ.weak (mkE_le hl h2) (tabH_le h3) j))
/-- A chunk of values. -/
theorem chunk {α : Type} {f g : Nat → α} {c k t : Nat} (h : (List.range c).map (fun i => f (k + i)) = (List.range c).map fun i => g (k + i)) (h1 : k ≤ t) (h2 : t < k + c) : f t = g t := by
  have := List.map_inj_left.1 h (t - k) (List.mem_range.2 (by omega))
  have e : k + (t - k) = t := by omega
  rwa [e] at this
theorem chunkB {f : Nat → Bool} {c k t : Nat} (h : (List.range c).all (fun i => f (k + i)) = true) (h1 : k ≤ t) (h2 : t < k + c) : f t = true := by
  have := List.all_eq_true.1 h (t - k) (List.mem_range.2 (by omega))
  have e : k + (t - k) = t := by omega
  rwa [e] at this
/-! Several pieces in a row. -/
noncomputable def seqs (ps : List IC) (q : IC) : IC := ps.foldr .seq q
/-- The first so many pieces of a body, and the rest. -/
noncomputable def IC.pcs (q : IC) (k : Nat) : List IC := Nat.rec (motive := fun _ => IC → List IC) (fun _ => []) (fun _ ih q => match q with | .seq a b => a :: ih b | q => [q]) k q
noncomputable def IC.rst (q : IC) (k : Nat) : IC := Nat.rec (motive := fun _ => IC → IC) (fun q => q) (fun _ ih q => match q with | .seq _ b => ih b | q => q) k q
/-- They are run one after the other; each has to go on to the next with its places below m. -/
noncomputable def runP (F : FF) (lim m : Nat) (ps : List IC) : Rs → Rs := List.rec (motive := fun _ => Rs → Rs) (fun r => r)
  (fun p _ ih r => Rs.rec (motive := fun _ => Rs) .no (fun e h n => Bool.rec .no (ih ((kC p nK).f F lim e h n)) (Nat.ble n m)) (fun _ _ _ _ => .no) (fun _ _ _ => .no) r) ps
theorem runP_no (F : FF) (lim m : Nat) {ps : List IC} {r : Rs} {e : Tr} {h : Hp} {n : Nat} (hr : runP F lim m ps r = .nor e h n) : ∃ e1 h1 n1, r = .nor e1 h1 n1 := by
  cases ps with
  | nil => exact ⟨_, _, _, hr⟩
  | cons p ps =>
    cases r with
    | nor e1 h1 n1 => exact ⟨_, _, _, rfl⟩
    | _ => exact absurd (show (Rs.no) = _ from hr) (by simp)
theorem JQ.pieces {P : Program} (hP : P.follows .mixedOrders = true) {dr : List Nat} {N lim m : Nat} {F : FF} (hF : FOK P F) (hM : F.mono) {qb : IC} {K : Rs → Prop} (hm : m < big) {e1 : Tr} {h1 : Hp} {n1 : Nat} (hn1 : n1 ≤ m) (j : JQ P dr N F qb lim K e1 h1 n1) :
    ∀ (ps : List IC) {e : Tr} {h : Hp} {n : Nat}, runP F lim m ps (.nor e h n) = .nor e1 h1 n1 → JQ P dr N F (seqs ps qb) lim K e h n
  | [], e, h, n, hr => by
    have hr : Rs.nor e h n = Rs.nor e1 h1 n1 := hr
    cases hr; exact j
  | p :: ps, e, h, n, hr => by
    have hr : (Bool.rec .no (runP F lim m ps ((kC p nK).f F lim e h n)) (Nat.ble n m) : Rs) = .nor e1 h1 n1 := hr
    cases hb : Nat.ble n m with
    | false => rw [hb] at hr; cases hr
    | true =>
      rw [hb] at hr
      have hr : runP F lim m ps ((kC p nK).f F lim e h n) = .nor e1 h1 n1 := hr
      obtain ⟨e2, h2, n2, h3⟩ := runP_no F lim m hr
      rw [h3] at hr
      have hn2 : n2 ≤ m := by
        cases ps with
        | nil => have hr : Rs.nor e2 h2 n2 = Rs.nor e1 h1 n1 := hr; cases hr; exact hn1
        | cons p' ps' =>
          have hr : (Bool.rec .no (runP F lim m ps' ((kC p' nK).f F lim e2 h2 n2)) (Nat.ble n2 m) : Rs) = .nor e1 h1 n1 := hr
          cases hb2 : Nat.ble n2 m with
          | false => rw [hb2] at hr; cases hr
          | true => exact Nat.le_of_ble_eq_true hb2
      exact JQ.piece hP hF hM h3 (Nat.lt_of_le_of_lt hn2 hm) (JQ.pieces hP hF hM hm hn1 j ps hr)
/-- A stage of several pieces. -/
theorem JQ.stages {P : Program} (hP : P.follows .mixedOrders = true) {dr : List Nat} {N lim n m : Nat} {F : FF} (hF : FOK P F) (hM : F.mono) {q qb : IC} (ps : List IC) {K : Rs → Prop} {e : Tr} {h : Hp} {tabs : List (Nat × TypeId × L)} {l : List (Nat × V)} (hq : q = seqs ps qb)
    (hk : stg tabs m (l.map Prod.fst) (runP F lim m ps (.nor e h n)) = stgIs tabs l) (hl : (l.all fun x => decide (x.1 < 4294967296)) = true) (hm : m < big)
    (j : JQ P dr N F qb lim K (mkE l) (tabH tabs) m) : JQ P dr N F q lim K e h n := by
  subst hq
  have hk' := hk
  unfold stg stgIs at hk'
  simp only [Prod.mk.injEq] at hk'
  obtain ⟨h1, h2, h3⟩ := hk'
  obtain ⟨n1, h4, h5⟩ := pcN_ok h1
  exact JQ.pieces hP hF hM hm h5 (JQ.later h5 (JQ.weak (mkE_le hl h2) (tabH_le h3) j)) ps h4
end Go.Proofs.Ytkdbnhjipnnhjaa.Ev
/- Laws over few inputs, where no table is in memory: a stage that keeps its memory, and the run's end. -/
namespace Go.Proofs.Ytkdbnhjipnnhjaa.Ev
set_option linter.unusedVariables false
open Go Go.Proofs Go.RowKit
/-- A run's end: true is handed back. -/
noncomputable def finB (res : List RV) (e : Tr) (h : Hp) (n : Nat) : Bool := and (evRVs e h res).known (and (onB (evRes e h res) (fun b => b) false) (Nat.blt n 9223372036854775808))
noncomputable def finR (res : List RV) (r : Rs) : Bool := Rs.rec false (fun e h n => finB res e h n) (fun _ _ _ _ => false) (fun e h n => finB res e h n) r
theorem finB_ok {res : List RV} {e : Tr} {h : Hp} {n : Nat} (hf : finB res e h n = true) : n < big ∧ (evRVs e h res).known = true ∧ evRes e h res = .b true := by
  unfold finB at hf
  simp only [Bool.and_eq_true, Nat.blt_eq] at hf
  refine ⟨hf.2.2, hf.1, ?_⟩
  have := hf.2.1
  cases hx : evRes e h res <;> rw [hx] at this <;> simp [onB, V.asB] at this
  rw [this]
theorem got_fin {res : List RV} {r : Rs} (h : finR res r = true) : Got (Kend res (Good 0 (.v (.b true)))) r := by
  cases r with
  | no => cases h
  | ext => cases h
  | nor e h' n => have := finB_ok h; exact ⟨this.1, this.2.1, this.2.2, rfl⟩
  | ret e h' n => have := finB_ok h; exact ⟨this.1, this.2.1, this.2.2, rfl⟩
/-- A piece run to the law's end. -/
theorem JQ.fin {P : Program} (hP : P.follows .mixedOrders = true) {dr : List Nat} {N lim n : Nat} {F : FF} (hF : FOK P F) (hM : F.mono) {res : List RV} {q : IC} {e : Tr} {h : Hp} (hk : finR res ((kC q nK).f F lim e h n) = true) : JQ P dr N F q lim (Kend res (Good 0 (.v (.b true)))) e h n := by
  refine JQ.run hP hF hM ?_
  rw [kC_eq, onC_nK] at hk; exact got_fin hk
/-- What is looked at behind a stage. -/
noncomputable def obs (m : Nat) (ts : List Nat) (r : Rs) : Bool × List V × Hp := (pcN m r, ts.map (fun t => (pcE r).get (tp t)), pcH r)
noncomputable def lstO (ts : List Nat) (r : Rs) : List (Nat × V) := ts.map fun t => (t, (pcE r).get (tp t))
/-- A stage that comes to what another run of it comes to. -/
theorem JQ.stageX {P : Program} (hP : P.follows .mixedOrders = true) {dr : List Nat} {N lim n m : Nat} {F : FF} (hF : FOK P F) (hM : F.mono) {q qb : IC} (ps : List IC) {K : Rs → Prop} {e : Tr} {h : Hp} (ts : List Nat) (r0 : Rs) (hq : q = seqs ps qb)
    (hk : obs m ts (runP F lim m ps (.nor e h n)) = obs m ts r0) (h0 : pcN m r0 = true) (hl : ((lstO ts r0).all fun x => decide (x.1 < 4294967296)) = true) (hm : m < big)
    (j : JQ P dr N F qb lim K (mkE (lstO ts r0)) (pcH r0) m) : JQ P dr N F q lim K e h n := by
  subst hq
  unfold obs at hk
  simp only [Prod.mk.injEq] at hk
  obtain ⟨h1, h2, h3⟩ := hk
  rw [h0] at h1
  obtain ⟨n1, h4, h5⟩ := pcN_ok h1
  refine JQ.pieces hP hF hM hm h5 (JQ.later h5 (JQ.weak (mkE_le hl ?_) (by rw [h3]; exact HpLe.refl _) j)) ps h4
  unfold lstO
  rw [List.map_map, List.map_map, List.map_map]
  exact h2
/-- A stage that comes to slots and memory that are told. -/
theorem JQ.stageY {P : Program} (hP : P.follows .mixedOrders = true) {dr : List Nat} {N lim n m : Nat} {F : FF} (hF : FOK P F) (hM : F.mono) {q qb : IC} (ps : List IC) {K : Rs → Prop} {e : Tr} {h : Hp} (l : List (Nat × V)) (hh : Hp) (hq : q = seqs ps qb)
    (hk : obs m (l.map Prod.fst) (runP F lim m ps (.nor e h n)) = (true, l.map Prod.snd, hh)) (hl : (l.all fun x => decide (x.1 < 4294967296)) = true) (hm : m < big)
    (j : JQ P dr N F qb lim K (mkE l) hh m) : JQ P dr N F q lim K e h n := by
  subst hq
  unfold obs at hk
  simp only [Prod.mk.injEq] at hk
  obtain ⟨h1, h2, h3⟩ := hk
  obtain ⟨n1, h4, h5⟩ := pcN_ok h1
  exact JQ.pieces hP hF hM hm h5 (JQ.later h5 (JQ.weak (mkE_le hl h2) (by rw [h3]; exact HpLe.refl _) j)) ps h4
/-- A run's end: a plain value is handed back. -/
noncomputable def finXB (x : V) (res : List RV) (e : Tr) (h : Hp) (n : Nat) : Bool := and (evRVs e h res).known (and (eqV (evRes e h res) x) (Nat.blt n 9223372036854775808))
noncomputable def finX (x : V) (res : List RV) (r : Rs) : Bool := Rs.rec false (fun e h n => finXB x res e h n) (fun _ _ _ _ => false) (fun e h n => finXB x res e h n) r
theorem finXB_ok {x : V} {res : List RV} {e : Tr} {h : Hp} {n : Nat} (hf : finXB x res e h n = true) : n < big ∧ (evRVs e h res).known = true ∧ evRes e h res = x := by
  unfold finXB at hf
  simp only [Bool.and_eq_true, Nat.blt_eq] at hf
  exact ⟨hf.2.2, hf.1, eqV_eq _ _ hf.2.1⟩
theorem JQ.finX {P : Program} (hP : P.follows .mixedOrders = true) {dr : List Nat} {N lim n nb : Nat} {F : FF} (hF : FOK P F) (hM : F.mono) {res : List RV} {q : IC} {e : Tr} {h : Hp} {x : V} (hx : x.pur = true) (hk : finX x res ((kC q nK).f F lim e h n) = true) : JQ P dr N F q lim (Kend res (Good nb (.v x))) e h n := by
  refine JQ.run hP hF hM ?_
  rw [kC_eq, onC_nK] at hk
  revert hk
  generalize evC q F lim e h n = r
  intro hk
  cases r with
  | no => cases hk
  | ext => cases hk
  | nor e h' n => have := finXB_ok hk; exact ⟨this.1, this.2.1, this.2.2, hx⟩
  | ret e h' n => have := finXB_ok hk; exact ⟨this.1, this.2.1, this.2.2, hx⟩
/-- Some answers by a contract, all others as before. -/
def ovF (f : Nat) (s : L → Nat → Hp → Nat → Res) (F : FF) : FF := fun g args lim h n => if g = f then (match s args lim h n with | .ok v h' n' => .ok v h' n' | .no => F g args lim h n) else F g args lim h n
theorem ovF_ok {P : Program} {f : Nat} {s : L → Nat → Hp → Nat → Res} {F : FF} (hs : SOK P f s) (hF : FOK P F) (hne : YID ≠ f := by decide) : FOK P (ovF f s F) := by
  refine ⟨fun g args lim h n v h' n' hr => ?_, fun p args lim h n v h' n' hr => ?_⟩
  · unfold ovF at hr
    split at hr
    · rename_i e
      subst e
      split at hr
      · rename_i v1 h1 n1 he
        cases hr
        exact hs _ _ _ _ _ _ _ he
      · exact hF.1 _ _ _ _ _ _ _ _ hr
    · exact hF.1 _ _ _ _ _ _ _ _ hr
  · unfold ovF at hr
    rw [if_neg hne] at hr
    exact hF.2 _ _ _ _ _ _ _ _ hr
theorem ovF_mono {f : Nat} {s : L → Nat → Hp → Nat → Res} {F : FF} (hs : SMo s) (hF : F.mono) : (ovF f s F).mono := fun g args lim h n => by
  unfold ovF
  split
  · have := hs args lim h n
    cases he : s args lim h n with
    | no => exact hF _ _ _ _ _
    | ok v h' n' => rw [he] at this; exact this
  · exact hF _ _ _ _ _
/-- Some blocks with their places. -/
noncomputable def hpL : List (Nat × Blk) → Hp
  | [] => .lf
  | x :: l => (hpL l).put (some x.2) (tp x.1)
theorem hpL_le {h : Hp} : ∀ {l : List (Nat × Blk)}, (l.map fun x => h.get (tp x.1)) = (l.map fun x => some x.2) → HpLe (hpL l) h
  | [], _ => HpLe.lf h
  | x :: l, e => by
    simp only [List.map_cons, List.cons.injEq] at e
    exact HpLe.put ⟨x.2, e.1, BlkLe.refl _⟩ (hpL_le e.2)
noncomputable def obsZ (m : Nat) (ts ks : List Nat) (r : Rs) : Bool × List V × List (Option Blk) := (pcN m r, ts.map (fun t => (pcE r).get (tp t)), ks.map fun k => (pcH r).get (tp k))
noncomputable def isZ (l : List (Nat × V)) (bl : List (Nat × Blk)) : Bool × List V × List (Option Blk) := (true, l.map Prod.snd, bl.map fun x => some x.2)
/-- A stage of which some slots and some blocks are kept. -/
theorem JQ.stageZ {P : Program} (hP : P.follows .mixedOrders = true) {dr : List Nat} {N lim n m : Nat} {F : FF} (hF : FOK P F) (hM : F.mono) {q qb : IC} (ps : List IC) {K : Rs → Prop} {e : Tr} {h : Hp} (l : List (Nat × V)) (bl : List (Nat × Blk)) (hq : q = seqs ps qb)
    (hk : obsZ m (l.map Prod.fst) (bl.map Prod.fst) (runP F lim m ps (.nor e h n)) = isZ l bl) (hl : (l.all fun x => decide (x.1 < 4294967296)) = true) (hm : m < big)
    (j : JQ P dr N F qb lim K (mkE l) (hpL bl) m) : JQ P dr N F q lim K e h n := by
  subst hq
  unfold obsZ isZ at hk
  simp only [Prod.mk.injEq] at hk
  obtain ⟨h1, h2, h3⟩ := hk
  obtain ⟨n1, h4, h5⟩ := pcN_ok h1
  rw [List.map_map] at h3
  exact JQ.pieces hP hF hM hm h5 (JQ.later h5 (JQ.weak (mkE_le hl h2) (hpL_le h3) j)) ps h4
noncomputable def FnI.q (x : FnI) : IC := FnI.rec (motive := fun _ => IC) (fun _ _ q _ => q) x
noncomputable def FnI.r (x : FnI) : List RV := FnI.rec (motive := fun _ => List RV) (fun _ _ _ r => r) x
end Go.Proofs.Ytkdbnhjipnnhjaa.Ev
/- goto: a function whose code jumps back, at its end, to one label is evaluated as a loop. -/
namespace Go.Proofs.Ytkdbnhjipnnhjaa.Ev
set_option linter.unusedVariables false
open Go
/-- The code behind a label, up to the jump back to it. -/
def lpC (P : Program) (dr : List Nat) (N l : Nat) : Code → Option IC
  | .seq a b => match compC P dr N a, lpC P dr N l b with
    | some qa, some qb => some (.seq qa qb)
    | _, _ => none
  | .goto l' => if l' = l then some .skip else none
  | _ => none
def isLb : Code → Option Nat
  | .label l => some l
  | _ => none
theorem isLb_eq {c : Code} {l : Nat} (h : isLb c = some l) : c = .label l := by
  cases c <;> simp [isLb] at h
  rw [h]
/-- The label, the code as a loop, what a jump goes on with. -/
def goC (P : Program) (dr : List Nat) (N : Nat) : Code → Option (Nat × IC × Code)
  | .seq a b => match isLb a with
    | some l => (lpC P dr N l b).map fun q => (l, .loop q, .seq .skip b)
    | none => match compC P dr N a, goC P dr N b with
      | some qa, some (l, q, r) => if (findLabel a l).isNone = true then some (l, .seq qa q, r) else none
      | _, _ => none
  | _ => none
theorem goC_find {P : Program} {dr : List Nat} {N : Nat} : ∀ {c : Code} {l : Nat} {q : IC} {r : Code}, goC P dr N c = some (l, q, r) → findLabel c l = some r
  | .seq a b, l, q, r, h => by
    rw [goC] at h
    split at h
    · rename_i l' hl
      rw [Option.map_eq_some_iff] at h
      obtain ⟨q', h1, h2⟩ := h
      cases h2
      rw [isLb_eq hl]
      simp [findLabel]
    · split at h
      · rename_i qa l' q' r' h1 h2
        split at h
        · rename_i hn
          cases h
          have ih := goC_find h2
          have hn' : findLabel a l = none := by simpa using hn
          simp [findLabel, hn', ih]
        · cases h
      · cases h
  | .skip, _, _, _, h => by cases h
  | .region .., _, _, _, h => by cases h
  | .cond .., _, _, _, h => by cases h
  | .block .., _, _, _, h => by cases h
  | .loop .., _, _, _, h => by cases h
  | .rangeFunc .., _, _, _, h => by cases h
  | .exit .., _, _, _, h => by cases h
  | .scope .., _, _, _, h => by cases h
  | .label .., _, _, _, h => by cases h
  | .goto .., _, _, _, h => by cases h
  | .ret, _, _, _, h => by cases h
  | .refuse .., _, _, _, h => by cases h

def PostG (l N lim : Nat) (g : Sig) (h : Hp) (w : World) (n : Nat) (a : Act) : Rs → Exit → Act → World → Prop
  | .nor e' h' n', ex, a', w' => ex = .goto l ∧ MkK w a w' a' ∧ ∃ g', EnvA N g' e' a' ∧ Mem g' h'.get w' ∧ Fr lim n g h.get w n' g' h'.get w'
  | r, ex, a', w' => Post N lim g h w n a r ex a' w'
theorem PostG.trans {l N lim : Nat} {g g1 : Sig} {h h1 : Hp} {w w1 : World} {n n1 : Nat} {a a1 : Act} (k : MkK w a w1 a1) (f : Fr lim n g h.get w n1 g1 h1.get w1) : ∀ {r : Rs} {ex : Exit} {a' : Act} {w' : World}, PostG l N lim g1 h1 w1 n1 a1 r ex a' w' → PostG l N lim g h w n a r ex a' w'
  | .no, _, _, _, h => h.elim
  | .nor .., _, _, _, ⟨x, k', g', y, z, f'⟩ => ⟨x, k.trans k', g', y, z, f.trans f'⟩
  | .ext .., _, _, _, ⟨x, k', g', y, z, f'⟩ => ⟨x, k.trans k', g', y, z, f.trans f'⟩
  | .ret .., _, _, _, ⟨x, k', g', y, z, f'⟩ => ⟨x, k.trans k', g', y, z, f.trans f'⟩
/-- As Sound, outside a range over a function. -/
def SoundN (P : Program) (F : FF) (N : Nat) (c : Code) (q : IC) : Prop :=
  ∀ lim e h n r, evC q F lim e h n = r → r ≠ .no → ∀ (a : Act) g w, EnvA N g e a → Mem g h.get w → Dom h.get n → Fresh g n r.top → r.top < 9223372036854775808 → c.wpIn (fw none) 0 P (Post N lim g h w n a r) a w
def SoundG (P : Program) (F : FF) (N l : Nat) (c : Code) (q : IC) : Prop :=
  ∀ lim e h n r, evC q F lim e h n = r → r ≠ .no → ∀ (a : Act) g w, EnvA N g e a → Mem g h.get w → Dom h.get n → Fresh g n r.top → r.top < 9223372036854775808 → c.wpIn (fw none) 0 P (PostG l N lim g h w n a r) a w

theorem lpC_sound {P : Program} (hP : P.follows .mixedOrders = true) {F : FF} (hF : FOK P F) (hM : F.mono) {dr : List Nat} {N l : Nat} : ∀ (c : Code) (q : IC), lpC P dr N l c = some q → SoundG P F N l c q
  | .seq a b, q, hc => by
    simp only [lpC] at hc
    split at hc
    case h_2 => cases hc
    rename_i qa qb h1 h2
    cases hc
    intro lim e h n r hr hne ac g w he m hd hf hn
    have hr : evSeq (evC qa) (evC qb) F lim e h n = r := hr
    unfold evSeq at hr
    refine wpIn_seq ?_
    cases hx : evC qa F lim e h n with
    | no => rw [hx] at hr; exact absurd hr.symm hne
    | nor e1 h1' n1 =>
      rw [hx] at hr
      have hr : evC qb F lim e1 h1' n1 = r := hr
      have hg2 : n1 ≤ r.top := by
        have := evC_ge hM qb lim e1 h1' n1; rw [hr] at this
        cases r <;> first | exact absurd rfl hne | exact this
      refine wpIn_mono (evC_sound hP hF hM a qa h1 lim e h n _ hx (by simp) ac g w he m hd (hf.sub (Nat.le_refl _) hg2) (Nat.lt_of_le_of_lt hg2 hn) none (.inl rfl)) ?_
      rintro ex a' w' ⟨rfl, k1, g1, he1, m1, f1⟩
      exact wpIn_mono (lpC_sound hP hF hM b qb h2 lim e1 h1' n1 r hr hne a' g1 w' he1 m1 f1.dom' (f1.fresh hf) hn) fun _ _ _ hp => PostG.trans k1 f1 hp
    | ext id e1 h1' n1 =>
      rw [hx] at hr
      have hr : Rs.ext id e1 h1' n1 = r := hr
      subst hr
      refine wpIn_mono (evC_sound hP hF hM a qa h1 lim e h n _ hx (by simp) ac g w he m hd hf hn none (.inl rfl)) ?_
      rintro ex a' w' ⟨rfl, hp⟩
      exact ⟨rfl, hp⟩
    | ret e1 h1' n1 =>
      rw [hx] at hr
      have hr : Rs.ret e1 h1' n1 = r := hr
      subst hr
      refine wpIn_mono (evC_sound hP hF hM a qa h1 lim e h n _ hx (by simp) ac g w he m hd hf hn none (.inl rfl)) ?_
      rintro ex a' w' ⟨rfl, hp⟩
      exact ⟨rfl, hp⟩
  | .goto l', q, hc => by
    simp only [lpC] at hc
    split at hc
    case isFalse => cases hc
    rename_i hl
    cases hc
    intro lim e h n r hr hne ac g w he m hd hf hn
    have hr : Rs.nor e h n = r := hr
    subst hr
    exact wpIn_goto ⟨by rw [hl], MkK.refl, g, he, m, Fr.refl hd⟩
  | .skip, _, h => by cases h
  | .region .., _, h => by cases h
  | .cond .., _, h => by cases h
  | .block .., _, h => by cases h
  | .loop .., _, h => by cases h
  | .rangeFunc .., _, h => by cases h
  | .exit .., _, h => by cases h
  | .scope .., _, h => by cases h
  | .label .., _, h => by cases h
  | .ret, _, h => by cases h
  | .refuse .., _, h => by cases h

theorem go_rounds {P : Program} {F : FF} (hM : F.mono) {N l : Nat} {b0 body : Code} {qb : IC} (ih : SoundG P F N l b0 qb) {lim : Nat} {fb : Frame} {k : List Item} {cs : List Frame} (hro' : fb.roundOf = (fw none).round) (hfb : (fw none).fn fb.fn) (hroom : (fw none).room (cs.length + 1 + 0))
    (hg : ∀ k, gotoIn l (.inScope body :: k) = some (.code (.seq .skip b0) :: .inScope body :: k)) :
    ∀ (j : Nat) (e : Tr) (h : Hp) (n : Nat) (r : Rs), rep (evC qb F lim) j e h n = r → r ≠ .no → ∀ (ac : Act) (g : Sig) (w : World), EnvA N g e ac → Mem g h.get w → Dom h.get n → Fresh g n r.top → r.top < 9223372036854775808 →
        ∃ ex a' w', Post N lim g h w n ac r ex a' w' ∧ (ex = .normal → StepsIn (Machine.fenced P (fw none)) P (lone (fb.atR ac (.code b0 :: .inScope body :: k)) cs w) (lone (fb.atR a' (.code b0 :: .inScope body :: k)) cs w')) ∧
          (ex ≠ .normal → ArrivesIn (Machine.fenced P (fw none)) P (lone (fb.atR ac (.code b0 :: .inScope body :: k)) cs w) fb (.inScope body :: k) cs ex a' w') := by
  intro j
  induction j with
  | zero =>
    intro e h n r hr hne ac g w he m hd hf hn
    obtain ⟨ex, a', w', hp, harr⟩ := ih lim e h n r hr hne ac g w he m hd hf hn fb (.inScope body :: k) cs hro' hfb hroom
    cases r with
    | no => exact absurd rfl hne
    | nor e1 h1 n1 =>
      obtain ⟨rfl, hp⟩ := hp
      refine ⟨.normal, a', w', ⟨rfl, hp⟩, fun _ => StepsIn.trans (harr.1 _ (hg k)) (.head (fenced_calm hfb hroom rfl) stepR_seq (.one (fenced_calm hfb hroom rfl) stepR_skip)), fun hx => absurd rfl hx⟩
    | ext id e1 h1 n1 =>
      refine ⟨ex, a', w', hp, fun hx => ?_, fun _ => harr⟩
      obtain ⟨rfl, _⟩ := hp
      cases hx
    | ret e1 h1 n1 =>
      refine ⟨ex, a', w', hp, fun hx => ?_, fun _ => harr⟩
      obtain ⟨rfl, _⟩ := hp
      cases hx
  | succ j ihj =>
    intro e h n r hr hne ac g w he m hd hf hn
    have hr : (Rs.rec (motive := fun _ => Rs) .no (fun e h n => rep (evC qb F lim) j e h n) (fun id e h n => .ext id e h n) (fun e h n => .ret e h n) (rep (evC qb F lim) j e h n)) = r := hr
    cases hx : rep (evC qb F lim) j e h n with
    | no => rw [hx] at hr; exact absurd hr.symm hne
    | nor e1 h1' n1 =>
      rw [hx] at hr
      have hr : rep (evC qb F lim) j e1 h1' n1 = r := hr
      have hg2 : n1 ≤ r.top := by
        have := ge_rep (fun e h n => evC_ge hM qb lim e h n) j e1 h1' n1; rw [hr] at this
        cases r <;> first | exact absurd rfl hne | exact this
      obtain ⟨ex, a1, w1, ⟨hex, k1, g1, he1, m1, f1⟩, hs, _⟩ := ihj e h n _ hx (by simp) ac g w he m hd (hf.sub (Nat.le_refl _) hg2) (Nat.lt_of_le_of_lt hg2 hn)
      obtain ⟨ex2, a2, w2, hp2, hs2, ha2⟩ := ihj e1 h1' n1 r hr hne a1 g1 w1 he1 m1 f1.dom' (f1.fresh hf) hn
      exact ⟨ex2, a2, w2, Post.trans k1 f1 hp2, fun hx => (hs hex).trans (hs2 hx), fun hx => .of_steps (hs hex) (ha2 hx)⟩
    | ext id e1 h1' n1 =>
      rw [hx] at hr
      have hr : Rs.ext id e1 h1' n1 = r := hr
      subst hr
      exact ihj e h n _ hx (by simp) ac g w he m hd hf hn
    | ret e1 h1' n1 =>
      rw [hx] at hr
      have hr : Rs.ret e1 h1' n1 = r := hr
      subst hr
      exact ihj e h n _ hx (by simp) ac g w he m hd hf hn

theorem goC_arr {P : Program} (hP : P.follows .mixedOrders = true) {F : FF} (hF : FOK P F) (hM : F.mono) {dr : List Nat} {N : Nat} {body : Code} {fb : Frame} {k : List Item} {cs : List Frame} (hro' : fb.roundOf = (fw none).round) (hfb : (fw none).fn fb.fn) (hroom : (fw none).room (cs.length + 1 + 0)) :
    ∀ (c : Code) (l : Nat) (q : IC) (rest : Code), goC P dr N c = some (l, q, rest) → (∀ k, gotoIn l (.inScope body :: k) = some (.code rest :: .inScope body :: k)) → ∀ lim e h n r, evC q F lim e h n = r → r ≠ .no → ∀ (ac : Act) g w, EnvA N g e ac → Mem g h.get w → Dom h.get n → Fresh g n r.top → r.top < 9223372036854775808 →
      ∃ ex a' w', Post N lim g h w n ac r ex a' w' ∧ ArrivesIn (Machine.fenced P (fw none)) P (lone (fb.atR ac (.code c :: .inScope body :: k)) cs w) fb (.inScope body :: k) cs ex a' w'
  | .seq a b, l, q, rest, hc, hg, lim, e, h, n, r, hr, hne, ac, g, w, he, m, hd, hf, hn => by
    have h0 : (lone (fb.atR ac (.code (.seq a b) :: .inScope body :: k)) cs w).fenced P (fw none) := fenced_calm hfb hroom rfl
    rw [goC] at hc
    split at hc
    · rename_i l' hl
      rw [Option.map_eq_some_iff] at hc
      obtain ⟨qb, h1, h2⟩ := hc
      cases h2
      obtain rfl := isLb_eq hl
      have hr : evLoop (evC qb) F lim e h n = r := hr
      unfold evLoop at hr
      have key := go_rounds hM (lpC_sound hP hF hM b qb h1) (lim := lim) (fb := fb) (k := k) (cs := cs) hro' hfb hroom hg 20
      cases hx : rep (evC qb F lim) 20 e h n with
      | no => rw [hx] at hr; exact absurd hr.symm hne
      | nor => rw [hx] at hr; exact absurd hr.symm hne
      | ext id e1 h1' n1 =>
        rw [hx] at hr
        have hr : Rs.ext id e1 h1' n1 = r := hr
        subst hr
        obtain ⟨ex, a', w', hp, _, ha⟩ := key e h n _ hx (by simp) ac g w he m hd hf hn
        refine ⟨ex, a', w', hp, .of_steps (.head h0 stepR_seq (.one (fenced_calm hfb hroom rfl) stepR_label)) (ha ?_)⟩
        rw [hp.1]; simp
      | ret e1 h1' n1 =>
        rw [hx] at hr
        have hr : Rs.ret e1 h1' n1 = r := hr
        subst hr
        obtain ⟨ex, a', w', hp, _, ha⟩ := key e h n _ hx (by simp) ac g w he m hd hf hn
        refine ⟨ex, a', w', hp, .of_steps (.head h0 stepR_seq (.one (fenced_calm hfb hroom rfl) stepR_label)) (ha ?_)⟩
        rw [hp.1]; simp
    · split at hc
      case h_2 => cases hc
      rename_i qa l' q' r' h1 h2
      split at hc
      case isFalse => cases hc
      cases hc
      have hr : evSeq (evC qa) (evC q') F lim e h n = r := hr
      unfold evSeq at hr
      cases hx : evC qa F lim e h n with
      | no => rw [hx] at hr; exact absurd hr.symm hne
      | nor e1 h1' n1 =>
        rw [hx] at hr
        have hr : evC q' F lim e1 h1' n1 = r := hr
        have hg2 : n1 ≤ r.top := by
          have := evC_ge hM q' lim e1 h1' n1; rw [hr] at this
          cases r <;> first | exact absurd rfl hne | exact this
        obtain ⟨ex, a1, w1, ⟨rfl, k1, g1, he1, m1, f1⟩, harr⟩ := evC_sound hP hF hM a qa h1 lim e h n _ hx (by simp) ac g w he m hd (hf.sub (Nat.le_refl _) hg2) (Nat.lt_of_le_of_lt hg2 hn) none (.inl rfl) fb (.code b :: .inScope body :: k) cs hro' hfb hroom
        obtain ⟨ex2, a2, w2, hp2, harr2⟩ := goC_arr hP hF hM hro' hfb hroom b l q' rest h2 hg lim e1 h1' n1 r hr hne a1 g1 w1 he1 m1 f1.dom' (f1.fresh hf) hn
        exact ⟨ex2, a2, w2, Post.trans k1 f1 hp2, .of_steps (.head h0 stepR_seq harr) harr2⟩
      | ext id e1 h1' n1 =>
        rw [hx] at hr
        have hr : Rs.ext id e1 h1' n1 = r := hr
        subst hr
        obtain ⟨ex, a1, w1, hp, harr⟩ := evC_sound hP hF hM a qa h1 lim e h n _ hx (by simp) ac g w he m hd hf hn none (.inl rfl) fb (.code b :: .inScope body :: k) cs hro' hfb hroom
        obtain ⟨rfl, hp⟩ := hp
        exact ⟨_, a1, w1, ⟨rfl, hp⟩, .of_steps (.one h0 stepR_seq) (.pass (x := .code b) rfl (fun _ _ => .inl (by simp)) harr)⟩
      | ret e1 h1' n1 =>
        rw [hx] at hr
        have hr : Rs.ret e1 h1' n1 = r := hr
        subst hr
        obtain ⟨ex, a1, w1, hp, harr⟩ := evC_sound hP hF hM a qa h1 lim e h n _ hx (by simp) ac g w he m hd hf hn none (.inl rfl) fb (.code b :: .inScope body :: k) cs hro' hfb hroom
        obtain ⟨rfl, hp⟩ := hp
        exact ⟨_, a1, w1, ⟨rfl, hp⟩, .of_steps (.one h0 stepR_seq) (.pass (x := .code b) rfl (fun _ _ => .inl (by simp)) harr)⟩
  | .skip, _, _, _, h, _, _, _, _, _, _, _, _, _, _, _, _, _, _, _, _ => by cases h
  | .region .., _, _, _, h, _, _, _, _, _, _, _, _, _, _, _, _, _, _, _, _ => by cases h
  | .cond .., _, _, _, h, _, _, _, _, _, _, _, _, _, _, _, _, _, _, _, _ => by cases h
  | .block .., _, _, _, h, _, _, _, _, _, _, _, _, _, _, _, _, _, _, _, _ => by cases h
  | .loop .., _, _, _, h, _, _, _, _, _, _, _, _, _, _, _, _, _, _, _, _ => by cases h
  | .rangeFunc .., _, _, _, h, _, _, _, _, _, _, _, _, _, _, _, _, _, _, _, _ => by cases h
  | .exit .., _, _, _, h, _, _, _, _, _, _, _, _, _, _, _, _, _, _, _, _ => by cases h
  | .scope .., _, _, _, h, _, _, _, _, _, _, _, _, _, _, _, _, _, _, _, _ => by cases h
  | .label .., _, _, _, h, _, _, _, _, _, _, _, _, _, _, _, _, _, _, _, _ => by cases h
  | .goto .., _, _, _, h, _, _, _, _, _, _, _, _, _, _, _, _, _, _, _, _ => by cases h
  | .ret, _, _, _, h, _, _, _, _, _, _, _, _, _, _, _, _, _, _, _, _ => by cases h
  | .refuse .., _, _, _, h, _, _, _, _, _, _, _, _, _, _, _, _, _, _, _, _ => by cases h

theorem goC_sound {P : Program} (hP : P.follows .mixedOrders = true) {F : FF} (hF : FOK P F) (hM : F.mono) {dr : List Nat} {N : Nat} {body : Code} {l : Nat} {q : IC} {rest : Code} (hc : goC P dr N body = some (l, q, rest)) : SoundN P F N (.scope body) q := by
  intro lim e h n r hr hne a g w he m hd hf hn b k cs hro hb hroom
  have h0 : (lone (b.atR a (.code (.scope body) :: k)) cs w).fenced P (fw none) := fenced_calm hb hroom rfl
  have hg : ∀ k, gotoIn l (.inScope body :: k) = some (.code rest :: .inScope body :: k) := fun k => by simp [gotoIn, goC_find hc]
  obtain ⟨ex, a1, w1, hp, harr⟩ := goC_arr hP hF hM (k := k) hro hb hroom body l q rest hc hg lim e h n r hr hne a g w he m hd hf hn
  cases r with
  | no => exact absurd rfl hne
  | nor e1 h1 n1 =>
    obtain ⟨rfl, hp⟩ := hp
    exact ⟨.normal, a1, w1, ⟨rfl, hp⟩, .head h0 stepR_scope (StepsIn.trans harr (.one (fenced_calm hb hroom rfl) stepR_inScope))⟩
  | ext id e1 h1 n1 =>
    obtain ⟨rfl, hp⟩ := hp
    exact ⟨.exit id, a1, w1, ⟨rfl, hp⟩, fun k' hk => .head h0 stepR_scope (harr.1 k' (by simp [exitTo, hk])), fun hr1 hk => let ⟨k₁, h1, h2⟩ := harr.2 hr1 (by simp [exitTo, hk]); ⟨k₁, h1, .head h0 stepR_scope h2⟩⟩
  | ret e1 h1 n1 =>
    obtain ⟨rfl, hp⟩ := hp
    exact ⟨_, a1, w1, ⟨rfl, hp⟩, .of_steps (.one h0 stepR_scope) harr⟩
/-- A body that ends with such a scope. -/
def gC (P : Program) (dr : List Nat) (N : Nat) : Code → Option IC
  | .seq a b => match compC P dr N a, gC P dr N b with
    | some qa, some qb => some (.seq qa qb)
    | _, _ => none
  | .scope b => (goC P dr N b).map fun x => x.2.1
  | _ => none
theorem gC_sound {P : Program} (hP : P.follows .mixedOrders = true) {F : FF} (hF : FOK P F) (hM : F.mono) {dr : List Nat} {N : Nat} : ∀ (c : Code) (q : IC), gC P dr N c = some q → SoundN P F N c q
  | .seq a b, q, hc => by
    simp only [gC] at hc
    split at hc
    case h_2 => cases hc
    rename_i qa qb h1 h2
    cases hc
    intro lim e h n r hr hne ac g w he m hd hf hn
    have hr : evSeq (evC qa) (evC qb) F lim e h n = r := hr
    unfold evSeq at hr
    refine wpIn_seq ?_
    cases hx : evC qa F lim e h n with
    | no => rw [hx] at hr; exact absurd hr.symm hne
    | nor e1 h1' n1 =>
      rw [hx] at hr
      have hr : evC qb F lim e1 h1' n1 = r := hr
      have hg2 : n1 ≤ r.top := by
        have := evC_ge hM qb lim e1 h1' n1; rw [hr] at this
        cases r <;> first | exact absurd rfl hne | exact this
      refine wpIn_mono (evC_sound hP hF hM a qa h1 lim e h n _ hx (by simp) ac g w he m hd (hf.sub (Nat.le_refl _) hg2) (Nat.lt_of_le_of_lt hg2 hn) none (.inl rfl)) ?_
      rintro ex a' w' ⟨rfl, k1, g1, he1, m1, f1⟩
      exact wpIn_mono (gC_sound hP hF hM b qb h2 lim e1 h1' n1 r hr hne a' g1 w' he1 m1 f1.dom' (f1.fresh hf) hn) fun _ _ _ hp => Post.trans k1 f1 hp
    | ext id e1 h1' n1 =>
      rw [hx] at hr
      have hr : Rs.ext id e1 h1' n1 = r := hr
      subst hr
      refine wpIn_mono (evC_sound hP hF hM a qa h1 lim e h n _ hx (by simp) ac g w he m hd hf hn none (.inl rfl)) ?_
      rintro ex a' w' ⟨rfl, hp⟩
      exact ⟨rfl, hp⟩
    | ret e1 h1' n1 =>
      rw [hx] at hr
      have hr : Rs.ret e1 h1' n1 = r := hr
      subst hr
      refine wpIn_mono (evC_sound hP hF hM a qa h1 lim e h n _ hx (by simp) ac g w he m hd hf hn none (.inl rfl)) ?_
      rintro ex a' w' ⟨rfl, hp⟩
      exact ⟨rfl, hp⟩
  | .scope b, q, hc => by
    simp only [gC, Option.map_eq_some_iff] at hc
    obtain ⟨⟨l, q', rest⟩, h1, rfl⟩ := hc
    exact goC_sound hP hF hM h1
  | .skip, _, h => by cases h
  | .region .., _, h => by cases h
  | .cond .., _, h => by cases h
  | .block .., _, h => by cases h
  | .loop .., _, h => by cases h
  | .rangeFunc .., _, h => by cases h
  | .exit .., _, h => by cases h
  | .label .., _, h => by cases h
  | .goto .., _, h => by cases h
  | .ret, _, h => by cases h
  | .refuse .., _, h => by cases h
theorem runB_soundS {P : Program} (hP : P.follows .mixedOrders = true) {F : FF} (hF : FOK P F) (hM : F.mono) {f : Nat} {fn : Func} {c : Code} (hfn : P.funcs[f]? = some fn) (hb : fn.body = some c) {q : IC} {res : List RV} (hs : SoundN P F fn.ntmps c q) (hres : compRVs P fn.results.toList = some res)
    (drop : Bool) {args : L} {lim n n' : Nat} {h h' : Hp} {v : V} (hr : runB drop q res F args lim h n = .ok v h' n') (hdr : drop = true → lim = n) {vs : List Value} {g : Sig} {w : World} (ha : args.rel g vs) (hgk : GOK g) (hal : args.length < 4294967296) (m : Mem g h.get w) (hd : Dom h.get n) (hf : Fresh g n n') (hn : n' < 9223372036854775808) :
    Calls P f ⟨vs⟩ w fun e w' => ∃ u g', e = .returned u ∧ v.rel g' u ∧ Mem g' h'.get w' ∧ Fr lim n g h.get w n' g' h'.get w' := by
  refine callsIn_wide.1 (callsIn_of_wp_marks (F := Fence.wide) (n := 0) hfn hb trivial ?_)
  have fin : ∀ (e1 : Tr) (h1 : Hp) (n1 : Nat), endF drop h res e1 h1 n1 = .ok v h' n' → ∀ (a' : Act) (g1 : Sig) (w' : World), EnvA fn.ntmps g1 e1 a' → Mem g1 h1.get w' → Fr lim n g h.get w n1 g1 h1.get w' → Mk w.heap.size w' a' →
      LeavesInM Fence.wide 0 P fn a'.tmps (fun e w' => ∃ u g', e = .returned u ∧ v.rel g' u ∧ Mem g' h'.get w' ∧ Fr lim n g h.get w n' g' h'.get w') a'.defers .returning w' := by
    intro e1 h1 n1 he a' g1 w' hE m1 f1 hmk
    obtain ⟨hk, rfl, rfl, rfl⟩ := endF_ok he
    refine leave_marks a'.defers w' hmk.1 hmk.2 fun w2 e2 => ?_
    obtain ⟨u, r1, r2⟩ := evRes_sound hE (e2.mem m1) hres hk
    refine ⟨u, r1, u, g1, rfl, r2, ?_⟩
    cases drop with
    | false => exact ⟨e2.mem m1, e2.fr f1⟩
    | true =>
      have := hdr rfl
      subst this
      exact dropped m hd hf (e2.fr f1)
  have m0 : Mk w.heap.size w { tmps := (⟨vs⟩ : Array Value) ++ Array.replicate (fn.ntmps - (⟨vs⟩ : Array Value).size) undef, defers := [] } := ⟨List.nodup_nil, fun d hd => by simp at hd⟩
  unfold runB at hr
  cases hx : evC q F lim (bind args 0 .lf) h n with
  | no => rw [hx] at hr; cases hr
  | ext => rw [hx] at hr; cases hr
  | nor e1 h1 n1 =>
    rw [hx] at hr
    have hr : endF drop h res e1 h1 n1 = .ok v h' n' := hr
    have hnn : n1 = n' := (endF_ok hr).2.2.2.symm
    refine wpIn_mono (hs lim _ h n _ hx (by simp) _ g w (env_bind hgk ha hal fn.ntmps) m hd (hnn ▸ hf) (hnn ▸ hn)) ?_
    rintro ex a' w' ⟨rfl, k1, g1, hE, m1, f1⟩
    exact fin e1 h1 n1 hr a' g1 w' hE m1 f1 (k1.2 _ (Nat.le_refl _) m0)
  | ret e1 h1 n1 =>
    rw [hx] at hr
    have hr : endF drop h res e1 h1 n1 = .ok v h' n' := hr
    have hnn : n1 = n' := (endF_ok hr).2.2.2.symm
    refine wpIn_mono (hs lim _ h n _ hx (by simp) _ g w (env_bind hgk ha hal fn.ntmps) m hd (hnn ▸ hf) (hnn ▸ hn)) ?_
    rintro ex a' w' ⟨rfl, k1, g1, hE, m1, f1⟩
    exact fin e1 h1 n1 hr a' g1 w' hE m1 f1 (k1.2 _ (Nat.le_refl _) m0)


/-- A function by its code as a loop. -/
noncomputable def goS (drop : Bool) (q : IC) (res : List RV) (F : FF) (args : L) (lim : Nat) (h : Hp) (n : Nat) : Res :=
  Bool.rec .no (runB drop q res F args n h n) (and (Nat.ble lim n) (Nat.ble args.length 4294967294))
theorem goS_mo (drop : Bool) (q : IC) (res : List RV) {F : FF} (hM : F.mono) : SMo (goS drop q res F) := fun args lim h n => by
  unfold goS
  cases and (Nat.ble lim n) (Nat.ble args.length 4294967294)
  · trivial
  · exact ge_runB hM _ _ _ _ _ _ _
theorem goS_ok {P : Program} (hP : P.follows .mixedOrders = true) {F : FF} (hF : FOK P F) (hM : F.mono) {f : Nat} {fn : Func} {c : Code} (hfn : P.funcs[f]? = some fn) (hnm : (fn.name == "runtime.NumGoroutine") = false) (hb : fn.body = some c) {dr : List Nat} {q : IC} {res : List RV}
    (hq : gC P dr fn.ntmps c = some q) (hres : compRVs P fn.results.toList = some res) (drop : Bool) : SOK P f (goS drop q res F) := fun args lim h n v h' n' hr => by
  unfold goS at hr
  cases hbb : and (Nat.ble lim n) (Nat.ble args.length 4294967294)
  · rw [hbb] at hr; cases hr
  · rw [hbb] at hr
    simp only [Bool.and_eq_true, Nat.ble_eq] at hbb
    intro vs g w ha hgk m hd hf hn
    refine ⟨⟨fn, hfn, hnm, by rw [hb]; rfl⟩, ?_⟩
    refine (runB_soundS hP hF hM hfn hb (gC_sound hP hF hM c q hq) hres drop hr (fun _ => rfl) ha hgk (by omega) m hd hf hn).mono ?_
    rintro e w' ⟨u, g', h1, h2, h3, h4⟩
    exact ⟨u, g', h1, h2, h3, h4.weak hbb.1⟩
end Go.Proofs.Ytkdbnhjipnnhjaa.Ev
/- A function with a goto, evaluated as a loop. -/
namespace Go.Proofs.Ytkdbnhjipnnhjaa.Ev
set_option linter.unusedVariables false
set_option maxRecDepth 100000
open Go Go.Proofs Go.RowKit
noncomputable def gb56 : Code := match Try.f56.body with | some b => b | _ => .skip
theorem ghb56 : Try.f56.body = some gb56 := by kernel_rfl
noncomputable def gq56 : IC := (.seq (.reg (.cons (some x1x) none (.box 61 (.t x0x)) (.cons (some x2x) none (.mv (.c .ns)) .nil))) (.seq (.reg (.cons (some x3x) none (.mv (.c .ns)) .nil)) (.loop (.seq (.reg 
  (.cons (some x9x) none (.ld 65 true (.t x1x)) (.cons (some x10x) none (.call 49 (.cons (.t x9x) .nil)) (.cons (some x8x) none (.mv (.t x10x)) (.cons (some x11x) none (.ext 0 (.t 
  x8x)) (.cons (some x12x) none (.ext 1 (.t x8x)) (.cons (some x4x) none (.alloc 83 (.cons (.n 0) (.cons (.n 0) (.cons (.n 0) .nil))) 3) (.cons none none (.st 3 (.t x4x) (.t x11x)) 
  (.cons (some x5x) none (.mv (.t x12x)) .nil))))))))) (.seq (.seq (.reg (.cons (some x13x) none (.mv (.t x5x)) (.cons (some x14x) none (.not (.t x13x)) .nil))) (.cond (.t x14x) 
  (.seq (.reg (.cons (some x15x) none (.mv (.t x3x)) (.cons (some x2x) none (.mv (.t x15x)) .nil))) .ret) .skip)) (.seq (.seq (.reg (.cons (some x16x) none (.ld 65 true (.t x1x)) 
  (.cons (some x17x) none (.ld 3 true (.t x4x)) (.cons (some x18x) none (.call 61 (.cons (.t x16x) (.cons (.t x17x) .nil))) (.cons (some x19x) none (.len (.t x18x)) (.cons (some 
  x20x) none (.mv (.c (.n 0))) .nil)))))) (.block 0 (.loop (.seq (.reg (.cons (some x21x) none (.bin .lss (.t x20x) (.t x19x)) .nil)) (.seq (.cond (.t x21x) .skip (.exit 0)) (.seq 
  (.block 1 (.seq (.reg (.cons (some x22x) none (.ixs 2 (.t x18x) (.t x20x)) (.cons (some x23x) none (.ld 2 true (.t x22x)) (.cons (some x7x) none (.alloc 66 (.cons (.n 0) (.cons 
  (.n 0) .nil)) 2) (.cons none none (.st 2 (.t x7x) (.t x23x)) .nil))))) (.seq (.reg (.cons (some x24x) none (.ixa 2 1 (.t x7x) (.c (.n 0))) (.cons (some x25x) none (.ld 1 false 
  (.t x24x)) (.cons (some x26x) none (.ixa 2 1 (.t x7x) (.c (.n 1))) (.cons (some x27x) none (.ld 1 false (.t x26x)) (.cons (some x28x) none (.call 55 (.cons (.t x1x) (.cons (.t 
  x25x) (.cons (.t x27x) .nil)))) .nil)))))) (.reg (.cons (some x29x) none (.mv (.t x3x)) (.cons (some x30x) none (.ld 2 true (.t x7x)) (.cons (some x31x) none (.bsl 66 2 1 (.cons 
  (.n 0) (.cons (.n 0) .nil)) (.cons 0 2 (.t x30x) .nil)) (.cons (some x32x) none (.app 66 2 16 (.t x29x) (.t x31x)) (.cons (some x3x) none (.mv (.t x32x)) .nil))))))))) (.reg 
  (.cons (some x33x) none (.bin .add (.t x20x) (.c (.n 1))) (.cons (some x20x) none (.mv (.t x33x)) .nil))))))))) .skip))))))
noncomputable def gr56 : List RV := [(.tmp x2x)]
theorem ghq56 : gC Try.prog drops Try.f56.ntmps gb56 = some gq56 := by kernel_rfl
theorem ghr56 : compRVs Try.prog Try.f56.results.toList = some gr56 := by kernel_rfl
theorem ghn56 : (Try.f56.name == "runtime.NumGoroutine") = false := by kernel_rfl
noncomputable def WG (G : FF) : FF := ov 56 (goS false gq56 gr56 (EF 60)) G
theorem WG_mono (G : FF) (h : G.mono) : (WG G).mono := ov_mono (goS_mo _ _ _ (EF_mono 60)) h
theorem WG_ok (G : FF) (h : FOK Try.prog G) : FOK Try.prog (WG G) := ov_ok (goS_ok follows (EF_ok 60) (EF_mono 60) Try.func56 ghn56 ghb56 ghq56 ghr56 false) h
noncomputable def EX (d : Nat) : FF := EQ WG d
theorem EX_ok (d : Nat) : FOK Try.prog (EX d) := EQ_ok WG_mono WG_ok d
theorem EX_mono (d : Nat) : (EX d).mono := EQ_mono WG_mono d
end Go.Proofs.Ytkdbnhjipnnhjaa.Ev
/- One answer for one list of plain arguments, evaluated once and then told. -/
namespace Go.Proofs.Ytkdbnhjipnnhjaa.Ev
set_option linter.unusedVariables false
open Go Go.Proofs Go.RowKit
noncomputable def spE (a : L) (x : V) (args : L) (_ : Nat) (h : Hp) (n : Nat) : Res := Bool.rec .no (.ok x h n) (eqL args a)
theorem spE_mo (a : L) (x : V) : SMo (spE a x) := fun args lim h n => by
  unfold spE
  cases eqL args a with
  | false => trivial
  | true => exact Nat.le_refl n
noncomputable def isX (x : V) (r : Res) : Bool := Res.rec false (fun v _ n => and (eqV v x) (Nat.blt n 9223372036854775808)) r
theorem isX_ok {x : V} {r : Res} (h : isX x r = true) : ∃ h' n', r = .ok x h' n' ∧ n' < 9223372036854775808 := by
  cases r with
  | no => cases h
  | ok v h' n' =>
    have h : and (eqV v x) (Nat.blt n' 9223372036854775808) = true := h
    simp only [Bool.and_eq_true, Nat.blt_eq] at h
    exact ⟨h', n', by rw [eqV_eq _ _ h.1], h.2⟩
theorem spE_ok {P : Program} {F : FF} (hF : FOK P F) {f : Nat} {a : L} {x : V} (hk : isX x (F f a 256 .lf 256) = true) (hpa : a.pur = true) (hpx : x.pur = true) : SOK P f (spE a x) := fun args lim h n v h' n' hr => by
  unfold spE at hr
  cases he : eqL args a with
  | false => rw [he] at hr; cases hr
  | true =>
    rw [he] at hr
    cases hr
    rw [eqL_eq _ _ he]
    obtain ⟨h1, n1, e1, e2⟩ := isX_ok hk
    exact callsAny rfl (hF.1 f a 256 .lf 256 x h1 n1 e1) e2 hpa hpx lim _ _
end Go.Proofs.Ytkdbnhjipnnhjaa.Ev
/- A stage of which some slots and the cells of some blocks are kept. -/
namespace Go.Proofs.Ytkdbnhjipnnhjaa.Ev
set_option linter.unusedVariables false
open Go Go.Proofs Go.RowKit
noncomputable def okB (el : TypeId) (l : L) (ob : Option Blk) : Bool := Option.rec false (fun b => and (Nat.beq b.el el) (and (Nat.ble l.length b.size) (eqL (b.getL 0 l.length) l))) ob
theorem okB_le {el : TypeId} {l : L} {ob : Option Blk} (h : okB el l ob = true) : ∃ b, ob = some b ∧ BlkLe (blkL el l) b := by
  cases ob with
  | none => cases h
  | some b =>
    have h : and (Nat.beq b.el el) (and (Nat.ble l.length b.size) (eqL (b.getL 0 l.length) l)) = true := h
    simp only [Bool.and_eq_true, Nat.beq_eq, Nat.ble_eq] at h
    refine ⟨b, rfl, .inl rfl, h.1.symm, h.2.1, fun k hk => .inr ?_⟩
    have hk : k < l.length := hk
    rw [blkL_cell el l k hk, ← eqL_eq _ _ h.2.2, getL_get b _ _ _ hk, Nat.zero_add]
noncomputable def hpC : List (Nat × TypeId × L) → Hp
  | [] => .lf
  | x :: l => (hpC l).put (some (blkL x.2.1 x.2.2)) (tp x.1)
noncomputable def okK (h : Hp) (bl : List (Nat × TypeId × L)) : Bool := List.rec true (fun x _ ih => and (okB x.2.1 x.2.2 (h.get (tp x.1))) ih) bl
theorem okK_le {h : Hp} : ∀ {l : List (Nat × TypeId × L)}, okK h l = true → HpLe (hpC l) h
  | [], _ => HpLe.lf h
  | x :: l, e => by
    have e : and (okB x.2.1 x.2.2 (h.get (tp x.1))) (okK h l) = true := e
    rw [Bool.and_eq_true] at e
    exact HpLe.put (okB_le e.1) (okK_le e.2)
noncomputable def obsC (m : Nat) (ts : List Nat) (bl : List (Nat × TypeId × L)) (r : Rs) : Bool × List V × Bool := (pcN m r, ts.map (fun t => (pcE r).get (tp t)), okK (pcH r) bl)
theorem JQ.stageC {P : Program} (hP : P.follows .mixedOrders = true) {dr : List Nat} {N lim n m : Nat} {F : FF} (hF : FOK P F) (hM : F.mono) {q qb : IC} (ps : List IC) {K : Rs → Prop} {e : Tr} {h : Hp} (l : List (Nat × V)) (bl : List (Nat × TypeId × L)) (hq : q = seqs ps qb)
    (hk : obsC m (l.map Prod.fst) bl (runP F lim m ps (.nor e h n)) = (true, l.map Prod.snd, true)) (hl : (l.all fun x => decide (x.1 < 4294967296)) = true) (hm : m < big)
    (j : JQ P dr N F qb lim K (mkE l) (hpC bl) m) : JQ P dr N F q lim K e h n := by
  subst hq
  unfold obsC at hk
  simp only [Prod.mk.injEq] at hk
  obtain ⟨h1, h2, h3⟩ := hk
  obtain ⟨n1, h4, h5⟩ := pcN_ok h1
  exact JQ.pieces hP hF hM hm h5 (JQ.later h5 (JQ.weak (mkE_le hl h2) (okK_le h3) j)) ps h4
/-! To look at places: numbers only. -/
noncomputable def pnV (v : V) : Nat := onS v (fun p _ _ _ _ => p.num) 0 (onP v (fun p _ => p.num) 0)
noncomputable def cellH (h : Hp) (v : V) (k : Nat) : V := onS v (fun p o _ _ _ => Option.rec .bad (fun b => Blk.cell b (Nat.add o k)) (h.get p)) .bad (onP v (fun p o => Option.rec .bad (fun b => Blk.cell b (Nat.add o k)) (h.get p)) .bad)
noncomputable def encN (l : List Nat) : Nat := List.rec 1 (fun x _ ih => Nat.add (Nat.mul ih 1000000) x) l
end Go.Proofs.Ytkdbnhjipnnhjaa.Ev
/- A stage of which whole blocks (tables) and the cells of others are kept; a loop whose rounds are evaluated one by one: the state ahead of each round is told. -/
namespace Go.Proofs.Ytkdbnhjipnnhjaa.Ev
set_option linter.unusedVariables false
open Go Go.Proofs Go.RowKit
noncomputable def hpX (h0 : Hp) : List (Nat × Blk) → Hp
  | [] => h0
  | x :: l => (hpX h0 l).put (some x.2) (tp x.1)
theorem hpX_le {h0 h : Hp} (hl : HpLe h0 h) : ∀ {l : List (Nat × Blk)}, (l.map fun x => h.get (tp x.1)) = (l.map fun x => some x.2) → HpLe (hpX h0 l) h
  | [], _ => hl
  | x :: l, e => by
    simp only [List.map_cons, List.cons.injEq] at e
    exact HpLe.put ⟨x.2, e.1, BlkLe.refl _⟩ (hpX_le hl e.2)
noncomputable def obsD (m : Nat) (ts ks : List Nat) (bl : List (Nat × TypeId × L)) (r : Rs) : Bool × List V × List (Option Blk) × Bool := (pcN m r, ts.map (fun t => (pcE r).get (tp t)), ks.map (fun k => (pcH r).get (tp k)), okK (pcH r) bl)
noncomputable def isD (l : List (Nat × V)) (tb : List (Nat × Blk)) : Bool × List V × List (Option Blk) × Bool := (true, l.map Prod.snd, tb.map (fun x => some x.2), true)
theorem JQ.stageD {P : Program} (hP : P.follows .mixedOrders = true) {dr : List Nat} {N lim n m : Nat} {F : FF} (hF : FOK P F) (hM : F.mono) {q qb : IC} (ps : List IC) {K : Rs → Prop} {e : Tr} {h : Hp} (l : List (Nat × V)) (tb : List (Nat × Blk)) (bl : List (Nat × TypeId × L)) (hq : q = seqs ps qb)
    (hk : obsD m (l.map Prod.fst) (tb.map Prod.fst) bl (runP F lim m ps (.nor e h n)) = isD l tb) (hl : (l.all fun x => decide (x.1 < 4294967296)) = true) (hm : m < big)
    (j : JQ P dr N F qb lim K (mkE l) (hpX (hpC bl) tb) m) : JQ P dr N F q lim K e h n := by
  subst hq
  unfold obsD isD at hk
  simp only [Prod.mk.injEq] at hk
  obtain ⟨h1, h2, h3, h4⟩ := hk
  obtain ⟨n1, h5, h6⟩ := pcN_ok h1
  rw [List.map_map] at h3
  exact JQ.pieces hP hF hM hm h6 (JQ.later h6 (JQ.weak (mkE_le hl h2) (hpX_le (okK_le h4) h3) j)) ps h5
theorem JQ.count {P : Program} (hP : P.follows .mixedOrders = true) {dr : List Nat} {N lim n : Nat} {F : FF} (hF : FOK P F) (hM : F.mono) {qb : IC} {K : Rs → Prop} {e : Tr} {h : Hp} (top : Nat) (env : Nat → Tr) (hp : Nat → Hp) (nn : Nat → Nat) (hnn : ∀ k, k ≤ top → nn k < big)
    (h0 : EnvLe (env 0) e) (h1 : HpLe (hp 0) h) (h2 : n ≤ nn 0)
    (rd : ∀ k, k < top → ∃ e' h' n', (kC qb nK).f F lim (env k) (hp k) (nn k) = .nor e' h' n' ∧ EnvLe (env (k + 1)) e' ∧ HpLe (hp (k + 1)) h' ∧ n' ≤ nn (k + 1))
    (hend : ∃ i e' h' n', (kC qb nK).f F lim (env top) (hp top) (nn top) = .ext i e' h' n' ∧ n' < big ∧ K (.ext i e' h' n')) : JQ P dr N F (.loop qb) lim K e h n := by
  refine JQ.loop (σ := Nat × Nat) (fun s => s.1 ≤ top ∧ s.2 ≤ nn s.1) (fun s => env s.1) (fun s => hp s.1) (fun s => s.2) (fun s => top + 1 - s.1) (0, n) ⟨Nat.zero_le _, h2⟩ h0 h1 rfl ?_
  rintro ⟨k, n1⟩ ⟨hk, hn1⟩
  have hk : k ≤ top := hk
  have hn1 : n1 ≤ nn k := hn1
  refine JQ.later hn1 (JQ.run hP hF hM ?_)
  rcases Nat.lt_or_eq_of_le hk with hlt | rfl
  · obtain ⟨e', h', n', h3, h4, h5, h6⟩ := rd k hlt
    rw [kC_eq, onC_nK] at h3
    show Got _ (evC qb F lim (env k) (hp k) (nn k))
    rw [h3]
    exact ⟨Nat.lt_of_le_of_lt h6 (hnn _ hlt), (k + 1, n'), ⟨hlt, h6⟩, by show top + 1 - (k + 1) < top + 1 - k; omega, h4, h5, rfl⟩
  · obtain ⟨i, e', h', n', h3, h4, h5⟩ := hend
    rw [kC_eq, onC_nK] at h3
    show Got _ (evC qb F lim (env k) (hp k) (nn k))
    rw [h3]
    exact ⟨h4, h5⟩
/-- A round that is evaluated. -/
noncomputable def rndB (m : Nat) (l : List (Nat × V)) (bl : List (Nat × TypeId × L)) (r : Rs) : Bool := and (pcN m r) (and (List.rec true (fun x _ ih => and (eqV ((pcE r).get (tp x.1)) x.2) ih) l) (okK (pcH r) bl))
theorem eqs_ok {e : Tr} : ∀ {l : List (Nat × V)}, (l.all fun x => decide (x.1 < 4294967296)) = true → (List.rec true (fun x _ ih => and (eqV (e.get (tp x.1)) x.2) ih) l : Bool) = true → EnvLe (mkE l) e
  | [], _, _ => EnvLe.lf e
  | (t, v) :: l, hl, h => by
    simp only [List.all_cons, Bool.and_eq_true, decide_eq_true_eq] at hl
    have h : and (eqV (e.get (tp t)) v) (List.rec true (fun x _ ih => and (eqV (e.get (tp x.1)) x.2) ih) l) = true := h
    rw [Bool.and_eq_true] at h
    exact EnvLe.set hl.1 (eqV_eq _ _ h.1) (eqs_ok hl.2 h.2)
theorem rndB_ok {m : Nat} {l : List (Nat × V)} {bl : List (Nat × TypeId × L)} {r : Rs} (hl : (l.all fun x => decide (x.1 < 4294967296)) = true) (h : rndB m l bl r = true) : ∃ e' h' n', r = .nor e' h' n' ∧ EnvLe (mkE l) e' ∧ HpLe (hpC bl) h' ∧ n' ≤ m := by
  unfold rndB at h
  rw [Bool.and_eq_true, Bool.and_eq_true] at h
  obtain ⟨n', h1, h2⟩ := pcN_ok h.1
  exact ⟨_, _, n', h1, eqs_ok hl h.2.1, okK_le h.2.2, h2⟩
/-- A loop's end that is evaluated. -/
noncomputable def isExt (i : Nat) (r : Rs) : Bool := Rs.rec false (fun _ _ _ => false) (fun j _ _ n => and (Nat.beq j i) (Nat.blt n 9223372036854775808)) (fun _ _ _ => false) r
noncomputable def exE (r : Rs) : Tr := Rs.rec (motive := fun _ => Tr) .lf (fun e _ _ => e) (fun _ e _ _ => e) (fun _ _ _ => .lf) r
noncomputable def exH (r : Rs) : Hp := Rs.rec (motive := fun _ => Hp) .lf (fun _ h _ => h) (fun _ _ h _ => h) (fun _ _ _ => .lf) r
noncomputable def exB (i m : Nat) (l : List (Nat × V)) (bl : List (Nat × TypeId × L)) (r : Rs) : Bool := Rs.rec false (fun _ _ _ => false) (fun j e h n => and (Nat.beq j i) (and (Nat.ble n m) (and (List.rec true (fun x _ ih => and (eqV (e.get (tp x.1)) x.2) ih) l) (okK h bl)))) (fun _ _ _ => false) r
theorem exB_ok {i m : Nat} {l : List (Nat × V)} {bl : List (Nat × TypeId × L)} {r : Rs} (hl : (l.all fun x => decide (x.1 < 4294967296)) = true) (h : exB i m l bl r = true) : ∃ e' h' n', r = .ext i e' h' n' ∧ EnvLe (mkE l) e' ∧ HpLe (hpC bl) h' ∧ n' ≤ m := by
  cases r with
  | ext j e h' n =>
    have h : and (Nat.beq j i) (and (Nat.ble n m) (and (List.rec true (fun x _ ih => and (eqV (e.get (tp x.1)) x.2) ih) l) (okK h' bl))) = true := h
    simp only [Bool.and_eq_true, Nat.beq_eq, Nat.ble_eq] at h
    exact ⟨e, h', n, by rw [h.1], eqs_ok hl h.2.2.1, okK_le h.2.2.2, h.2.1⟩
  | _ => cases h
end Go.Proofs.Ytkdbnhjipnnhjaa.Ev
/- works() of the quarrels, evaluated. -/
namespace Go.Proofs.Ytkdbnhjipnnhjaa.Ev
set_option linter.unusedVariables false
set_option maxRecDepth 100000
open Go Go.Proofs Go.RowKit
theorem works_eval : isX (.b true) (EX 60 11 .nil 256 .lf 256) = true := by kernel_rfl
noncomputable def WW (G : FF) : FF := ovF 11 (spE .nil (.b true)) (WG G)
noncomputable def EW (d : Nat) : FF := EQ WW d
theorem WW_mono (G : FF) (h : G.mono) : (WW G).mono := ovF_mono (spE_mo _ _) (WG_mono G h)
theorem WW_ok (G : FF) (h : FOK Try.prog G) : FOK Try.prog (WW G) := ovF_ok (spE_ok (EX_ok 60) works_eval rfl rfl) (WG_ok G h)
theorem EW_ok (d : Nat) : FOK Try.prog (EW d) := EQ_ok WW_mono WW_ok d
theorem EW_mono (d : Nat) : (EW d).mono := EQ_mono WW_mono d
end Go.Proofs.Ytkdbnhjipnnhjaa.Ev
/- QuarrelMost: numbers that are none: all functions answer with an error. -/
namespace Go.Proofs.Ytkdbnhjipnnhjaa.Ev
set_option linter.unusedVariables false
set_option linter.unusedSimpArgs false
set_option maxRecDepth 100000
open Go Go.Proofs Go.RowKit
attribute [local go_sem] evC_seq evC_reg evC_cond evC_block evC_skip evC_exit evC_ret evR_cons evR_nil evR_gd guardB_tt guardB_ff guardB_tf guardB_ft guardB_none bindR_ok bindR_okn rgRs_ok seqR_nor seqR_ext seqR_ret condR_true condR_false blockR_nor blockR_ext blockR_ret evX_t evX_c evXL_nil evXL_cons O_mv O_bin O_pick O_eqb O_not O_ext O_call O_conv O_slen O_six O_sbi pv_I pv_i pv_b pv_s pv_ns pv_sl pv_p pv_tu pv_ag bin_lss bin_leq bin_gtr bin_geq bin_eql bin_neq bin8_eql bin8_neq bin_add bin_sub bin_mul get_st get_lf bind_nil bind_cons if_true if_false Got_nor Got_ext Got_ret Kseq Kblk Klp Kend onStr_s onB_b onT_tu onI_I onN_I onK_I eqb_b not_b nthL_0 nthL_1 nthL_2 known_nil known_cons I_known known_b known_s evRVs_nil evRVs_cons evRes_1 evRes_2 evRV_tmp Bool.and_true Bool.true_and Bool.and_self Bool.not_true Bool.not_false decide_true decide_false Int.toNat_natCast true_and and_true big hget_same hget_ne newB_n onP_p onS_sl onS_ns O_fad O_alloc_if O_ixs O_len O_ld O_st O_box boxB_if ldB_if ldB_agif stB_if stB_wif toL_I toL_i toL_b toL_s toL_sl toL_ns toL_ag allC_nil allC_cons isC_i isC_b isC_s isC_sl isC_ns I_isC Llen_nil Llen_cons Lget_0 Lget_1 Lget_2 Lget_3 blkL_size cell_blkL_if getL_blkL_if getL_setL_if setL_sz evRV_cell' rvB_agif rvB_if evPL_cons bldK_if evPL_nil O_build O_part evBuild_ok okL_some onA_ag partV_1 evPart_eq updS_nil updS_cons upd_0 upd_1 upd_2 upd_3 ge_iff_le if_pos and_self Nat.le_refl known_ag known_sl known_ns known_i ov_at spS_eq spSI_eq spSII_eq spI_eq spII_eq spIII_eq spIIII_eq res_v res_sl res_slE Good I_pur pur_b pur_s pur_i pur_ns pur_ag pur_tu purL_nil purL_cons evDr_eq evDs_nil evDs_cons dsR_ok stepD_eq sdB_n sdB_g sdG_tt sdG_ff sdG_tf sdG_ft sdG_none runD_0 rdR_f rdR_t baseOf_pu baseOf_h baseU_nil baseA_nil baseA_0 baseR_nil baseR_0 baseR_00 appAll_nil appAll_0 restr_nil restr_cons setD_some setD_none evC_draw iL_len iL_get iL_allC iL_pur hp0_0 hp0_c rdL_ns rdL_sl List.length_cons List.length_nil O_mks mkB_if O_bsl bslB_if O_app apX_ns apX_sl apN_some apS_some blkL_el Nat.one_mul Nat.mul_one Nat.zero_add n_I onF_fn O_callv app_nil app_cons spLF_eq spL_eq spLL_eq onL_some onLL_ss onLL_ns onLL_sn onLL_nn rdB_blk Int.cast_ofNat_Int tlX_none tlX_some tlOf_cons tlOf_1 tlOf_1t tlM_none tlM_some
noncomputable def q25 : IC := (.seq (.reg (.cons (some (tp 2)) none (.mv (.c (.b false))) .nil)) (.seq (.reg (.cons (some (tp 3)) none (.mv (.t (tp 0))) (.cons (some (tp 4)) none (.bin .geq (.t (tp 3)) (.c (I 
  1))) (.cons (some (tp 5)) none (.mv (.t (tp 4))) (.cons (some (tp 6)) (some (.mk (tp 5) true)) (.mv (.t (tp 0))) (.cons (some (tp 7)) (some (.mk (tp 5) true)) (.bin .leq (.t (tp 
  6)) (.c (I 8))) (.cons (some (tp 8)) none (.pick (.t (tp 5)) (.t (tp 7)) (.c (.b false))) (.cons (some (tp 2)) none (.mv (.t (tp 8))) .nil)))))))) .ret))
noncomputable def res25 : List RV := [(.tmp (tp 2))]
noncomputable def c25c : Code := match Try.f25.body with | some c => c | none => .skip
theorem b25 : Try.f25.body = some c25c := by kernel_rfl
theorem k25 : compC Try.prog drops Try.f25.ntmps c25c = some q25 := by kernel_rfl
theorem r25 : compRVs Try.prog Try.f25.results.toList = some res25 := by kernel_rfl
theorem n25 : (Try.f25.name == "runtime.NumGoroutine") = false := by kernel_rfl
noncomputable def q28 : IC := (.seq (.reg (.cons (some (tp 6)) none (.mv (.c (.b false))) .nil)) (.seq (.reg (.cons (some (tp 7)) none (.mv (.t (tp 0))) (.cons (some (tp 8)) none (.mv (.t (tp 1))) (.cons (some 
  (tp 9)) none (.bin .geq (.t (tp 7)) (.t (tp 8))) (.cons (some (tp 10)) none (.mv (.t (tp 9))) (.cons (some (tp 11)) (some (.mk (tp 10) true)) (.mv (.t (tp 0))) (.cons (some (tp 
  12)) (some (.mk (tp 10) true)) (.mv (.t (tp 2))) (.cons (some (tp 13)) (some (.mk (tp 10) true)) (.bin .leq (.t (tp 11)) (.t (tp 12))) (.cons (some (tp 14)) none (.pick (.t (tp 
  10)) (.t (tp 13)) (.c (.b false))) (.cons (some (tp 6)) none (.mv (.t (tp 14))) .nil)))))))))) .ret))
noncomputable def res28 : List RV := [(.tmp (tp 6))]
noncomputable def c28c : Code := match Try.f28.body with | some c => c | none => .skip
theorem b28 : Try.f28.body = some c28c := by kernel_rfl
theorem k28 : compC Try.prog drops Try.f28.ntmps c28c = some q28 := by kernel_rfl
theorem r28 : compRVs Try.prog Try.f28.results.toList = some res28 := by kernel_rfl
theorem n28 : (Try.f28.name == "runtime.NumGoroutine") = false := by kernel_rfl
noncomputable def q6 : IC := (.seq (.reg (.cons (some (tp 4)) none (.mv (.c (I 0))) (.cons (some (tp 5)) none (.mv (.c (I 0))) .nil))) (.seq (.seq (.reg (.cons (some (tp 6)) none (.mv (.t (tp 0))) (.cons (some 
  (tp 7)) none (.call 25 (.cons (.t (tp 6)) .nil)) (.cons (some (tp 8)) none (.not (.t (tp 7))) (.cons (some (tp 9)) none (.mv (.t (tp 8))) (.cons (some (tp 10)) (some (.mk (tp 9) 
  false)) (.mv (.t (tp 1))) (.cons (some (tp 11)) (some (.mk (tp 9) false)) (.call 25 (.cons (.t (tp 10)) .nil)) (.cons (some (tp 12)) (some (.mk (tp 9) false)) (.not (.t (tp 11))) 
  (.cons (some (tp 13)) none (.pick (.t (tp 9)) (.c (.b true)) (.t (tp 12))) .nil))))))))) (.cond (.t (tp 13)) (.seq (.reg (.cons (some (tp 4)) none (.mv (.c (I 0))) (.cons (some 
  (tp 5)) none (.mv (.c (I 1))) .nil))) .ret) .skip)) (.seq (.reg (.cons (some (tp 14)) none (.mv (.t (tp 0))) (.cons (some (tp 15)) none (.mv (.t (tp 1))) (.cons (some (tp 16)) 
  none (.call 26 (.cons (.t (tp 14)) (.cons (.t (tp 15)) .nil))) (.cons (some (tp 17)) none (.call 27 (.cons (.t (tp 16)) .nil)) (.cons (some (tp 4)) none (.mv (.t (tp 17))) (.cons 
  (some (tp 5)) none (.mv (.c (I 0))) .nil))))))) .ret)))
noncomputable def res6 : List RV := [(.tmp (tp 4)), (.tmp (tp 5))]
noncomputable def c6c : Code := match Try.f6.body with | some c => c | none => .skip
theorem b6 : Try.f6.body = some c6c := by kernel_rfl
theorem k6 : compC Try.prog drops Try.f6.ntmps c6c = some q6 := by kernel_rfl
theorem r6 : compRVs Try.prog Try.f6.results.toList = some res6 := by kernel_rfl
theorem n6 : (Try.f6.name == "runtime.NumGoroutine") = false := by kernel_rfl
noncomputable def q7 : IC := (.seq (.reg (.cons (some (tp 4)) none (.mv (.c (I 0))) (.cons (some (tp 5)) none (.mv (.c (I 0))) .nil))) (.seq (.seq (.reg (.cons (some (tp 6)) none (.mv (.t (tp 0))) (.cons (some 
  (tp 7)) none (.call 28 (.cons (.t (tp 6)) (.cons (.c (I 1)) (.cons (.c (I 8)) .nil)))) (.cons (some (tp 8)) none (.not (.t (tp 7))) (.cons (some (tp 9)) none (.mv (.t (tp 8))) 
  (.cons (some (tp 10)) (some (.mk (tp 9) false)) (.mv (.t (tp 1))) (.cons (some (tp 11)) (some (.mk (tp 9) false)) (.call 28 (.cons (.t (tp 10)) (.cons (.c (I 1)) (.cons (.c (I 
  8)) .nil)))) (.cons (some (tp 12)) (some (.mk (tp 9) false)) (.not (.t (tp 11))) (.cons (some (tp 13)) none (.pick (.t (tp 9)) (.c (.b true)) (.t (tp 12))) .nil))))))))) (.cond 
  (.t (tp 13)) (.seq (.reg (.cons (some (tp 4)) none (.mv (.c (I 0))) (.cons (some (tp 5)) none (.mv (.c (I 1))) .nil))) .ret) .skip)) (.seq (.reg (.cons (some (tp 14)) none (.mv 
  (.t (tp 0))) (.cons (some (tp 15)) none (.mv (.t (tp 1))) (.cons (some (tp 16)) none (.call 29 (.cons (.t (tp 14)) (.cons (.t (tp 15)) .nil))) (.cons (some (tp 17)) none (.part 1 
  1 false (.t (tp 16))) (.cons (some (tp 18)) none (.len (.t (tp 17))) (.cons (some (tp 4)) none (.mv (.t (tp 18))) (.cons (some (tp 5)) none (.mv (.c (I 0))) .nil)))))))) .ret)))
noncomputable def res7 : List RV := [(.tmp (tp 4)), (.tmp (tp 5))]
noncomputable def c7c : Code := match Try.f7.body with | some c => c | none => .skip
theorem b7 : Try.f7.body = some c7c := by kernel_rfl
theorem k7 : compC Try.prog drops Try.f7.ntmps c7c = some q7 := by kernel_rfl
theorem r7 : compRVs Try.prog Try.f7.results.toList = some res7 := by kernel_rfl
theorem n7 : (Try.f7.name == "runtime.NumGoroutine") = false := by kernel_rfl
noncomputable def q8 : IC := (.seq (.reg (.cons (some (tp 4)) none (.alloc 27 (.cons (I 0) (.cons .ns .nil)) 2) (.cons (some (tp 5)) none (.mv (.c (I 0))) .nil))) (.seq (.seq (.reg (.cons (some (tp 6)) none 
  (.mv (.t (tp 0))) (.cons (some (tp 7)) none (.call 25 (.cons (.t (tp 6)) .nil)) (.cons (some (tp 8)) none (.not (.t (tp 7))) (.cons (some (tp 9)) none (.mv (.t (tp 8))) (.cons 
  (some (tp 10)) (some (.mk (tp 9) false)) (.mv (.t (tp 1))) (.cons (some (tp 11)) (some (.mk (tp 9) false)) (.call 25 (.cons (.t (tp 10)) .nil)) (.cons (some (tp 12)) (some (.mk 
  (tp 9) false)) (.not (.t (tp 11))) (.cons (some (tp 13)) none (.pick (.t (tp 9)) (.c (.b true)) (.t (tp 12))) .nil))))))))) (.cond (.t (tp 13)) (.seq (.reg (.cons (some (tp 14)) 
  none (.build (.cons (I 0) (.cons .ns .nil)) .nil) (.cons none none (.st 2 (.t (tp 4)) (.t (tp 14))) (.cons (some (tp 5)) none (.mv (.c (I 1))) .nil)))) .ret) .skip)) (.seq (.reg 
  (.cons (some (tp 15)) none (.mv (.t (tp 0))) (.cons (some (tp 16)) none (.mv (.t (tp 1))) (.cons (some (tp 17)) none (.call 26 (.cons (.t (tp 15)) (.cons (.t (tp 16)) .nil))) 
  (.cons (some (tp 18)) none (.call 30 (.cons (.t (tp 17)) .nil)) (.cons none none (.st 2 (.t (tp 4)) (.t (tp 18))) (.cons (some (tp 5)) none (.mv (.c (I 0))) .nil))))))) .ret)))
noncomputable def res8 : List RV := [(.cell (tp 4) 2 true), (.tmp (tp 5))]
noncomputable def c8c : Code := match Try.f8.body with | some c => c | none => .skip
theorem b8 : Try.f8.body = some c8c := by kernel_rfl
theorem k8 : compC Try.prog drops Try.f8.ntmps c8c = some q8 := by kernel_rfl
theorem r8 : compRVs Try.prog Try.f8.results.toList = some res8 := by kernel_rfl
theorem n8 : (Try.f8.name == "runtime.NumGoroutine") = false := by kernel_rfl
noncomputable def q9 : IC := (.seq (.reg (.cons (some (tp 4)) none (.alloc 30 (.cons (I 0) (.cons .ns .nil)) 2) (.cons (some (tp 5)) none (.mv (.c (I 0))) .nil))) (.seq (.seq (.reg (.cons (some (tp 6)) none 
  (.mv (.t (tp 0))) (.cons (some (tp 7)) none (.call 28 (.cons (.t (tp 6)) (.cons (.c (I 1)) (.cons (.c (I 8)) .nil)))) (.cons (some (tp 8)) none (.not (.t (tp 7))) (.cons (some 
  (tp 9)) none (.mv (.t (tp 8))) (.cons (some (tp 10)) (some (.mk (tp 9) false)) (.mv (.t (tp 1))) (.cons (some (tp 11)) (some (.mk (tp 9) false)) (.call 28 (.cons (.t (tp 10)) 
  (.cons (.c (I 1)) (.cons (.c (I 8)) .nil)))) (.cons (some (tp 12)) (some (.mk (tp 9) false)) (.not (.t (tp 11))) (.cons (some (tp 13)) none (.pick (.t (tp 9)) (.c (.b true)) (.t 
  (tp 12))) .nil))))))))) (.cond (.t (tp 13)) (.seq (.reg (.cons (some (tp 14)) none (.build (.cons (I 0) (.cons .ns .nil)) .nil) (.cons none none (.st 2 (.t (tp 4)) (.t (tp 14))) 
  (.cons (some (tp 5)) none (.mv (.c (I 1))) .nil)))) .ret) .skip)) (.seq (.reg (.cons (some (tp 15)) none (.mv (.t (tp 0))) (.cons (some (tp 16)) none (.mv (.t (tp 1))) (.cons 
  (some (tp 17)) none (.call 29 (.cons (.t (tp 15)) (.cons (.t (tp 16)) .nil))) (.cons none none (.st 2 (.t (tp 4)) (.t (tp 17))) (.cons (some (tp 5)) none (.mv (.c (I 0))) 
  .nil)))))) .ret)))
noncomputable def res9 : List RV := [(.cell (tp 4) 2 true), (.tmp (tp 5))]
noncomputable def c9c : Code := match Try.f9.body with | some c => c | none => .skip
theorem b9 : Try.f9.body = some c9c := by kernel_rfl
theorem k9 : compC Try.prog drops Try.f9.ntmps c9c = some q9 := by kernel_rfl
theorem r9 : compRVs Try.prog Try.f9.results.toList = some res9 := by kernel_rfl
theorem n9 : (Try.f9.name == "runtime.NumGoroutine") = false := by kernel_rfl
def bad (z c : Int) : Prop := z < 1 ∨ 8 < z ∨ c < 1 ∨ 8 < c
instance (z c : Int) : Decidable (bad z c) := by unfold bad; infer_instance
noncomputable def v01 : V := .tu (.cons (I 0) (.cons (I 1) .nil))
noncomputable def vh1 : V := .tu (.cons (.ag (.cons (I 0) (.cons .ns .nil))) (.cons (I 1) .nil))
noncomputable def fo2 (x : V) (z c : Int) : Out := if bad z c then .v x else .no
theorem fo2_out {x : V} {z c : Int} (h : bad z c) : fo2 x z c = .v x := if_pos h
noncomputable def s25 (z : Int) : Out := .v (.b (decide (1 ≤ z) && decide (z ≤ 8)))
noncomputable def s28 (z lo hi : Int) : Out := .v (.b (decide (lo ≤ z) && decide (z ≤ hi)))
theorem run25 (z : Int) : JQ Try.prog drops Try.f25.ntmps F0 q25 256 (Kend res25 (Good 0 (.v (.b (decide (1 ≤ z) && decide (z ≤ 8)))))) (bind (.cons (I z) .nil) 0 .lf) .lf 256 := by
  have hF := F0_ok Try.prog
  have hM := F0_mono
  unfold q25
  (refine JQ.step follows hF hM ?_; simp (config := { maxSteps := 4000000 }) (disch := (omega)) only [go_sem, Nat.reduceLT, Nat.reduceEqDiff, reduceIte, Nat.reduceAdd, Nat.reduceSub, Nat.reduceLeDiff, Int.reduceEq, Int.reduceLT, Int.reduceLE, Int.reduceNeg, Int.reduceAdd, Int.reduceSub, Int.reduceToNat, Int.reduceMul, Nat.reduceMul])
  by_cases h1 : 1 ≤ z
  · (refine JQ.run follows hF hM ?_; simp (config := { maxSteps := 4000000 }) (disch := (omega)) only [go_sem, Nat.reduceLT, Nat.reduceEqDiff, reduceIte, Nat.reduceAdd, Nat.reduceSub, Nat.reduceLeDiff, Int.reduceEq, Int.reduceLT, Int.reduceLE, Int.reduceNeg, Int.reduceAdd, Int.reduceSub, Int.reduceToNat, Int.reduceMul, Nat.reduceMul, h1, res25])
  · (refine JQ.run follows hF hM ?_; simp (config := { maxSteps := 4000000 }) (disch := (omega)) only [go_sem, Nat.reduceLT, Nat.reduceEqDiff, reduceIte, Nat.reduceAdd, Nat.reduceSub, Nat.reduceLeDiff, Int.reduceEq, Int.reduceLT, Int.reduceLE, Int.reduceNeg, Int.reduceAdd, Int.reduceSub, Int.reduceToNat, Int.reduceMul, Nat.reduceMul, h1, res25, Bool.false_and])
theorem ok25 : SOK Try.prog 25 (spI s25) := spI_ok fun z lim h n v h' n' hr => outC Try.func25 n25 b25 k25 r25 (Ins.none h) (by simp [L.length]) (ren_nil_rel (by simp [L.pur, I_pur])) (.v (.b (decide (1 ≤ z) && decide (z ≤ 8)))) rfl (run25 z) lim n hr
theorem run28 (z lo hi : Int) : JQ Try.prog drops Try.f28.ntmps F0 q28 256 (Kend res28 (Good 0 (.v (.b (decide (lo ≤ z) && decide (z ≤ hi)))))) (bind (.cons (I z) (.cons (I lo) (.cons (I hi) .nil))) 0 .lf) .lf 256 := by
  have hF := F0_ok Try.prog
  have hM := F0_mono
  unfold q28
  (refine JQ.step follows hF hM ?_; simp (config := { maxSteps := 4000000 }) (disch := (omega)) only [go_sem, Nat.reduceLT, Nat.reduceEqDiff, reduceIte, Nat.reduceAdd, Nat.reduceSub, Nat.reduceLeDiff, Int.reduceEq, Int.reduceLT, Int.reduceLE, Int.reduceNeg, Int.reduceAdd, Int.reduceSub, Int.reduceToNat, Int.reduceMul, Nat.reduceMul])
  by_cases h1 : lo ≤ z
  · (refine JQ.run follows hF hM ?_; simp (config := { maxSteps := 4000000 }) (disch := (omega)) only [go_sem, Nat.reduceLT, Nat.reduceEqDiff, reduceIte, Nat.reduceAdd, Nat.reduceSub, Nat.reduceLeDiff, Int.reduceEq, Int.reduceLT, Int.reduceLE, Int.reduceNeg, Int.reduceAdd, Int.reduceSub, Int.reduceToNat, Int.reduceMul, Nat.reduceMul, h1, res28])
  · (refine JQ.run follows hF hM ?_; simp (config := { maxSteps := 4000000 }) (disch := (omega)) only [go_sem, Nat.reduceLT, Nat.reduceEqDiff, reduceIte, Nat.reduceAdd, Nat.reduceSub, Nat.reduceLeDiff, Int.reduceEq, Int.reduceLT, Int.reduceLE, Int.reduceNeg, Int.reduceAdd, Int.reduceSub, Int.reduceToNat, Int.reduceMul, Nat.reduceMul, h1, res28, Bool.false_and])
theorem ok28 : SOK Try.prog 28 (spIII s28) := spIII_ok fun z lo hi lim h n v h' n' hr => outC Try.func28 n28 b28 k28 r28 (Ins.none h) (by simp [L.length]) (ren_nil_rel (by simp [L.pur, I_pur])) (.v (.b (decide (lo ≤ z) && decide (z ≤ hi)))) rfl (run28 z lo hi) lim n hr
noncomputable def FO1 : FF := ov 25 (spI s25) (ov 28 (spIII s28) F0)
theorem FO1_ok : FOK Try.prog FO1 := ov_ok ok25 (ov_ok ok28 (F0_ok _))
theorem FO1_mono : FO1.mono := ov_mono (spI_mo _) (ov_mono (spIII_mo _) F0_mono)
theorem bad_cases {z c : Int} (h : bad z c) : (decide ((1 : Int) ≤ z) && decide (z ≤ 8)) = false ∨ ((decide ((1 : Int) ≤ z) && decide (z ≤ 8)) = true ∧ (decide ((1 : Int) ≤ c) && decide (c ≤ 8)) = false) := by
  unfold bad at h
  by_cases hz : 1 ≤ z ∧ z ≤ 8
  · exact .inr ⟨by simp; omega, by simp; omega⟩
  · exact .inl (by simp; omega)
theorem okO2 {k : Nat} {x : V} (hrun : ∀ z c : Int, bad z c → ∀ lim h n v h' n', (Out.v x).res h n = .ok v h' n' → CallsOK Try.prog k (.cons (I z) (.cons (I c) .nil)) lim h n v h' n') : SOK Try.prog k (spII (fo2 x)) := spII_ok fun z c lim h n v h' n' hr => by
  unfold fo2 at hr
  split at hr
  · rename_i hz; exact hrun z c hz lim h n v h' n' hr
  · cases hr
theorem run6 (z c : Int) (hb : bad z c) : JQ Try.prog drops Try.f6.ntmps FO1 q6 256 (Kend res6 (Good 0 (.v v01))) (bind (.cons (I z) (.cons (I c) .nil)) 0 .lf) .lf 256 := by
  have hF := FO1_ok
  have hM := FO1_mono
  unfold q6 v01
  rcases bad_cases hb with hz | ⟨hz, hc⟩
  · (refine JQ.run follows hF hM ?_; simp (config := { maxSteps := 4000000 }) (disch := (omega)) only [go_sem, Nat.reduceLT, Nat.reduceEqDiff, reduceIte, Nat.reduceAdd, Nat.reduceSub, Nat.reduceLeDiff, Int.reduceEq, Int.reduceLT, Int.reduceLE, Int.reduceNeg, Int.reduceAdd, Int.reduceSub, Int.reduceToNat, Int.reduceMul, Nat.reduceMul, FO1, s25, s28, hz, res6])
  · (refine JQ.run follows hF hM ?_; simp (config := { maxSteps := 4000000 }) (disch := (omega)) only [go_sem, Nat.reduceLT, Nat.reduceEqDiff, reduceIte, Nat.reduceAdd, Nat.reduceSub, Nat.reduceLeDiff, Int.reduceEq, Int.reduceLT, Int.reduceLE, Int.reduceNeg, Int.reduceAdd, Int.reduceSub, Int.reduceToNat, Int.reduceMul, Nat.reduceMul, FO1, s25, s28, hz, hc, res6])
theorem ok6 : SOK Try.prog 6 (spII (fo2 v01)) := okO2 fun z c hz lim h n v h' n' hr => outC Try.func6 n6 b6 k6 r6 (Ins.none h) (by simp [L.length]) (ren_nil_rel (by simp [L.pur, I_pur])) (.v v01) rfl (run6 z c hz) lim n hr
theorem run7 (z c : Int) (hb : bad z c) : JQ Try.prog drops Try.f7.ntmps FO1 q7 256 (Kend res7 (Good 0 (.v v01))) (bind (.cons (I z) (.cons (I c) .nil)) 0 .lf) .lf 256 := by
  have hF := FO1_ok
  have hM := FO1_mono
  unfold q7 v01
  rcases bad_cases hb with hz | ⟨hz, hc⟩
  · (refine JQ.run follows hF hM ?_; simp (config := { maxSteps := 4000000 }) (disch := (omega)) only [go_sem, Nat.reduceLT, Nat.reduceEqDiff, reduceIte, Nat.reduceAdd, Nat.reduceSub, Nat.reduceLeDiff, Int.reduceEq, Int.reduceLT, Int.reduceLE, Int.reduceNeg, Int.reduceAdd, Int.reduceSub, Int.reduceToNat, Int.reduceMul, Nat.reduceMul, FO1, s25, s28, hz, res7])
  · (refine JQ.run follows hF hM ?_; simp (config := { maxSteps := 4000000 }) (disch := (omega)) only [go_sem, Nat.reduceLT, Nat.reduceEqDiff, reduceIte, Nat.reduceAdd, Nat.reduceSub, Nat.reduceLeDiff, Int.reduceEq, Int.reduceLT, Int.reduceLE, Int.reduceNeg, Int.reduceAdd, Int.reduceSub, Int.reduceToNat, Int.reduceMul, Nat.reduceMul, FO1, s25, s28, hz, hc, res7])
theorem ok7 : SOK Try.prog 7 (spII (fo2 v01)) := okO2 fun z c hz lim h n v h' n' hr => outC Try.func7 n7 b7 k7 r7 (Ins.none h) (by simp [L.length]) (ren_nil_rel (by simp [L.pur, I_pur])) (.v v01) rfl (run7 z c hz) lim n hr
theorem run8 (z c : Int) (hb : bad z c) : JQ Try.prog drops Try.f8.ntmps FO1 q8 256 (Kend res8 (Good 0 (.v vh1))) (bind (.cons (I z) (.cons (I c) .nil)) 0 .lf) .lf 256 := by
  have hF := FO1_ok
  have hM := FO1_mono
  unfold q8 vh1
  rcases bad_cases hb with hz | ⟨hz, hc⟩
  · (refine JQ.run follows hF hM ?_; simp (config := { maxSteps := 4000000 }) (disch := (omega)) only [go_sem, Nat.reduceLT, Nat.reduceEqDiff, reduceIte, Nat.reduceAdd, Nat.reduceSub, Nat.reduceLeDiff, Int.reduceEq, Int.reduceLT, Int.reduceLE, Int.reduceNeg, Int.reduceAdd, Int.reduceSub, Int.reduceToNat, Int.reduceMul, Nat.reduceMul, FO1, s25, s28, hz, res8])
  · (refine JQ.run follows hF hM ?_; simp (config := { maxSteps := 4000000 }) (disch := (omega)) only [go_sem, Nat.reduceLT, Nat.reduceEqDiff, reduceIte, Nat.reduceAdd, Nat.reduceSub, Nat.reduceLeDiff, Int.reduceEq, Int.reduceLT, Int.reduceLE, Int.reduceNeg, Int.reduceAdd, Int.reduceSub, Int.reduceToNat, Int.reduceMul, Nat.reduceMul, FO1, s25, s28, hz, hc, res8])
theorem ok8 : SOK Try.prog 8 (spII (fo2 vh1)) := okO2 fun z c hz lim h n v h' n' hr => outC Try.func8 n8 b8 k8 r8 (Ins.none h) (by simp [L.length]) (ren_nil_rel (by simp [L.pur, I_pur])) (.v vh1) rfl (run8 z c hz) lim n hr
theorem run9 (z c : Int) (hb : bad z c) : JQ Try.prog drops Try.f9.ntmps FO1 q9 256 (Kend res9 (Good 0 (.v vh1))) (bind (.cons (I z) (.cons (I c) .nil)) 0 .lf) .lf 256 := by
  have hF := FO1_ok
  have hM := FO1_mono
  unfold q9 vh1
  rcases bad_cases hb with hz | ⟨hz, hc⟩
  · (refine JQ.run follows hF hM ?_; simp (config := { maxSteps := 4000000 }) (disch := (omega)) only [go_sem, Nat.reduceLT, Nat.reduceEqDiff, reduceIte, Nat.reduceAdd, Nat.reduceSub, Nat.reduceLeDiff, Int.reduceEq, Int.reduceLT, Int.reduceLE, Int.reduceNeg, Int.reduceAdd, Int.reduceSub, Int.reduceToNat, Int.reduceMul, Nat.reduceMul, FO1, s25, s28, hz, res9])
  · (refine JQ.run follows hF hM ?_; simp (config := { maxSteps := 4000000 }) (disch := (omega)) only [go_sem, Nat.reduceLT, Nat.reduceEqDiff, reduceIte, Nat.reduceAdd, Nat.reduceSub, Nat.reduceLeDiff, Int.reduceEq, Int.reduceLT, Int.reduceLE, Int.reduceNeg, Int.reduceAdd, Int.reduceSub, Int.reduceToNat, Int.reduceMul, Nat.reduceMul, FO1, s25, s28, hz, hc, res9])
theorem ok9 : SOK Try.prog 9 (spII (fo2 vh1)) := okO2 fun z c hz lim h n v h' n' hr => outC Try.func9 n9 b9 k9 r9 (Ins.none h) (by simp [L.length]) (ren_nil_rel (by simp [L.pur, I_pur])) (.v vh1) rfl (run9 z c hz) lim n hr
end Go.Proofs.Ytkdbnhjipnnhjaa.Ev
/- QuarrelMost: the law's code, and numbers that are none. -/
namespace Go.Proofs.Ytkdbnhjipnnhjaa.Ev
set_option linter.unusedVariables false
set_option maxRecDepth 100000
open Go Go.Proofs Go.RowKit
attribute [local go_sem] evC_seq evC_reg evC_cond evC_block evC_skip evC_exit evC_ret evR_cons evR_nil evR_gd guardB_tt guardB_ff guardB_tf guardB_ft guardB_none bindR_ok bindR_okn rgRs_ok seqR_nor seqR_ext seqR_ret condR_true condR_false blockR_nor blockR_ext blockR_ret evX_t evX_c evXL_nil evXL_cons O_mv O_bin O_pick O_eqb O_not O_ext O_call O_conv O_slen O_six O_sbi pv_I pv_i pv_b pv_s pv_ns pv_sl pv_p pv_tu pv_ag bin_lss bin_leq bin_gtr bin_geq bin_eql bin_neq bin8_eql bin8_neq bin_add bin_sub bin_mul get_st get_lf bind_nil bind_cons if_true if_false Got_nor Got_ext Got_ret Kseq Kblk Klp Kend onStr_s onB_b onT_tu onI_I onN_I onK_I eqb_b not_b nthL_0 nthL_1 nthL_2 known_nil known_cons I_known known_b known_s evRVs_nil evRVs_cons evRes_1 evRes_2 evRV_tmp Bool.and_true Bool.true_and Bool.and_self Bool.not_true Bool.not_false decide_true decide_false Int.toNat_natCast true_and and_true big hget_same hget_ne newB_n onP_p onS_sl onS_ns O_fad O_alloc_if O_ixs O_len O_ld O_st O_box boxB_if ldB_if ldB_agif stB_if stB_wif toL_I toL_i toL_b toL_s toL_sl toL_ns toL_ag allC_nil allC_cons isC_i isC_b isC_s isC_sl isC_ns I_isC Llen_nil Llen_cons Lget_0 Lget_1 Lget_2 Lget_3 blkL_size cell_blkL_if getL_blkL_if getL_setL_if setL_sz evRV_cell' rvB_agif rvB_if evPL_cons bldK_if evPL_nil O_build O_part evBuild_ok okL_some onA_ag partV_1 evPart_eq updS_nil updS_cons upd_0 upd_1 upd_2 upd_3 ge_iff_le if_pos and_self Nat.le_refl known_ag known_sl known_ns known_i ov_at spS_eq spSI_eq spSII_eq spI_eq spII_eq spIII_eq spIIII_eq res_v res_sl res_slE Good I_pur pur_b pur_s pur_i pur_ns pur_ag pur_tu purL_nil purL_cons evDr_eq evDs_nil evDs_cons dsR_ok stepD_eq sdB_n sdB_g sdG_tt sdG_ff sdG_tf sdG_ft sdG_none runD_0 rdR_f rdR_t baseOf_pu baseOf_h baseU_nil baseA_nil baseA_0 baseR_nil baseR_0 baseR_00 appAll_nil appAll_0 restr_nil restr_cons setD_some setD_none evC_draw iL_len iL_get iL_allC iL_pur hp0_0 hp0_c rdL_ns rdL_sl List.length_cons List.length_nil O_mks mkB_if O_bsl bslB_if O_app apX_ns apX_sl apN_some apS_some blkL_el Nat.one_mul Nat.mul_one Nat.zero_add n_I onF_fn O_callv app_nil app_cons spLF_eq spL_eq spLL_eq onL_some onLL_ss onLL_ns onLL_sn onLL_nn rdB_blk Int.cast_ofNat_Int tlX_none tlX_some tlOf_cons tlOf_1 tlOf_1t tlM_none tlM_some
noncomputable def i3 : FnI := (.mk true true (.seq (.reg (.cons (some x4x) none (.mv (.c (.b false))) .nil)) (.seq (.reg (.cons (some x14x) none (.mv (.t x0x)) (.cons (some x15x) none (.mv (.t x1x)) (.cons 
  (some x16x) none (.call 6 (.cons (.t x14x) (.cons (.t x15x) .nil))) (.cons (some x13x) none (.mv (.t x16x)) (.cons (some x17x) none (.ext 0 (.t x13x)) (.cons (some x18x) none 
  (.ext 1 (.t x13x)) (.cons (some x5x) none (.mv (.t x17x)) (.cons (some x6x) none (.mv (.t x18x)) .nil))))))))) (.seq (.reg (.cons (some x20x) none (.mv (.t x0x)) (.cons (some 
  x21x) none (.mv (.t x1x)) (.cons (some x22x) none (.call 7 (.cons (.t x20x) (.cons (.t x21x) .nil))) (.cons (some x19x) none (.mv (.t x22x)) (.cons (some x23x) none (.ext 0 (.t 
  x19x)) (.cons (some x24x) none (.ext 1 (.t x19x)) (.cons (some x7x) none (.mv (.t x23x)) (.cons (some x8x) none (.mv (.t x24x)) .nil))))))))) (.seq (.reg (.cons (some x26x) none 
  (.mv (.t x0x)) (.cons (some x27x) none (.mv (.t x1x)) (.cons (some x28x) none (.call 8 (.cons (.t x26x) (.cons (.t x27x) .nil))) (.cons (some x25x) none (.mv (.t x28x)) (.cons 
  (some x29x) none (.ext 0 (.t x25x)) (.cons (some x30x) none (.ext 1 (.t x25x)) (.cons (some x9x) none (.alloc 27 (.cons (.n 0) (.cons .ns .nil)) 2) (.cons none none (.st 2 (.t 
  x9x) (.t x29x)) (.cons (some x10x) none (.mv (.t x30x)) .nil)))))))))) (.seq (.reg (.cons (some x32x) none (.mv (.t x0x)) (.cons (some x33x) none (.mv (.t x1x)) (.cons (some 
  x34x) none (.call 9 (.cons (.t x32x) (.cons (.t x33x) .nil))) (.cons (some x31x) none (.mv (.t x34x)) (.cons (some x35x) none (.ext 0 (.t x31x)) (.cons (some x36x) none (.ext 1 
  (.t x31x)) (.cons (some x11x) none (.alloc 30 (.cons (.n 0) (.cons .ns .nil)) 2) (.cons none none (.st 2 (.t x11x) (.t x35x)) (.cons (some x12x) none (.mv (.t x36x)) 
  .nil)))))))))) (.seq (.reg (.cons (some x37x) none (.mv (.t x5x)) (.cons (some x38x) none (.mv (.t x7x)) (.cons (some x39x) none (.bin .eql (.t x37x) (.t x38x)) (.cons (some 
  x40x) none (.mv (.t x39x)) (.cons (some x41x) (some (.mk x40x true)) (.mv (.t x6x)) (.cons (some x42x) (some (.mk x40x true)) (.mv (.t x8x)) (.cons (some x43x) (some (.mk x40x 
  true)) (.bin .eql (.t x41x) (.t x42x)) (.cons (some x44x) none (.pick (.t x40x) (.t x43x) (.c (.b false))) (.cons (some x45x) none (.mv (.t x44x)) (.cons (some x46x) (some (.mk 
  x45x true)) (.fad 0 (.t x9x)) (.cons (some x47x) (some (.mk x45x true)) (.ld 1 false (.t x46x)) (.cons (some x48x) (some (.mk x45x true)) (.fad 0 (.t x11x)) (.cons (some x49x) 
  (some (.mk x45x true)) (.ld 1 false (.t x48x)) (.cons (some x50x) (some (.mk x45x true)) (.bin .eql (.t x47x) (.t x49x)) (.cons (some x51x) none (.pick (.t x45x) (.t x50x) (.c 
  (.b false))) (.cons (some x52x) none (.mv (.t x51x)) (.cons (some x53x) (some (.mk x52x true)) (.fad 1 (.t x9x)) (.cons (some x54x) (some (.mk x52x true)) (.ld 1 false (.t x53x)) 
  (.cons (some x55x) (some (.mk x52x true)) (.fad 1 (.t x11x)) (.cons (some x56x) (some (.mk x52x true)) (.ld 1 false (.t x55x)) (.cons (some x57x) (some (.mk x52x true)) (.call 10 
  (.cons (.t x54x) (.cons (.t x56x) .nil))) (.cons (some x58x) none (.pick (.t x52x) (.t x57x) (.c (.b false))) (.cons (some x59x) none (.mv (.t x58x)) (.cons (some x60x) (some 
  (.mk x59x true)) (.mv (.t x10x)) (.cons (some x61x) (some (.mk x59x true)) (.mv (.t x12x)) (.cons (some x62x) (some (.mk x59x true)) (.bin .eql (.t x60x) (.t x61x)) (.cons (some 
  x63x) none (.pick (.t x59x) (.t x62x) (.c (.b false))) (.cons (some x64x) none (.mv (.t x63x)) (.cons (some x65x) (some (.mk x64x true)) (.call 11 .nil) (.cons (some x66x) none 
  (.pick (.t x64x) (.t x65x) (.c (.b false))) (.cons (some x4x) none (.mv (.t x66x)) .nil)))))))))))))))))))))))))))))))) .ret)))))) [(.tmp x4x)])
noncomputable def q3 : IC := i3.q
noncomputable def res3 : List RV := i3.r
noncomputable def c3c : Code := match Try.f3.body with | some c => c | none => .skip
theorem b3 : Try.f3.body = some c3c := by kernel_rfl
theorem k3 : compC Try.prog drops Try.f3.ntmps c3c = some q3 := by kernel_rfl
theorem r3 : compRVs Try.prog Try.f3.results.toList = some res3 := by kernel_rfl
theorem n3 : (Try.f3.name == "runtime.NumGoroutine") = false := by kernel_rfl
noncomputable def q3w : IC := (.seq (.reg (.cons (some (tp 4)) none (.mv (.c (.b false))) .nil)) (.seq (.reg (.cons (some (tp 14)) none (.mv (.t (tp 0))) (.cons (some (tp 15)) none (.mv (.t (tp 1))) (.cons 
  (some (tp 16)) none (.call 6 (.cons (.t (tp 14)) (.cons (.t (tp 15)) .nil))) (.cons (some (tp 13)) none (.mv (.t (tp 16))) (.cons (some (tp 17)) none (.ext 0 (.t (tp 13))) (.cons 
  (some (tp 18)) none (.ext 1 (.t (tp 13))) (.cons (some (tp 5)) none (.mv (.t (tp 17))) (.cons (some (tp 6)) none (.mv (.t (tp 18))) .nil))))))))) (.seq (.reg (.cons (some (tp 
  20)) none (.mv (.t (tp 0))) (.cons (some (tp 21)) none (.mv (.t (tp 1))) (.cons (some (tp 22)) none (.call 7 (.cons (.t (tp 20)) (.cons (.t (tp 21)) .nil))) (.cons (some (tp 19)) 
  none (.mv (.t (tp 22))) (.cons (some (tp 23)) none (.ext 0 (.t (tp 19))) (.cons (some (tp 24)) none (.ext 1 (.t (tp 19))) (.cons (some (tp 7)) none (.mv (.t (tp 23))) (.cons 
  (some (tp 8)) none (.mv (.t (tp 24))) .nil))))))))) (.seq (.reg (.cons (some (tp 26)) none (.mv (.t (tp 0))) (.cons (some (tp 27)) none (.mv (.t (tp 1))) (.cons (some (tp 28)) 
  none (.call 8 (.cons (.t (tp 26)) (.cons (.t (tp 27)) .nil))) (.cons (some (tp 25)) none (.mv (.t (tp 28))) (.cons (some (tp 29)) none (.ext 0 (.t (tp 25))) (.cons (some (tp 30)) 
  none (.ext 1 (.t (tp 25))) (.cons (some (tp 9)) none (.alloc 27 (.cons (I 0) (.cons .ns .nil)) 2) (.cons none none (.st 2 (.t (tp 9)) (.t (tp 29))) (.cons (some (tp 10)) none 
  (.mv (.t (tp 30))) .nil)))))))))) (.seq (.reg (.cons (some (tp 32)) none (.mv (.t (tp 0))) (.cons (some (tp 33)) none (.mv (.t (tp 1))) (.cons (some (tp 34)) none (.call 9 (.cons 
  (.t (tp 32)) (.cons (.t (tp 33)) .nil))) (.cons (some (tp 31)) none (.mv (.t (tp 34))) (.cons (some (tp 35)) none (.ext 0 (.t (tp 31))) (.cons (some (tp 36)) none (.ext 1 (.t (tp 
  31))) (.cons (some (tp 11)) none (.alloc 30 (.cons (I 0) (.cons .ns .nil)) 2) (.cons none none (.st 2 (.t (tp 11)) (.t (tp 35))) (.cons (some (tp 12)) none (.mv (.t (tp 36))) 
  .nil)))))))))) (.seq (.reg (.cons (some (tp 37)) none (.mv (.t (tp 5))) (.cons (some (tp 38)) none (.mv (.t (tp 7))) (.cons (some (tp 39)) none (.bin .eql (.t (tp 37)) (.t (tp 
  38))) (.cons (some (tp 40)) none (.mv (.t (tp 39))) (.cons (some (tp 41)) (some (.mk (tp 40) true)) (.mv (.t (tp 6))) (.cons (some (tp 42)) (some (.mk (tp 40) true)) (.mv (.t (tp 
  8))) (.cons (some (tp 43)) (some (.mk (tp 40) true)) (.bin .eql (.t (tp 41)) (.t (tp 42))) (.cons (some (tp 44)) none (.pick (.t (tp 40)) (.t (tp 43)) (.c (.b false))) (.cons 
  (some (tp 45)) none (.mv (.t (tp 44))) (.cons (some (tp 46)) (some (.mk (tp 45) true)) (.fad 0 (.t (tp 9))) (.cons (some (tp 47)) (some (.mk (tp 45) true)) (.ld 1 false (.t (tp 
  46))) (.cons (some (tp 48)) (some (.mk (tp 45) true)) (.fad 0 (.t (tp 11))) (.cons (some (tp 49)) (some (.mk (tp 45) true)) (.ld 1 false (.t (tp 48))) (.cons (some (tp 50)) (some 
  (.mk (tp 45) true)) (.bin .eql (.t (tp 47)) (.t (tp 49))) (.cons (some (tp 51)) none (.pick (.t (tp 45)) (.t (tp 50)) (.c (.b false))) (.cons (some (tp 52)) none (.mv (.t (tp 
  51))) (.cons (some (tp 53)) (some (.mk (tp 52) true)) (.fad 1 (.t (tp 9))) (.cons (some (tp 54)) (some (.mk (tp 52) true)) (.ld 1 false (.t (tp 53))) (.cons (some (tp 55)) (some 
  (.mk (tp 52) true)) (.fad 1 (.t (tp 11))) (.cons (some (tp 56)) (some (.mk (tp 52) true)) (.ld 1 false (.t (tp 55))) (.cons (some (tp 57)) (some (.mk (tp 52) true)) (.call 10 
  (.cons (.t (tp 54)) (.cons (.t (tp 56)) .nil))) (.cons (some (tp 58)) none (.pick (.t (tp 52)) (.t (tp 57)) (.c (.b false))) (.cons (some (tp 59)) none (.mv (.t (tp 58))) (.cons 
  (some (tp 60)) (some (.mk (tp 59) true)) (.mv (.t (tp 10))) (.cons (some (tp 61)) (some (.mk (tp 59) true)) (.mv (.t (tp 12))) (.cons (some (tp 62)) (some (.mk (tp 59) true)) 
  (.bin .eql (.t (tp 60)) (.t (tp 61))) (.cons (some (tp 63)) none (.pick (.t (tp 59)) (.t (tp 62)) (.c (.b false))) (.cons (some (tp 64)) none (.mv (.t (tp 63))) (.cons (some (tp 
  65)) (some (.mk (tp 64) true)) (.call 11 .nil) (.cons (some (tp 66)) none (.pick (.t (tp 64)) (.t (tp 65)) (.c (.b false))) (.cons (some (tp 4)) none (.mv (.t (tp 66))) 
  .nil)))))))))))))))))))))))))))))))) .ret))))))
theorem q3_eq : q3 = q3w := by kernel_rfl
theorem res3_eq : res3 = [.tmp (tp 4)] := by kernel_rfl
theorem h10 : isX (.b true) (EW 60 10 (.cons .ns (.cons .ns .nil)) 256 .lf 256) = true := by kernel_rfl
noncomputable def nn2 : L := .cons .ns (.cons .ns .nil)
theorem ok10n : SOK Try.prog 10 (spE nn2 (.b true)) := spE_ok (EW_ok 60) h10 rfl rfl
noncomputable def FA : FF := ov 6 (spII (fo2 v01)) (ov 7 (spII (fo2 v01)) (ov 8 (spII (fo2 vh1)) (ov 9 (spII (fo2 vh1)) (ov 10 (spE nn2 (.b true)) (ov 11 (spE .nil (.b true)) (EW 60))))))
theorem ok11w : SOK Try.prog 11 (spE .nil (.b true)) := spE_ok (EX_ok 60) works_eval rfl rfl
theorem FA_ok : FOK Try.prog FA := ov_ok ok6 (ov_ok ok7 (ov_ok ok8 (ov_ok ok9 (ov_ok ok10n (ov_ok ok11w (EW_ok 60))))))
theorem FA_mono : FA.mono := ov_mono (spII_mo _) (ov_mono (spII_mo _) (ov_mono (spII_mo _) (ov_mono (spII_mo _) (ov_mono (spE_mo _ _) (ov_mono (spE_mo _ _) (EW_mono 60))))))
theorem e10n (lim : Nat) (h : Hp) (n : Nat) : spE nn2 (.b true) (.cons .ns (.cons .ns .nil)) lim h n = .ok (.b true) h n := rfl
theorem e11n (lim : Nat) (h : Hp) (n : Nat) : spE .nil (.b true) .nil lim h n = .ok (.b true) h n := rfl
theorem f270 : ((blkL 27 (L.cons (I 0) (L.cons V.ns L.nil))).setL 0 (L.cons (I 0) (L.cons V.ns L.nil))).cell 0 = I 0 := by kernel_rfl
theorem f271 : ((blkL 27 (L.cons (I 0) (L.cons V.ns L.nil))).setL 0 (L.cons (I 0) (L.cons V.ns L.nil))).cell 1 = .ns := by kernel_rfl
theorem f300 : ((blkL 30 (L.cons (I 0) (L.cons V.ns L.nil))).setL 0 (L.cons (I 0) (L.cons V.ns L.nil))).cell 0 = I 0 := by kernel_rfl
theorem f301 : ((blkL 30 (L.cons (I 0) (L.cons V.ns L.nil))).setL 0 (L.cons (I 0) (L.cons V.ns L.nil))).cell 1 = .ns := by kernel_rfl
set_option maxHeartbeats 8000000 in
theorem caseA (z c : Int) (hz : bad z c) : JQ Try.prog drops Try.f3.ntmps FA q3 256 (Kend res3 (Good 0 (.v (.b true)))) (bind (.cons (I z) (.cons (I c) .nil)) 0 .lf) .lf 256 := by
  have hF := FA_ok
  have hM := FA_mono
  rw [q3_eq, res3_eq]
  unfold q3w
  (refine JQ.step follows hF hM ?_; simp (config := { maxSteps := 4000000 }) (disch := (omega)) only [go_sem, Nat.reduceLT, Nat.reduceEqDiff, reduceIte, Nat.reduceAdd, Nat.reduceSub, Nat.reduceLeDiff, Int.reduceEq, Int.reduceLT, Int.reduceLE, Int.reduceNeg, Int.reduceAdd, Int.reduceSub, Int.reduceToNat, Int.reduceMul, Nat.reduceMul])
  (refine JQ.step follows hF hM ?_; simp (config := { maxSteps := 4000000 }) (disch := (omega)) only [go_sem, Nat.reduceLT, Nat.reduceEqDiff, reduceIte, Nat.reduceAdd, Nat.reduceSub, Nat.reduceLeDiff, Int.reduceEq, Int.reduceLT, Int.reduceLE, Int.reduceNeg, Int.reduceAdd, Int.reduceSub, Int.reduceToNat, Int.reduceMul, Nat.reduceMul, FA, fo2_out hz, v01])
  (refine JQ.step follows hF hM ?_; simp (config := { maxSteps := 4000000 }) (disch := (omega)) only [go_sem, Nat.reduceLT, Nat.reduceEqDiff, reduceIte, Nat.reduceAdd, Nat.reduceSub, Nat.reduceLeDiff, Int.reduceEq, Int.reduceLT, Int.reduceLE, Int.reduceNeg, Int.reduceAdd, Int.reduceSub, Int.reduceToNat, Int.reduceMul, Nat.reduceMul, FA, fo2_out hz, v01])
  (refine JQ.step follows hF hM ?_; simp (config := { maxSteps := 4000000 }) (disch := (omega)) only [go_sem, Nat.reduceLT, Nat.reduceEqDiff, reduceIte, Nat.reduceAdd, Nat.reduceSub, Nat.reduceLeDiff, Int.reduceEq, Int.reduceLT, Int.reduceLE, Int.reduceNeg, Int.reduceAdd, Int.reduceSub, Int.reduceToNat, Int.reduceMul, Nat.reduceMul, FA, fo2_out hz, vh1])
  (refine JQ.step follows hF hM ?_; simp (config := { maxSteps := 4000000 }) (disch := (omega)) only [go_sem, Nat.reduceLT, Nat.reduceEqDiff, reduceIte, Nat.reduceAdd, Nat.reduceSub, Nat.reduceLeDiff, Int.reduceEq, Int.reduceLT, Int.reduceLE, Int.reduceNeg, Int.reduceAdd, Int.reduceSub, Int.reduceToNat, Int.reduceMul, Nat.reduceMul, FA, fo2_out hz, vh1])
  (refine JQ.run follows hF hM ?_; simp (config := { maxSteps := 4000000 }) (disch := (omega)) only [go_sem, Nat.reduceLT, Nat.reduceEqDiff, reduceIte, Nat.reduceAdd, Nat.reduceSub, Nat.reduceLeDiff, Int.reduceEq, Int.reduceLT, Int.reduceLE, Int.reduceNeg, Int.reduceAdd, Int.reduceSub, Int.reduceToNat, Int.reduceMul, Nat.reduceMul, FA, e10n, e11n, f270, f271, f300, f301])
end Go.Proofs.Ytkdbnhjipnnhjaa.Ev
/- QuarrelMost: numbers from 1 to 8, evaluated. -/
namespace Go.Proofs.Ytkdbnhjipnnhjaa.Ev
set_option linter.unusedVariables false
set_option maxRecDepth 100000
open Go Go.Proofs Go.RowKit
noncomputable def te (z c : Nat) : Bool := finR res3 ((kC q3 nK).f (EW 60) 256 (bind (.cons (I (z : Int)) (.cons (I (c : Int)) .nil)) 0 .lf) .lf 256)
theorem te1 : ((List.range 8).all fun c => te 1 (c + 1)) = true := by kernel_rfl
theorem te2 : ((List.range 8).all fun c => te 2 (c + 1)) = true := by kernel_rfl
theorem te3 : ((List.range 8).all fun c => te 3 (c + 1)) = true := by kernel_rfl
theorem te4 : ((List.range 8).all fun c => te 4 (c + 1)) = true := by kernel_rfl
theorem te5 : ((List.range 8).all fun c => te 5 (c + 1)) = true := by kernel_rfl
theorem te6 : ((List.range 8).all fun c => te 6 (c + 1)) = true := by kernel_rfl
theorem te7 : ((List.range 8).all fun c => te 7 (c + 1)) = true := by kernel_rfl
theorem te8 : ((List.range 8).all fun c => te 8 (c + 1)) = true := by kernel_rfl
theorem te_all (z c : Nat) (h1 : 1 ≤ z) (h2 : z ≤ 8) (h3 : 1 ≤ c) (h4 : c ≤ 8) : te z c = true := by
  obtain ⟨k, rfl⟩ : ∃ k, c = k + 1 := ⟨c - 1, by omega⟩
  have hk : k ∈ List.range 8 := List.mem_range.2 (by omega)
  rcases (show z = 1 ∨ z = 2 ∨ z = 3 ∨ z = 4 ∨ z = 5 ∨ z = 6 ∨ z = 7 ∨ z = 8 by omega) with rfl | rfl | rfl | rfl | rfl | rfl | rfl | rfl
  · exact List.all_eq_true.1 te1 k hk
  · exact List.all_eq_true.1 te2 k hk
  · exact List.all_eq_true.1 te3 k hk
  · exact List.all_eq_true.1 te4 k hk
  · exact List.all_eq_true.1 te5 k hk
  · exact List.all_eq_true.1 te6 k hk
  · exact List.all_eq_true.1 te7 k hk
  · exact List.all_eq_true.1 te8 k hk
theorem most_run (z c : Int) : ∃ F : FF, FOK Try.prog F ∧ JQ Try.prog drops Try.f3.ntmps F q3 256 (Kend res3 (Good 0 (.v (.b true)))) (bind (.cons (I z) (.cons (I c) .nil)) 0 .lf) .lf 256 := by
  by_cases hb : bad z c
  · exact ⟨FA, FA_ok, caseA z c hb⟩
  · unfold bad at hb
    obtain ⟨a, rfl⟩ : ∃ a : Nat, z = a := ⟨z.toNat, by omega⟩
    obtain ⟨b, rfl⟩ : ∃ b : Nat, c = b := ⟨c.toNat, by omega⟩
    exact ⟨EW 60, EW_ok 60, JQ.fin follows (EW_ok 60) (EW_mono 60) (te_all a b (by omega) (by omega) (by omega) (by omega))⟩
theorem most_walk (z c : Int) (W : World) : Calls Try.prog 3 #[.int .i64 z, .int .i64 c] W fun e w' => e = .returned (.bool true) ∧ Below W.heap.size W w' := by
  obtain ⟨F, _, j⟩ := most_run z c
  exact lawC Try.func3 n3 b3 k3 r3 (args := .cons (I z) (.cons (I c) .nil)) (by simp [L.length]) (by simp [L.pur, I_pur]) j (vs := [.int .i64 z, .int .i64 c]) (fun g => ⟨_, _, rfl, I_rel, _, _, rfl, I_rel, rfl⟩) W
end Go.Proofs.Ytkdbnhjipnnhjaa.Ev
