/- The texts EvPc, EvPd, EvGo, TqG, EvPe, EvPf, EvPl, TqW, EvSf, TqP, TqA4, EvCn, TqT0, TqQ. -/
import Derived.Test.YtkdbnhjipnnhjaaQ6
import Derived.Test.YtkdbnhjipnnhjaaQ7
/- Stages of a law by evaluation alone: a piece is run at each value of an argument; what it leaves is read off its slots. -/
namespace Go.Proofs.Ytkdbnhjipnnhjaa.Ev
set_option linter.unusedVariables false
open Go Go.Proofs Go.RowKit

noncomputable def pcE (r : Rs) : Tr := Rs.rec (motive := fun _ => Tr) .lf (fun e _ _ => e) (fun _ _ _ _ => .lf) (fun _ _ _ => .lf) r
noncomputable def pcH (r : Rs) : Hp := Rs.rec (motive := fun _ => Hp) .lf (fun _ h _ => h) (fun _ _ _ _ => .lf) (fun _ _ _ => .lf) r
/-- The piece goes on to the next, and its places stay below m. -/
noncomputable def pcN (m : Nat) (r : Rs) : Bool := Rs.rec (motive := fun _ => Bool) false (fun _ _ n => Nat.ble n m) (fun _ _ _ _ => false) (fun _ _ _ => false) r
theorem pcN_ok {m : Nat} {r : Rs} (h : pcN m r = true) : ∃ n, r = .nor (pcE r) (pcH r) n ∧ n ≤ m := by
  cases r with
  | nor e h' n => exact ⟨n, rfl, Nat.le_of_ble_eq_true h⟩
  | _ => cases h
/-- Some slots with their values. -/
noncomputable def mkE : List (Nat × V) → Tr
  | [] => .lf
  | x :: l => (mkE l).set x.2 (tp x.1)
/-- What is read behind a piece: that it goes on, the slots ts, the tables' blocks. -/
noncomputable def stg (tabs : List (Nat × TypeId × L)) (m : Nat) (ts : List Nat) (r : Rs) : Bool × List V × List (Option Blk) :=
  (pcN m r, ts.map (fun t => (pcE r).get (tp t)), tabs.map fun x => (pcH r).get (tp x.1))
/-- What it should be. -/
noncomputable def stgIs (tabs : List (Nat × TypeId × L)) (l : List (Nat × V)) : Bool × List V × List (Option Blk) :=
  (true, l.map Prod.snd, tabs.map fun x => (tabH tabs).get (tp x.1))
theorem mkE_le {e : Tr} : ∀ {l : List (Nat × V)}, (l.all fun x => decide (x.1 < 4294967296)) = true → (l.map Prod.fst).map (fun t => e.get (tp t)) = l.map Prod.snd → EnvLe (mkE l) e
  | [], _, _ => EnvLe.lf e
  | (t, v) :: l, hl, h => by
    simp only [List.all_cons, Bool.and_eq_true, decide_eq_true_eq] at hl
    simp only [List.map_cons, List.cons.injEq] at h
    exact EnvLe.set hl.1 h.1 (mkE_le hl.2 h.2)
theorem tabH_mem : ∀ (l : List (Nat × TypeId × L)) (p : Pos) (b : Blk), (tabH l).get p = some b → ∃ x ∈ l, p = tp x.1
  | [], p, b, h => by have := (Hp.get_lf p).symm.trans h; cases this
  | (k, el, z) :: l, p, b, h => by
    have h : ((tabH l).put (some ⟨el, z.length, z.length, z, .lf⟩) (tp k)).get p = some b := h
    rw [Hp.get_put] at h
    split at h
    · rename_i e; exact ⟨_, List.mem_cons_self, e⟩
    · obtain ⟨x, hx, e⟩ := tabH_mem l p b h; exact ⟨x, List.mem_cons_of_mem _ hx, e⟩
theorem tabH_le {tabs : List (Nat × TypeId × L)} {h : Hp} (hh : (tabs.map fun x => h.get (tp x.1)) = tabs.map fun x => (tabH tabs).get (tp x.1)) : HpLe (tabH tabs) h := fun p b hp => by
  obtain ⟨x, hx, rfl⟩ := tabH_mem tabs p b hp
  exact ⟨b, (List.map_inj_left.1 hh x hx).trans hp, BlkLe.refl b⟩
/-- A piece is as good from a later place on. -/
theorem JQ.later {P : Program} {dr : List Nat} {N lim n n2 : Nat} {F : FF} {q : IC} {K : Rs → Prop} {e : Tr} {h : Hp} (hn : n ≤ n2) (j : JQ P dr N F q lim K e h n2) : JQ P dr N F q lim K e h n := fun c hc a g w he m hd hf =>
  wp_mono (j c hc a g w he m (fun p b hp => Nat.lt_of_lt_of_le (hd p b hp) hn) (fun p hp => hf p (Nat.le_trans hn hp))) fun ex a' w' ⟨r, k, t, p⟩ => ⟨r, k, t, by
    have key : ∀ {n' : Nat} {g' : Sig} {h' : Hm} {w' : World}, Fr lim n2 g h.get w n' g' h' w' → Fr lim n g h.get w n' g' h' w' := fun f =>
      { f with
        le := Nat.le_trans hn f.le
        sig := fun p hp => f.sig p (by omega)
        dom := fun p b e => ⟨fun hp => (f.dom p b e).1 (by omega), (f.dom p b e).2⟩
        new := fun p r base tot h1 h2 e => by
          by_cases h3 : n2 ≤ p.num
          · exact f.new p r base tot h3 h2 e
          · rw [f.sig p (.inl (by omega)), hf p h1] at e; cases e }
    cases r with
    | no => exact p
    | nor => obtain ⟨h1, h2, g', h3, h4, h5⟩ := p; exact ⟨h1, h2, g', h3, h4, key h5⟩
    | ext => obtain ⟨h1, h2, g', h3, h4, h5⟩ := p; exact ⟨h1, h2, g', h3, h4, key h5⟩
    | ret => obtain ⟨h1, h2, g', h3, h4, h5⟩ := p; exact ⟨h1, h2, g', h3, h4, key h5⟩⟩
/-- A piece evaluated, all that follows kept. -/
theorem JQ.piece {P : Program} (hP : P.follows .mixedOrders = true) {dr : List Nat} {N lim n : Nat} {F : FF} (hF : FOK P F) (hM : F.mono) {qa qb : IC} {K : Rs → Prop} {e : Tr} {h : Hp} {e1 : Tr} {h1 : Hp} {n1 : Nat} (hk : (kC qa nK).f F lim e h n = .nor e1 h1 n1) (hn : n1 < big)
    (j : JQ P dr N F qb lim K e1 h1 n1) : JQ P dr N F (.seq qa qb) lim K e h n := by
  refine JQ.step hP hF hM ?_
  rw [kC_eq, onC_nK] at hk
  rw [hk]; exact ⟨hn, j⟩
/-- A stage: the piece is evaluated; the slots of l and the tables are all that is kept of it. -/
theorem JQ.stage {P : Program} (hP : P.follows .mixedOrders = true) {dr : List Nat} {N lim n m : Nat} {F : FF} (hF : FOK P F) (hM : F.mono) {qa qb : IC} {K : Rs → Prop} {e : Tr} {h : Hp} {tabs : List (Nat × TypeId × L)} {l : List (Nat × V)}
    (hk : stg tabs m (l.map Prod.fst) ((kC qa nK).f F lim e h n) = stgIs tabs l) (hl : (l.all fun x => decide (x.1 < 4294967296)) = true) (hm : m < big)
    (j : JQ P dr N F qb lim K (mkE l) (tabH tabs) m) : JQ P dr N F (.seq qa qb) lim K e h n := by
  have hk' := hk
  unfold stg stgIs at hk'
  simp only [Prod.mk.injEq] at hk'
  obtain ⟨h1, h2, h3⟩ := hk'
  obtain ⟨n1, h4, h5⟩ := pcN_ok h1
  exact JQ.piece hP hF hM h4 (Nat.lt_of_le_of_lt h5 hm) (JQ.later h5 (JQ.weak (mkE_le hl h2) (tabH_le h3) j))
/-- A chunk of values. -/
theorem chunk {α : Type} {f g : Nat → α} {c k t : Nat} (h : (List.range c).map (fun i => f (k + i)) = (List.range c).map fun i => g (k + i)) (h1 : k ≤ t) (h2 : t < k + c) : f t = g t := by
  have := List.map_inj_left.1 h (t - k) (List.mem_range.2 (by omega))
  have e : k + (t - k) = t := by omega
  rwa [e] at this
theorem chunkB {f : Nat → Bool} {c k t : Nat} (h : (List.range c).all (fun i => f (k + i)) = true) (h1 : k ≤ t) (h2 : t < k + c) : f t = true := by
  have := List.all_eq_true.1 h (t - k) (List.mem_range.2 (by omega))
  have e : k + (t - k) = t := by omega
  rwa [e] at this
/-! Several pieces in a row. -/
noncomputable def seqs (ps : List IC) (q : IC) : IC := ps.foldr .seq q
/-- The first so many pieces of a body, and the rest. -/
noncomputable def IC.pcs (q : IC) (k : Nat) : List IC := Nat.rec (motive := fun _ => IC → List IC) (fun _ => []) (fun _ ih q => match q with | .seq a b => a :: ih b | q => [q]) k q
noncomputable def IC.rst (q : IC) (k : Nat) : IC := Nat.rec (motive := fun _ => IC → IC) (fun q => q) (fun _ ih q => match q with | .seq _ b => ih b | q => q) k q
/-- They are run one after the other; each has to go on to the next with its places below m. -/
noncomputable def runP (F : FF) (lim m : Nat) (ps : List IC) : Rs → Rs := List.rec (motive := fun _ => Rs → Rs) (fun r => r)
  (fun p _ ih r => Rs.rec (motive := fun _ => Rs) .no (fun e h n => Bool.rec .no (ih ((kC p nK).f F lim e h n)) (Nat.ble n m)) (fun _ _ _ _ => .no) (fun _ _ _ => .no) r) ps
theorem runP_no (F : FF) (lim m : Nat) {ps : List IC} {r : Rs} {e : Tr} {h : Hp} {n : Nat} (hr : runP F lim m ps r = .nor e h n) : ∃ e1 h1 n1, r = .nor e1 h1 n1 := by
  cases ps with
  | nil => exact ⟨_, _, _, hr⟩
  | cons p ps =>
    cases r with
    | nor e1 h1 n1 => exact ⟨_, _, _, rfl⟩
    | _ => exact absurd (show (Rs.no) = _ from hr) (by simp)
theorem JQ.pieces {P : Program} (hP : P.follows .mixedOrders = true) {dr : List Nat} {N lim m : Nat} {F : FF} (hF : FOK P F) (hM : F.mono) {qb : IC} {K : Rs → Prop} (hm : m < big) {e1 : Tr} {h1 : Hp} {n1 : Nat} (hn1 : n1 ≤ m) (j : JQ P dr N F qb lim K e1 h1 n1) :
    ∀ (ps : List IC) {e : Tr} {h : Hp} {n : Nat}, runP F lim m ps (.nor e h n) = .nor e1 h1 n1 → JQ P dr N F (seqs ps qb) lim K e h n
  | [], e, h, n, hr => by
    have hr : Rs.nor e h n = Rs.nor e1 h1 n1 := hr
    cases hr; exact j
  | p :: ps, e, h, n, hr => by
    have hr : (Bool.rec .no (runP F lim m ps ((kC p nK).f F lim e h n)) (Nat.ble n m) : Rs) = .nor e1 h1 n1 := hr
    cases hb : Nat.ble n m with
    | false => rw [hb] at hr; cases hr
    | true =>
      rw [hb] at hr
      have hr : runP F lim m ps ((kC p nK).f F lim e h n) = .nor e1 h1 n1 := hr
      obtain ⟨e2, h2, n2, h3⟩ := runP_no F lim m hr
      rw [h3] at hr
      have hn2 : n2 ≤ m := by
        cases ps with
        | nil => have hr : Rs.nor e2 h2 n2 = Rs.nor e1 h1 n1 := hr; cases hr; exact hn1
        | cons p' ps' =>
          have hr : (Bool.rec .no (runP F lim m ps' ((kC p' nK).f F lim e2 h2 n2)) (Nat.ble n2 m) : Rs) = .nor e1 h1 n1 := hr
          cases hb2 : Nat.ble n2 m with
          | false => rw [hb2] at hr; cases hr
          | true => exact Nat.le_of_ble_eq_true hb2
      exact JQ.piece hP hF hM h3 (Nat.lt_of_le_of_lt hn2 hm) (JQ.pieces hP hF hM hm hn1 j ps hr)
/-- A stage of several pieces. -/
theorem JQ.stages {P : Program} (hP : P.follows .mixedOrders = true) {dr : List Nat} {N lim n m : Nat} {F : FF} (hF : FOK P F) (hM : F.mono) {q qb : IC} (ps : List IC) {K : Rs → Prop} {e : Tr} {h : Hp} {tabs : List (Nat × TypeId × L)} {l : List (Nat × V)} (hq : q = seqs ps qb)
    (hk : stg tabs m (l.map Prod.fst) (runP F lim m ps (.nor e h n)) = stgIs tabs l) (hl : (l.all fun x => decide (x.1 < 4294967296)) = true) (hm : m < big)
    (j : JQ P dr N F qb lim K (mkE l) (tabH tabs) m) : JQ P dr N F q lim K e h n := by
  subst hq
  have hk' := hk
  unfold stg stgIs at hk'
  simp only [Prod.mk.injEq] at hk'
  obtain ⟨h1, h2, h3⟩ := hk'
  obtain ⟨n1, h4, h5⟩ := pcN_ok h1
  exact JQ.pieces hP hF hM hm h5 (JQ.later h5 (JQ.weak (mkE_le hl h2) (tabH_le h3) j)) ps h4
end Go.Proofs.Ytkdbnhjipnnhjaa.Ev
/- Laws over few inputs, where no table is in memory: a stage that keeps its memory, and the run's end. -/
namespace Go.Proofs.Ytkdbnhjipnnhjaa.Ev
set_option linter.unusedVariables false
open Go Go.Proofs Go.RowKit
/-- A run's end: true is handed back. -/
noncomputable def finB (res : List RV) (e : Tr) (h : Hp) (n : Nat) : Bool := and (evRVs e h res).known (and (onB (evRes e h res) (fun b => b) false) (Nat.blt n 9223372036854775808))
noncomputable def finR (res : List RV) (r : Rs) : Bool := Rs.rec false (fun e h n => finB res e h n) (fun _ _ _ _ => false) (fun e h n => finB res e h n) r
theorem finB_ok {res : List RV} {e : Tr} {h : Hp} {n : Nat} (hf : finB res e h n = true) : n < big ∧ (evRVs e h res).known = true ∧ evRes e h res = .b true := by
  unfold finB at hf
  simp only [Bool.and_eq_true, Nat.blt_eq] at hf
  refine ⟨hf.2.2, hf.1, ?_⟩
  have := hf.2.1
  cases hx : evRes e h res <;> rw [hx] at this <;> simp [onB, V.asB] at this
  rw [this]
theorem got_fin {res : List RV} {r : Rs} (h : finR res r = true) : Got (Kend res (Good 0 (.v (.b true)))) r := by
  cases r with
  | no => cases h
  | ext => cases h
  | nor e h' n => have := finB_ok h; exact ⟨this.1, this.2.1, this.2.2, rfl⟩
  | ret e h' n => have := finB_ok h; exact ⟨this.1, this.2.1, this.2.2, rfl⟩
/-- A piece run to the law's end. -/
theorem JQ.fin {P : Program} (hP : P.follows .mixedOrders = true) {dr : List Nat} {N lim n : Nat} {F : FF} (hF : FOK P F) (hM : F.mono) {res : List RV} {q : IC} {e : Tr} {h : Hp} (hk : finR res ((kC q nK).f F lim e h n) = true) : JQ P dr N F q lim (Kend res (Good 0 (.v (.b true)))) e h n := by
  refine JQ.run hP hF hM ?_
  rw [kC_eq, onC_nK] at hk; exact got_fin hk
/-- What is looked at behind a stage. -/
noncomputable def obs (m : Nat) (ts : List Nat) (r : Rs) : Bool × List V × Hp := (pcN m r, ts.map (fun t => (pcE r).get (tp t)), pcH r)
noncomputable def lstO (ts : List Nat) (r : Rs) : List (Nat × V) := ts.map fun t => (t, (pcE r).get (tp t))
/-- A stage that comes to what another run of it comes to. -/
theorem JQ.stageX {P : Program} (hP : P.follows .mixedOrders = true) {dr : List Nat} {N lim n m : Nat} {F : FF} (hF : FOK P F) (hM : F.mono) {q qb : IC} (ps : List IC) {K : Rs → Prop} {e : Tr} {h : Hp} (ts : List Nat) (r0 : Rs) (hq : q = seqs ps qb)
    (hk : obs m ts (runP F lim m ps (.nor e h n)) = obs m ts r0) (h0 : pcN m r0 = true) (hl : ((lstO ts r0).all fun x => decide (x.1 < 4294967296)) = true) (hm : m < big)
    (j : JQ P dr N F qb lim K (mkE (lstO ts r0)) (pcH r0) m) : JQ P dr N F q lim K e h n := by
  subst hq
  unfold obs at hk
  simp only [Prod.mk.injEq] at hk
  obtain ⟨h1, h2, h3⟩ := hk
  rw [h0] at h1
  obtain ⟨n1, h4, h5⟩ := pcN_ok h1
  refine JQ.pieces hP hF hM hm h5 (JQ.later h5 (JQ.weak (mkE_le hl ?_) (by rw [h3]; exact HpLe.refl _) j)) ps h4
  unfold lstO
  rw [List.map_map, List.map_map, List.map_map]
  exact h2
/-- A stage that comes to slots and memory that are told. -/
theorem JQ.stageY {P : Program} (hP : P.follows .mixedOrders = true) {dr : List Nat} {N lim n m : Nat} {F : FF} (hF : FOK P F) (hM : F.mono) {q qb : IC} (ps : List IC) {K : Rs → Prop} {e : Tr} {h : Hp} (l : List (Nat × V)) (hh : Hp) (hq : q = seqs ps qb)
    (hk : obs m (l.map Prod.fst) (runP F lim m ps (.nor e h n)) = (true, l.map Prod.snd, hh)) (hl : (l.all fun x => decide (x.1 < 4294967296)) = true) (hm : m < big)
    (j : JQ P dr N F qb lim K (mkE l) hh m) : JQ P dr N F q lim K e h n := by
  subst hq
  unfold obs at hk
  simp only [Prod.mk.injEq] at hk
  obtain ⟨h1, h2, h3⟩ := hk
  obtain ⟨n1, h4, h5⟩ := pcN_ok h1
  exact JQ.pieces hP hF hM hm h5 (JQ.later h5 (JQ.weak (mkE_le hl h2) (by rw [h3]; exact HpLe.refl _) j)) ps h4
/-- A run's end: a plain value is handed back. -/
noncomputable def finXB (x : V) (res : List RV) (e : Tr) (h : Hp) (n : Nat) : Bool := and (evRVs e h res).known (and (eqV (evRes e h res) x) (Nat.blt n 9223372036854775808))
noncomputable def finX (x : V) (res : List RV) (r : Rs) : Bool := Rs.rec false (fun e h n => finXB x res e h n) (fun _ _ _ _ => false) (fun e h n => finXB x res e h n) r
theorem finXB_ok {x : V} {res : List RV} {e : Tr} {h : Hp} {n : Nat} (hf : finXB x res e h n = true) : n < big ∧ (evRVs e h res).known = true ∧ evRes e h res = x := by
  unfold finXB at hf
  simp only [Bool.and_eq_true, Nat.blt_eq] at hf
  exact ⟨hf.2.2, hf.1, eqV_eq _ _ hf.2.1⟩
theorem JQ.finX {P : Program} (hP : P.follows .mixedOrders = true) {dr : List Nat} {N lim n nb : Nat} {F : FF} (hF : FOK P F) (hM : F.mono) {res : List RV} {q : IC} {e : Tr} {h : Hp} {x : V} (hx : x.pur = true) (hk : finX x res ((kC q nK).f F lim e h n) = true) : JQ P dr N F q lim (Kend res (Good nb (.v x))) e h n := by
  refine JQ.run hP hF hM ?_
  rw [kC_eq, onC_nK] at hk
  revert hk
  generalize evC q F lim e h n = r
  intro hk
  cases r with
  | no => cases hk
  | ext => cases hk
  | nor e h' n => have := finXB_ok hk; exact ⟨this.1, this.2.1, this.2.2, hx⟩
  | ret e h' n => have := finXB_ok hk; exact ⟨this.1, this.2.1, this.2.2, hx⟩
/-- Some answers by a contract, all others as before. -/
def ovF (f : Nat) (s : L → Nat → Hp → Nat → Res) (F : FF) : FF := fun g args lim h n => if g = f then (match s args lim h n with | .ok v h' n' => .ok v h' n' | .no => F g args lim h n) else F g args lim h n
theorem ovF_ok {P : Program} {f : Nat} {s : L → Nat → Hp → Nat → Res} {F : FF} (hs : SOK P f s) (hF : FOK P F) (hne : YID ≠ f := by decide) : FOK P (ovF f s F) := by
  refine ⟨fun g args lim h n v h' n' hr => ?_, fun p args lim h n v h' n' hr => ?_⟩
  · unfold ovF at hr
    split at hr
    · rename_i e
      subst e
      split at hr
      · rename_i v1 h1 n1 he
        cases hr
        exact hs _ _ _ _ _ _ _ he
      · exact hF.1 _ _ _ _ _ _ _ _ hr
    · exact hF.1 _ _ _ _ _ _ _ _ hr
  · unfold ovF at hr
    rw [if_neg hne] at hr
    exact hF.2 _ _ _ _ _ _ _ _ hr
theorem ovF_mono {f : Nat} {s : L → Nat → Hp → Nat → Res} {F : FF} (hs : SMo s) (hF : F.mono) : (ovF f s F).mono := fun g args lim h n => by
  unfold ovF
  split
  · have := hs args lim h n
    cases he : s args lim h n with
    | no => exact hF _ _ _ _ _
    | ok v h' n' => rw [he] at this; exact this
  · exact hF _ _ _ _ _
/-- Some blocks with their places. -/
noncomputable def hpL : List (Nat × Blk) → Hp
  | [] => .lf
  | x :: l => (hpL l).put (some x.2) (tp x.1)
theorem hpL_le {h : Hp} : ∀ {l : List (Nat × Blk)}, (l.map fun x => h.get (tp x.1)) = (l.map fun x => some x.2) → HpLe (hpL l) h
  | [], _ => HpLe.lf h
  | x :: l, e => by
    simp only [List.map_cons, List.cons.injEq] at e
    exact HpLe.put ⟨x.2, e.1, BlkLe.refl _⟩ (hpL_le e.2)
noncomputable def obsZ (m : Nat) (ts ks : List Nat) (r : Rs) : Bool × List V × List (Option Blk) := (pcN m r, ts.map (fun t => (pcE r).get (tp t)), ks.map fun k => (pcH r).get (tp k))
noncomputable def isZ (l : List (Nat × V)) (bl : List (Nat × Blk)) : Bool × List V × List (Option Blk) := (true, l.map Prod.snd, bl.map fun x => some x.2)
/-- A stage of which some slots and some blocks are kept. -/
theorem JQ.stageZ {P : Program} (hP : P.follows .mixedOrders = true) {dr : List Nat} {N lim n m : Nat} {F : FF} (hF : FOK P F) (hM : F.mono) {q qb : IC} (ps : List IC) {K : Rs → Prop} {e : Tr} {h : Hp} (l : List (Nat × V)) (bl : List (Nat × Blk)) (hq : q = seqs ps qb)
    (hk : obsZ m (l.map Prod.fst) (bl.map Prod.fst) (runP F lim m ps (.nor e h n)) = isZ l bl) (hl : (l.all fun x => decide (x.1 < 4294967296)) = true) (hm : m < big)
    (j : JQ P dr N F qb lim K (mkE l) (hpL bl) m) : JQ P dr N F q lim K e h n := by
  subst hq
  unfold obsZ isZ at hk
  simp only [Prod.mk.injEq] at hk
  obtain ⟨h1, h2, h3⟩ := hk
  obtain ⟨n1, h4, h5⟩ := pcN_ok h1
  rw [List.map_map] at h3
  exact JQ.pieces hP hF hM hm h5 (JQ.later h5 (JQ.weak (mkE_le hl h2) (hpL_le h3) j)) ps h4
noncomputable def FnI.q (x : FnI) : IC := FnI.rec (motive := fun _ => IC) (fun _ _ q _ => q) x
noncomputable def FnI.r (x : FnI) : List RV := FnI.rec (motive := fun _ => List RV) (fun _ _ _ r => r) x
end Go.Proofs.Ytkdbnhjipnnhjaa.Ev
/- goto: a function whose code jumps back, at its end, to one label is evaluated as a loop. -/
namespace Go.Proofs.Ytkdbnhjipnnhjaa.Ev
set_option linter.unusedVariables false
open Go
/-- The code behind a label, up to the jump back to it. -/
def lpC (P : Program) (dr : List Nat) (N l : Nat) : Code → Option IC
  | .seq a b => match compC P dr N a, lpC P dr N l b with
    | some qa, some qb => some (.seq qa qb)
    | _, _ => none
  | .goto l' => if l' = l then some .skip else none
  | _ => none
def isLb : Code → Option Nat
  | .label l => some l
  | _ => none
theorem isLb_eq {c : Code} {l : Nat} (h : isLb c = some l) : c = .label l := by
  cases c <;> simp [isLb] at h
  rw [h]
/-- The label, the code as a loop, what a jump goes on with. -/
def goC (P : Program) (dr : List Nat) (N : Nat) : Code → Option (Nat × IC × Code)
  | .seq a b => match isLb a with
    | some l => (lpC P dr N l b).map fun q => (l, .loop q, .seq .skip b)
    | none => match compC P dr N a, goC P dr N b with
      | some qa, some (l, q, r) => if (findLabel a l).isNone = true then some (l, .seq qa q, r) else none
      | _, _ => none
  | _ => none
theorem goC_find {P : Program} {dr : List Nat} {N : Nat} : ∀ {c : Code} {l : Nat} {q : IC} {r : Code}, goC P dr N c = some (l, q, r) → findLabel c l = some r
  | .seq a b, l, q, r, h => by
    rw [goC] at h
    split at h
    · rename_i l' hl
      rw [Option.map_eq_some_iff] at h
      obtain ⟨q', h1, h2⟩ := h
      cases h2
      rw [isLb_eq hl]
      simp [findLabel]
    · split at h
      · rename_i qa l' q' r' h1 h2
        split at h
        · rename_i hn
          cases h
          have ih := goC_find h2
          have hn' : findLabel a l = none := by simpa using hn
          simp [findLabel, hn', ih]
        · cases h
      · cases h
  | .skip, _, _, _, h => by cases h
  | .region .., _, _, _, h => by cases h
  | .cond .., _, _, _, h => by cases h
  | .block .., _, _, _, h => by cases h
  | .loop .., _, _, _, h => by cases h
  | .rangeFunc .., _, _, _, h => by cases h
  | .exit .., _, _, _, h => by cases h
  | .scope .., _, _, _, h => by cases h
  | .label .., _, _, _, h => by cases h
  | .goto .., _, _, _, h => by cases h
  | .ret, _, _, _, h => by cases h
  | .refuse .., _, _, _, h => by cases h

def PostG (l N lim : Nat) (g : Sig) (h : Hp) (w : World) (n : Nat) (a : Act) : Rs → Exit → Act → World → Prop
  | .nor e' h' n', ex, a', w' => ex = .goto l ∧ MkK w a w' a' ∧ ∃ g', EnvA N g' e' a' ∧ Mem g' h'.get w' ∧ Fr lim n g h.get w n' g' h'.get w'
  | r, ex, a', w' => Post N lim g h w n a r ex a' w'
theorem PostG.trans {l N lim : Nat} {g g1 : Sig} {h h1 : Hp} {w w1 : World} {n n1 : Nat} {a a1 : Act} (k : MkK w a w1 a1) (f : Fr lim n g h.get w n1 g1 h1.get w1) : ∀ {r : Rs} {ex : Exit} {a' : Act} {w' : World}, PostG l N lim g1 h1 w1 n1 a1 r ex a' w' → PostG l N lim g h w n a r ex a' w'
  | .no, _, _, _, h => h.elim
  | .nor .., _, _, _, ⟨x, k', g', y, z, f'⟩ => ⟨x, k.trans k', g', y, z, f.trans f'⟩
  | .ext .., _, _, _, ⟨x, k', g', y, z, f'⟩ => ⟨x, k.trans k', g', y, z, f.trans f'⟩
  | .ret .., _, _, _, ⟨x, k', g', y, z, f'⟩ => ⟨x, k.trans k', g', y, z, f.trans f'⟩
/-- As Sound, outside a range over a function. -/
def SoundN (P : Program) (F : FF) (N : Nat) (c : Code) (q : IC) : Prop :=
  ∀ lim e h n r, evC q F lim e h n = r → r ≠ .no → ∀ (a : Act) g w, EnvA N g e a → Mem g h.get w → Dom h.get n → Fresh g n r.top → r.top < 9223372036854775808 → c.wpIn (fw none) 0 P (Post N lim g h w n a r) a w
def SoundG (P : Program) (F : FF) (N l : Nat) (c : Code) (q : IC) : Prop :=
  ∀ lim e h n r, evC q F lim e h n = r → r ≠ .no → ∀ (a : Act) g w, EnvA N g e a → Mem g h.get w → Dom h.get n → Fresh g n r.top → r.top < 9223372036854775808 → c.wpIn (fw none) 0 P (PostG l N lim g h w n a r) a w

theorem lpC_sound {P : Program} (hP : P.follows .mixedOrders = true) {F : FF} (hF : FOK P F) (hM : F.mono) {dr : List Nat} {N l : Nat} : ∀ (c : Code) (q : IC), lpC P dr N l c = some q → SoundG P F N l c q
  | .seq a b, q, hc => by
    simp only [lpC] at hc
    split at hc
    case h_2 => cases hc
    rename_i qa qb h1 h2
    cases hc
    intro lim e h n r hr hne ac g w he m hd hf hn
    have hr : evSeq (evC qa) (evC qb) F lim e h n = r := hr
    unfold evSeq at hr
    refine wpIn_seq ?_
    cases hx : evC qa F lim e h n with
    | no => rw [hx] at hr; exact absurd hr.symm hne
    | nor e1 h1' n1 =>
      rw [hx] at hr
      have hr : evC qb F lim e1 h1' n1 = r := hr
      have hg2 : n1 ≤ r.top := by
        have := evC_ge hM qb lim e1 h1' n1; rw [hr] at this
        cases r <;> first | exact absurd rfl hne | exact this
      refine wpIn_mono (evC_sound hP hF hM a qa h1 lim e h n _ hx (by simp) ac g w he m hd (hf.sub (Nat.le_refl _) hg2) (Nat.lt_of_le_of_lt hg2 hn) none (.inl rfl)) ?_
      rintro ex a' w' ⟨rfl, k1, g1, he1, m1, f1⟩
      exact wpIn_mono (lpC_sound hP hF hM b qb h2 lim e1 h1' n1 r hr hne a' g1 w' he1 m1 f1.dom' (f1.fresh hf) hn) fun _ _ _ hp => PostG.trans k1 f1 hp
    | ext id e1 h1' n1 =>
      rw [hx] at hr
      have hr : Rs.ext id e1 h1' n1 = r := hr
      subst hr
      refine wpIn_mono (evC_sound hP hF hM a qa h1 lim e h n _ hx (by simp) ac g w he m hd hf hn none (.inl rfl)) ?_
      rintro ex a' w' ⟨rfl, hp⟩
      exact ⟨rfl, hp⟩
    | ret e1 h1' n1 =>
      rw [hx] at hr
      have hr : Rs.ret e1 h1' n1 = r := hr
      subst hr
      refine wpIn_mono (evC_sound hP hF hM a qa h1 lim e h n _ hx (by simp) ac g w he m hd hf hn none (.inl rfl)) ?_
      rintro ex a' w' ⟨rfl, hp⟩
      exact ⟨rfl, hp⟩
  | .goto l', q, hc => by
    simp only [lpC] at hc
    split at hc
    case isFalse => cases hc
    rename_i hl
    cases hc
    intro lim e h n r hr hne ac g w he m hd hf hn
    have hr : Rs.nor e h n = r := hr
    subst hr
    exact wpIn_goto ⟨by rw [hl], MkK.refl, g, he, m, Fr.refl hd⟩
  | .skip, _, h => by cases h
  | .region .., _, h => by cases h
  | .cond .., _, h => by cases h
  | .block .., _, h => by cases h
  | .loop .., _, h => by cases h
  | .rangeFunc .., _, h => by cases h
  | .exit .., _, h => by cases h
  | .scope .., _, h => by cases h
  | .label .., _, h => by cases h
  | .ret, _, h => by cases h
  | .refuse .., _, h => by cases h

theorem go_rounds {P : Program} {F : FF} (hM : F.mono) {N l : Nat} {b0 body : Code} {qb : IC} (ih : SoundG P F N l b0 qb) {lim : Nat} {fb : Frame} {k : List Item} {cs : List Frame} (hro' : fb.roundOf = (fw none).round) (hfb : (fw none).fn fb.fn) (hroom : (fw none).room (cs.length + 1 + 0))
    (hg : ∀ k, gotoIn l (.inScope body :: k) = some (.code (.seq .skip b0) :: .inScope body :: k)) :
    ∀ (j : Nat) (e : Tr) (h : Hp) (n : Nat) (r : Rs), rep (evC qb F lim) j e h n = r → r ≠ .no → ∀ (ac : Act) (g : Sig) (w : World), EnvA N g e ac → Mem g h.get w → Dom h.get n → Fresh g n r.top → r.top < 9223372036854775808 →
        ∃ ex a' w', Post N lim g h w n ac r ex a' w' ∧ (ex = .normal → StepsIn (Machine.fenced P (fw none)) P (lone (fb.atR ac (.code b0 :: .inScope body :: k)) cs w) (lone (fb.atR a' (.code b0 :: .inScope body :: k)) cs w')) ∧
          (ex ≠ .normal → ArrivesIn (Machine.fenced P (fw none)) P (lone (fb.atR ac (.code b0 :: .inScope body :: k)) cs w) fb (.inScope body :: k) cs ex a' w') := by
  intro j
  induction j with
  | zero =>
    intro e h n r hr hne ac g w he m hd hf hn
    obtain ⟨ex, a', w', hp, harr⟩ := ih lim e h n r hr hne ac g w he m hd hf hn fb (.inScope body :: k) cs hro' hfb hroom
    cases r with
    | no => exact absurd rfl hne
    | nor e1 h1 n1 =>
      obtain ⟨rfl, hp⟩ := hp
      refine ⟨.normal, a', w', ⟨rfl, hp⟩, fun _ => StepsIn.trans (harr.1 _ (hg k)) (.head (fenced_calm hfb hroom rfl) stepR_seq (.one (fenced_calm hfb hroom rfl) stepR_skip)), fun hx => absurd rfl hx⟩
    | ext id e1 h1 n1 =>
      refine ⟨ex, a', w', hp, fun hx => ?_, fun _ => harr⟩
      obtain ⟨rfl, _⟩ := hp
      cases hx
    | ret e1 h1 n1 =>
      refine ⟨ex, a', w', hp, fun hx => ?_, fun _ => harr⟩
      obtain ⟨rfl, _⟩ := hp
      cases hx
  | succ j ihj =>
    intro e h n r hr hne ac g w he m hd hf hn
    have hr : (Rs.rec (motive := fun _ => Rs) .no (fun e h n => rep (evC qb F lim) j e h n) (fun id e h n => .ext id e h n) (fun e h n => .ret e h n) (rep (evC qb F lim) j e h n)) = r := hr
    cases hx : rep (evC qb F lim) j e h n with
    | no => rw [hx] at hr; exact absurd hr.symm hne
    | nor e1 h1' n1 =>
      rw [hx] at hr
      have hr : rep (evC qb F lim) j e1 h1' n1 = r := hr
      have hg2 : n1 ≤ r.top := by
        have := ge_rep (fun e h n => evC_ge hM qb lim e h n) j e1 h1' n1; rw [hr] at this
        cases r <;> first | exact absurd rfl hne | exact this
      obtain ⟨ex, a1, w1, ⟨hex, k1, g1, he1, m1, f1⟩, hs, _⟩ := ihj e h n _ hx (by simp) ac g w he m hd (hf.sub (Nat.le_refl _) hg2) (Nat.lt_of_le_of_lt hg2 hn)
      obtain ⟨ex2, a2, w2, hp2, hs2, ha2⟩ := ihj e1 h1' n1 r hr hne a1 g1 w1 he1 m1 f1.dom' (f1.fresh hf) hn
      exact ⟨ex2, a2, w2, Post.trans k1 f1 hp2, fun hx => (hs hex).trans (hs2 hx), fun hx => .of_steps (hs hex) (ha2 hx)⟩
    | ext id e1 h1' n1 =>
      rw [hx] at hr
      have hr : Rs.ext id e1 h1' n1 = r := hr
      subst hr
      exact ihj e h n _ hx (by simp) ac g w he m hd hf hn
    | ret e1 h1' n1 =>
      rw [hx] at hr
      have hr : Rs.ret e1 h1' n1 = r := hr
      subst hr
      exact ihj e h n _ hx (by simp) ac g w he m hd hf hn

theorem goC_arr {P : Program} (hP : P.follows .mixedOrders = true) {F : FF} (hF : FOK P F) (hM : F.mono) {dr : List Nat} {N : Nat} {body : Code} {fb : Frame} {k : List Item} {cs : List Frame} (hro' : fb.roundOf = (fw none).round) (hfb : (fw none).fn fb.fn) (hroom : (fw none).room (cs.length + 1 + 0)) :
    ∀ (c : Code) (l : Nat) (q : IC) (rest : Code), goC P dr N c = some (l, q, rest) → (∀ k, gotoIn l (.inScope body :: k) = some (.code rest :: .inScope body :: k)) → ∀ lim e h n r, evC q F lim e h n = r → r ≠ .no → ∀ (ac : Act) g w, EnvA N g e ac → Mem g h.get w → Dom h.get n → Fresh g n r.top → r.top < 9223372036854775808 →
      ∃ ex a' w', Post N lim g h w n ac r ex a' w' ∧ ArrivesIn (Machine.fenced P (fw none)) P (lone (fb.atR ac (.code c :: .inScope body :: k)) cs w) fb (.inScope body :: k) cs ex a' w'
  | .seq a b, l, q, rest, hc, hg, lim, e, h, n, r, hr, hne, ac, g, w, he, m, hd, hf, hn => by
    have h0 : (lone (fb.atR ac (.code (.seq a b) :: .inScope body :: k)) cs w).fenced P (fw none) := fenced_calm hfb hroom rfl
    rw [goC] at hc
    split at hc
    · rename_i l' hl
      rw [Option.map_eq_some_iff] at hc
      obtain ⟨qb, h1, h2⟩ := hc
      cases h2
      obtain rfl := isLb_eq hl
      have hr : evLoop (evC qb) F lim e h n = r := hr
      unfold evLoop at hr
      have key := go_rounds hM (lpC_sound hP hF hM b qb h1) (lim := lim) (fb := fb) (k := k) (cs := cs) hro' hfb hroom hg 20
      cases hx : rep (evC qb F lim) 20 e h n with
      | no => rw [hx] at hr; exact absurd hr.symm hne
      | nor => rw [hx] at hr; exact absurd hr.symm hne
      | ext id e1 h1' n1 =>
        rw [hx] at hr
        have hr : Rs.ext id e1 h1' n1 = r := hr
        subst hr
        obtain ⟨ex, a', w', hp, _, ha⟩ := key e h n _ hx (by simp) ac g w he m hd hf hn
        refine ⟨ex, a', w', hp, .of_steps (.head h0 stepR_seq (.one (fenced_calm hfb hroom rfl) stepR_label)) (ha ?_)⟩
        rw [hp.1]; simp
      | ret e1 h1' n1 =>
        rw [hx] at hr
        have hr : Rs.ret e1 h1' n1 = r := hr
        subst hr
        obtain ⟨ex, a', w', hp, _, ha⟩ := key e h n _ hx (by simp) ac g w he m hd hf hn
        refine ⟨ex, a', w', hp, .of_steps (.head h0 stepR_seq (.one (fenced_calm hfb hroom rfl) stepR_label)) (ha ?_)⟩
        rw [hp.1]; simp
    · split at hc
      case h_2 => cases hc
      rename_i qa l' q' r' h1 h2
      split at hc
      case isFalse => cases hc
      cases hc
      have hr : evSeq (evC qa) (evC q') F lim e h n = r := hr
      unfold evSeq at hr
      cases hx : evC qa F lim e h n with
      | no => rw [hx] at hr; exact absurd hr.symm hne
      | nor e1 h1' n1 =>
        rw [hx] at hr
        have hr : evC q' F lim e1 h1' n1 = r := hr
        have hg2 : n1 ≤ r.top := by
          have := evC_ge hM q' lim e1 h1' n1; rw [hr] at this
          cases r <;> first | exact absurd rfl hne | exact this
        obtain ⟨ex, a1, w1, ⟨rfl, k1, g1, he1, m1, f1⟩, harr⟩ := evC_sound hP hF hM a qa h1 lim e h n _ hx (by simp) ac g w he m hd (hf.sub (Nat.le_refl _) hg2) (Nat.lt_of_le_of_lt hg2 hn) none (.inl rfl) fb (.code b :: .inScope body :: k) cs hro' hfb hroom
        obtain ⟨ex2, a2, w2, hp2, harr2⟩ := goC_arr hP hF hM hro' hfb hroom b l q' rest h2 hg lim e1 h1' n1 r hr hne a1 g1 w1 he1 m1 f1.dom' (f1.fresh hf) hn
        exact ⟨ex2, a2, w2, Post.trans k1 f1 hp2, .of_steps (.head h0 stepR_seq harr) harr2⟩
      | ext id e1 h1' n1 =>
        rw [hx] at hr
        have hr : Rs.ext id e1 h1' n1 = r := hr
        subst hr
        obtain ⟨ex, a1, w1, hp, harr⟩ := evC_sound hP hF hM a qa h1 lim e h n _ hx (by simp) ac g w he m hd hf hn none (.inl rfl) fb (.code b :: .inScope body :: k) cs hro' hfb hroom
        obtain ⟨rfl, hp⟩ := hp
        exact ⟨_, a1, w1, ⟨rfl, hp⟩, .of_steps (.one h0 stepR_seq) (.pass (x := .code b) rfl (fun _ _ => .inl (by simp)) harr)⟩
      | ret e1 h1' n1 =>
        rw [hx] at hr
        have hr : Rs.ret e1 h1' n1 = r := hr
        subst hr
        obtain ⟨ex, a1, w1, hp, harr⟩ := evC_sound hP hF hM a qa h1 lim e h n _ hx (by simp) ac g w he m hd hf hn none (.inl rfl) fb (.code b :: .inScope body :: k) cs hro' hfb hroom
        obtain ⟨rfl, hp⟩ := hp
        exact ⟨_, a1, w1, ⟨rfl, hp⟩, .of_steps (.one h0 stepR_seq) (.pass (x := .code b) rfl (fun _ _ => .inl (by simp)) harr)⟩
  | .skip, _, _, _, h, _, _, _, _, _, _, _, _, _, _, _, _, _, _, _, _ => by cases h
  | .region .., _, _, _, h, _, _, _, _, _, _, _, _, _, _, _, _, _, _, _, _ => by cases h
  | .cond .., _, _, _, h, _, _, _, _, _, _, _, _, _, _, _, _, _, _, _, _ => by cases h
  | .block .., _, _, _, h, _, _, _, _, _, _, _, _, _, _, _, _, _, _, _, _ => by cases h
  | .loop .., _, _, _, h, _, _, _, _, _, _, _, _, _, _, _, _, _, _, _, _ => by cases h
  | .rangeFunc .., _, _, _, h, _, _, _, _, _, _, _, _, _, _, _, _, _, _, _, _ => by cases h
  | .exit .., _, _, _, h, _, _, _, _, _, _, _, _, _, _, _, _, _, _, _, _ => by cases h
  | .scope .., _, _, _, h, _, _, _, _, _, _, _, _, _, _, _, _, _, _, _, _ => by cases h
  | .label .., _, _, _, h, _, _, _, _, _, _, _, _, _, _, _, _, _, _, _, _ => by cases h
  | .goto .., _, _, _, h, _, _, _, _, _, _, _, _, _, _, _, _, _, _, _, _ => by cases h
  | .ret, _, _, _, h, _, _, _, _, _, _, _, _, _, _, _, _, _, _, _, _ => by cases h
  | .refuse .., _, _, _, h, _, _, _, _, _, _, _, _, _, _, _, _, _, _, _, _ => by cases h

theorem goC_sound {P : Program} (hP : P.follows .mixedOrders = true) {F : FF} (hF : FOK P F) (hM : F.mono) {dr : List Nat} {N : Nat} {body : Code} {l : Nat} {q : IC} {rest : Code} (hc : goC P dr N body = some (l, q, rest)) : SoundN P F N (.scope body) q := by
  intro lim e h n r hr hne a g w he m hd hf hn b k cs hro hb hroom
  have h0 : (lone (b.atR a (.code (.scope body) :: k)) cs w).fenced P (fw none) := fenced_calm hb hroom rfl
  have hg : ∀ k, gotoIn l (.inScope body :: k) = some (.code rest :: .inScope body :: k) := fun k => by simp [gotoIn, goC_find hc]
  obtain ⟨ex, a1, w1, hp, harr⟩ := goC_arr hP hF hM (k := k) hro hb hroom body l q rest hc hg lim e h n r hr hne a g w he m hd hf hn
  cases r with
  | no => exact absurd rfl hne
  | nor e1 h1 n1 =>
    obtain ⟨rfl, hp⟩ := hp
    exact ⟨.normal, a1, w1, ⟨rfl, hp⟩, .head h0 stepR_scope (StepsIn.trans harr (.one (fenced_calm hb hroom rfl) stepR_inScope))⟩
  | ext id e1 h1 n1 =>
    obtain ⟨rfl, hp⟩ := hp
    exact ⟨.exit id, a1, w1, ⟨rfl, hp⟩, fun k' hk => .head h0 stepR_scope (harr.1 k' (by simp [exitTo, hk])), fun hr1 hk => let ⟨k₁, h1, h2⟩ := harr.2 hr1 (by simp [exitTo, hk]); ⟨k₁, h1, .head h0 stepR_scope h2⟩⟩
  | ret e1 h1 n1 =>
    obtain ⟨rfl, hp⟩ := hp
    exact ⟨_, a1, w1, ⟨rfl, hp⟩, .of_steps (.one h0 stepR_scope) harr⟩
/-- A body that ends with such a scope. -/
def gC (P : Program) (dr : List Nat) (N : Nat) : Code → Option IC
  | .seq a b => match compC P dr N a, gC P dr N b with
    | some qa, some qb => some (.seq qa qb)
    | _, _ => none
  | .scope b => (goC P dr N b).map fun x => x.2.1
  | _ => none
theorem gC_sound {P : Program} (hP : P.follows .mixedOrders = true) {F : FF} (hF : FOK P F) (hM : F.mono) {dr : List Nat} {N : Nat} : ∀ (c : Code) (q : IC), gC P dr N c = some q → SoundN P F N c q
  | .seq a b, q, hc => by
    simp only [gC] at hc
    split at hc
    case h_2 => cases hc
    rename_i qa qb h1 h2
    cases hc
    intro lim e h n r hr hne ac g w he m hd hf hn
    have hr : evSeq (evC qa) (evC qb) F lim e h n = r := hr
    unfold evSeq at hr
    refine wpIn_seq ?_
    cases hx : evC qa F lim e h n with
    | no => rw [hx] at hr; exact absurd hr.symm hne
    | nor e1 h1' n1 =>
      rw [hx] at hr
      have hr : evC qb F lim e1 h1' n1 = r := hr
      have hg2 : n1 ≤ r.top := by
        have := evC_ge hM qb lim e1 h1' n1; rw [hr] at this
        cases r <;> first | exact absurd rfl hne | exact this
      refine wpIn_mono (evC_sound hP hF hM a qa h1 lim e h n _ hx (by simp) ac g w he m hd (hf.sub (Nat.le_refl _) hg2) (Nat.lt_of_le_of_lt hg2 hn) none (.inl rfl)) ?_
      rintro ex a' w' ⟨rfl, k1, g1, he1, m1, f1⟩
      exact wpIn_mono (gC_sound hP hF hM b qb h2 lim e1 h1' n1 r hr hne a' g1 w' he1 m1 f1.dom' (f1.fresh hf) hn) fun _ _ _ hp => Post.trans k1 f1 hp
    | ext id e1 h1' n1 =>
      rw [hx] at hr
      have hr : Rs.ext id e1 h1' n1 = r := hr
      subst hr
      refine wpIn_mono (evC_sound hP hF hM a qa h1 lim e h n _ hx (by simp) ac g w he m hd hf hn none (.inl rfl)) ?_
      rintro ex a' w' ⟨rfl, hp⟩
      exact ⟨rfl, hp⟩
    | ret e1 h1' n1 =>
      rw [hx] at hr
      have hr : Rs.ret e1 h1' n1 = r := hr
      subst hr
      refine wpIn_mono (evC_sound hP hF hM a qa h1 lim e h n _ hx (by simp) ac g w he m hd hf hn none (.inl rfl)) ?_
      rintro ex a' w' ⟨rfl, hp⟩
      exact ⟨rfl, hp⟩
  | .scope b, q, hc => by
    simp only [gC, Option.map_eq_some_iff] at hc
    obtain ⟨⟨l, q', rest⟩, h1, rfl⟩ := hc
    exact goC_sound hP hF hM h1
  | .skip, _, h => by cases h
  | .region .., _, h => by cases h
  | .cond .., _, h => by cases h
  | .block .., _, h => by cases h
  | .loop .., _, h => by cases h
  | .rangeFunc .., _, h => by cases h
  | .exit .., _, h => by cases h
  | .label .., _, h => by cases h
  | .goto .., _, h => by cases h
  | .ret, _, h => by cases h
  | .refuse .., _, h => by cases h
theorem runB_soundS {P : Program} (hP : P.follows .mixedOrders = true) {F : FF} (hF : FOK P F) (hM : F.mono) {f : Nat} {fn : Func} {c : Code} (hfn : P.funcs[f]? = some fn) (hb : fn.body = some c) {q : IC} {res : List RV} (hs : SoundN P F fn.ntmps c q) (hres : compRVs P fn.results.toList = some res)
    (drop : Bool) {args : L} {lim n n' : Nat} {h h' : Hp} {v : V} (hr : runB drop q res F args lim h n = .ok v h' n') (hdr : drop = true → lim = n) {vs : List Value} {g : Sig} {w : World} (ha : args.rel g vs) (hgk : GOK g) (hal : args.length < 4294967296) (m : Mem g h.get w) (hd : Dom h.get n) (hf : Fresh g n n') (hn : n' < 9223372036854775808) :
    Calls P f ⟨vs⟩ w fun e w' => ∃ u g', e = .returned u ∧ v.rel g' u ∧ Mem g' h'.get w' ∧ Fr lim n g h.get w n' g' h'.get w' := by
  refine callsIn_wide.1 (callsIn_of_wp_marks (F := Fence.wide) (n := 0) hfn hb trivial ?_)
  have fin : ∀ (e1 : Tr) (h1 : Hp) (n1 : Nat), endF drop h res e1 h1 n1 = .ok v h' n' → ∀ (a' : Act) (g1 : Sig) (w' : World), EnvA fn.ntmps g1 e1 a' → Mem g1 h1.get w' → Fr lim n g h.get w n1 g1 h1.get w' → Mk w.heap.size w' a' →
      LeavesInM Fence.wide 0 P fn a'.tmps (fun e w' => ∃ u g', e = .returned u ∧ v.rel g' u ∧ Mem g' h'.get w' ∧ Fr lim n g h.get w n' g' h'.get w') a'.defers .returning w' := by
    intro e1 h1 n1 he a' g1 w' hE m1 f1 hmk
    obtain ⟨hk, rfl, rfl, rfl⟩ := endF_ok he
    refine leave_marks a'.defers w' hmk.1 hmk.2 fun w2 e2 => ?_
    obtain ⟨u, r1, r2⟩ := evRes_sound hE (e2.mem m1) hres hk
    refine ⟨u, r1, u, g1, rfl, r2, ?_⟩
    cases drop with
    | false => exact ⟨e2.mem m1, e2.fr f1⟩
    | true =>
      have := hdr rfl
      subst this
      exact dropped m hd hf (e2.fr f1)
  have m0 : Mk w.heap.size w { tmps := (⟨vs⟩ : Array Value) ++ Array.replicate (fn.ntmps - (⟨vs⟩ : Array Value).size) undef, defers := [] } := ⟨List.nodup_nil, fun d hd => by simp at hd⟩
  unfold runB at hr
  cases hx : evC q F lim (bind args 0 .lf) h n with
  | no => rw [hx] at hr; cases hr
  | ext => rw [hx] at hr; cases hr
  | nor e1 h1 n1 =>
    rw [hx] at hr
    have hr : endF drop h res e1 h1 n1 = .ok v h' n' := hr
    have hnn : n1 = n' := (endF_ok hr).2.2.2.symm
    refine wpIn_mono (hs lim _ h n _ hx (by simp) _ g w (env_bind hgk ha hal fn.ntmps) m hd (hnn ▸ hf) (hnn ▸ hn)) ?_
    rintro ex a' w' ⟨rfl, k1, g1, hE, m1, f1⟩
    exact fin e1 h1 n1 hr a' g1 w' hE m1 f1 (k1.2 _ (Nat.le_refl _) m0)
  | ret e1 h1 n1 =>
    rw [hx] at hr
    have hr : endF drop h res e1 h1 n1 = .ok v h' n' := hr
    have hnn : n1 = n' := (endF_ok hr).2.2.2.symm
    refine wpIn_mono (hs lim _ h n _ hx (by simp) _ g w (env_bind hgk ha hal fn.ntmps) m hd (hnn ▸ hf) (hnn ▸ hn)) ?_
    rintro ex a' w' ⟨rfl, k1, g1, hE, m1, f1⟩
    exact fin e1 h1 n1 hr a' g1 w' hE m1 f1 (k1.2 _ (Nat.le_refl _) m0)


/-- A function by its code as a loop. -/
noncomputable def goS (drop : Bool) (q : IC) (res : List RV) (F : FF) (args : L) (lim : Nat) (h : Hp) (n : Nat) : Res :=
  Bool.rec .no (runB drop q res F args n h n) (and (Nat.ble lim n) (Nat.ble args.length 4294967294))
theorem goS_mo (drop : Bool) (q : IC) (res : List RV) {F : FF} (hM : F.mono) : SMo (goS drop q res F) := fun args lim h n => by
  unfold goS
  cases and (Nat.ble lim n) (Nat.ble args.length 4294967294)
  · trivial
  · exact ge_runB hM _ _ _ _ _ _ _
theorem goS_ok {P : Program} (hP : P.follows .mixedOrders = true) {F : FF} (hF : FOK P F) (hM : F.mono) {f : Nat} {fn : Func} {c : Code} (hfn : P.funcs[f]? = some fn) (hnm : (fn.name == "runtime.NumGoroutine") = false) (hb : fn.body = some c) {dr : List Nat} {q : IC} {res : List RV}
    (hq : gC P dr fn.ntmps c = some q) (hres : compRVs P fn.results.toList = some res) (drop : Bool) : SOK P f (goS drop q res F) := fun args lim h n v h' n' hr => by
  unfold goS at hr
  cases hbb : and (Nat.ble lim n) (Nat.ble args.length 4294967294)
  · rw [hbb] at hr; cases hr
  · rw [hbb] at hr
    simp only [Bool.and_eq_true, Nat.ble_eq] at hbb
    intro vs g w ha hgk m hd hf hn
    refine ⟨⟨fn, hfn, hnm, by rw [hb]; rfl⟩, ?_⟩
    refine (runB_soundS hP hF hM hfn hb (gC_sound hP hF hM c q hq) hres drop hr (fun _ => rfl) ha hgk (by omega) m hd hf hn).mono ?_
    rintro e w' ⟨u, g', h1, h2, h3, h4⟩
    exact ⟨u, g', h1, h2, h3, h4.weak hbb.1⟩
end Go.Proofs.Ytkdbnhjipnnhjaa.Ev
/- A function with a goto, evaluated as a loop. -/
namespace Go.Proofs.Ytkdbnhjipnnhjaa.Ev
set_option linter.unusedVariables false
set_option maxRecDepth 100000
open Go Go.Proofs Go.RowKit
noncomputable def gb56 : Code := match Try.f56.body with | some b => b | _ => .skip
theorem ghb56 : Try.f56.body = some gb56 := by kernel_rfl
noncomputable def gq56 : IC := (.seq (.reg (.cons (some x1x) none (.box 61 (.t x0x)) (.cons (some x2x) none (.mv (.c .ns)) .nil))) (.seq (.reg (.cons (some x3x) none (.mv (.c .ns)) .nil)) (.loop (.seq (.reg 
  (.cons (some x9x) none (.ld 65 true (.t x1x)) (.cons (some x10x) none (.call 49 (.cons (.t x9x) .nil)) (.cons (some x8x) none (.mv (.t x10x)) (.cons (some x11x) none (.ext 0 (.t 
  x8x)) (.cons (some x12x) none (.ext 1 (.t x8x)) (.cons (some x4x) none (.alloc 83 (.cons (.n 0) (.cons (.n 0) (.cons (.n 0) .nil))) 3) (.cons none none (.st 3 (.t x4x) (.t x11x)) 
  (.cons (some x5x) none (.mv (.t x12x)) .nil))))))))) (.seq (.seq (.reg (.cons (some x13x) none (.mv (.t x5x)) (.cons (some x14x) none (.not (.t x13x)) .nil))) (.cond (.t x14x) 
  (.seq (.reg (.cons (some x15x) none (.mv (.t x3x)) (.cons (some x2x) none (.mv (.t x15x)) .nil))) .ret) .skip)) (.seq (.seq (.reg (.cons (some x16x) none (.ld 65 true (.t x1x)) 
  (.cons (some x17x) none (.ld 3 true (.t x4x)) (.cons (some x18x) none (.call 61 (.cons (.t x16x) (.cons (.t x17x) .nil))) (.cons (some x19x) none (.len (.t x18x)) (.cons (some 
  x20x) none (.mv (.c (.n 0))) .nil)))))) (.block 0 (.loop (.seq (.reg (.cons (some x21x) none (.bin .lss (.t x20x) (.t x19x)) .nil)) (.seq (.cond (.t x21x) .skip (.exit 0)) (.seq 
  (.block 1 (.seq (.reg (.cons (some x22x) none (.ixs 2 (.t x18x) (.t x20x)) (.cons (some x23x) none (.ld 2 true (.t x22x)) (.cons (some x7x) none (.alloc 66 (.cons (.n 0) (.cons 
  (.n 0) .nil)) 2) (.cons none none (.st 2 (.t x7x) (.t x23x)) .nil))))) (.seq (.reg (.cons (some x24x) none (.ixa 2 1 (.t x7x) (.c (.n 0))) (.cons (some x25x) none (.ld 1 false 
  (.t x24x)) (.cons (some x26x) none (.ixa 2 1 (.t x7x) (.c (.n 1))) (.cons (some x27x) none (.ld 1 false (.t x26x)) (.cons (some x28x) none (.call 55 (.cons (.t x1x) (.cons (.t 
  x25x) (.cons (.t x27x) .nil)))) .nil)))))) (.reg (.cons (some x29x) none (.mv (.t x3x)) (.cons (some x30x) none (.ld 2 true (.t x7x)) (.cons (some x31x) none (.bsl 66 2 1 (.cons 
  (.n 0) (.cons (.n 0) .nil)) (.cons 0 2 (.t x30x) .nil)) (.cons (some x32x) none (.app 66 2 16 (.t x29x) (.t x31x)) (.cons (some x3x) none (.mv (.t x32x)) .nil))))))))) (.reg 
  (.cons (some x33x) none (.bin .add (.t x20x) (.c (.n 1))) (.cons (some x20x) none (.mv (.t x33x)) .nil))))))))) .skip))))))
noncomputable def gr56 : List RV := [(.tmp x2x)]
theorem ghq56 : gC Try.prog drops Try.f56.ntmps gb56 = some gq56 := by kernel_rfl
theorem ghr56 : compRVs Try.prog Try.f56.results.toList = some gr56 := by kernel_rfl
theorem ghn56 : (Try.f56.name == "runtime.NumGoroutine") = false := by kernel_rfl
noncomputable def WG (G : FF) : FF := ov 56 (goS false gq56 gr56 (EF 60)) G
theorem WG_mono (G : FF) (h : G.mono) : (WG G).mono := ov_mono (goS_mo _ _ _ (EF_mono 60)) h
theorem WG_ok (G : FF) (h : FOK Try.prog G) : FOK Try.prog (WG G) := ov_ok (goS_ok follows (EF_ok 60) (EF_mono 60) Try.func56 ghn56 ghb56 ghq56 ghr56 false) h
noncomputable def EX (d : Nat) : FF := EQ WG d
theorem EX_ok (d : Nat) : FOK Try.prog (EX d) := EQ_ok WG_mono WG_ok d
theorem EX_mono (d : Nat) : (EX d).mono := EQ_mono WG_mono d
end Go.Proofs.Ytkdbnhjipnnhjaa.Ev
/- One answer for one list of plain arguments, evaluated once and then told. -/
namespace Go.Proofs.Ytkdbnhjipnnhjaa.Ev
set_option linter.unusedVariables false
open Go Go.Proofs Go.RowKit
noncomputable def spE (a : L) (x : V) (args : L) (_ : Nat) (h : Hp) (n : Nat) : Res := Bool.rec .no (.ok x h n) (eqL args a)
theorem spE_mo (a : L) (x : V) : SMo (spE a x) := fun args lim h n => by
  unfold spE
  cases eqL args a with
  | false => trivial
  | true => exact Nat.le_refl n
noncomputable def isX (x : V) (r : Res) : Bool := Res.rec false (fun v _ n => and (eqV v x) (Nat.blt n 9223372036854775808)) r
theorem isX_ok {x : V} {r : Res} (h : isX x r = true) : ∃ h' n', r = .ok x h' n' ∧ n' < 9223372036854775808 := by
  cases r with
  | no => cases h
  | ok v h' n' =>
    have h : and (eqV v x) (Nat.blt n' 9223372036854775808) = true := h
    simp only [Bool.and_eq_true, Nat.blt_eq] at h
    exact ⟨h', n', by rw [eqV_eq _ _ h.1], h.2⟩
theorem spE_ok {P : Program} {F : FF} (hF : FOK P F) {f : Nat} {a : L} {x : V} (hk : isX x (F f a 256 .lf 256) = true) (hpa : a.pur = true) (hpx : x.pur = true) : SOK P f (spE a x) := fun args lim h n v h' n' hr => by
  unfold spE at hr
  cases he : eqL args a with
  | false => rw [he] at hr; cases hr
  | true =>
    rw [he] at hr
    cases hr
    rw [eqL_eq _ _ he]
    obtain ⟨h1, n1, e1, e2⟩ := isX_ok hk
    exact callsAny rfl (hF.1 f a 256 .lf 256 x h1 n1 e1) e2 hpa hpx lim _ _
end Go.Proofs.Ytkdbnhjipnnhjaa.Ev
/- A stage of which some slots and the cells of some blocks are kept. -/
namespace Go.Proofs.Ytkdbnhjipnnhjaa.Ev
set_option linter.unusedVariables false
open Go Go.Proofs Go.RowKit
noncomputable def okB (el : TypeId) (l : L) (ob : Option Blk) : Bool := Option.rec false (fun b => and (Nat.beq b.el el) (and (Nat.ble l.length b.size) (eqL (b.getL 0 l.length) l))) ob
theorem okB_le {el : TypeId} {l : L} {ob : Option Blk} (h : okB el l ob = true) : ∃ b, ob = some b ∧ BlkLe (blkL el l) b := by
  cases ob with
  | none => cases h
  | some b =>
    have h : and (Nat.beq b.el el) (and (Nat.ble l.length b.size) (eqL (b.getL 0 l.length) l)) = true := h
    simp only [Bool.and_eq_true, Nat.beq_eq, Nat.ble_eq] at h
    refine ⟨b, rfl, .inl rfl, h.1.symm, h.2.1, fun k hk => .inr ?_⟩
    have hk : k < l.length := hk
    rw [blkL_cell el l k hk, ← eqL_eq _ _ h.2.2, getL_get b _ _ _ hk, Nat.zero_add]
noncomputable def hpC : List (Nat × TypeId × L) → Hp
  | [] => .lf
  | x :: l => (hpC l).put (some (blkL x.2.1 x.2.2)) (tp x.1)
noncomputable def okK (h : Hp) (bl : List (Nat × TypeId × L)) : Bool := List.rec true (fun x _ ih => and (okB x.2.1 x.2.2 (h.get (tp x.1))) ih) bl
theorem okK_le {h : Hp} : ∀ {l : List (Nat × TypeId × L)}, okK h l = true → HpLe (hpC l) h
  | [], _ => HpLe.lf h
  | x :: l, e => by
    have e : and (okB x.2.1 x.2.2 (h.get (tp x.1))) (okK h l) = true := e
    rw [Bool.and_eq_true] at e
    exact HpLe.put (okB_le e.1) (okK_le e.2)
noncomputable def obsC (m : Nat) (ts : List Nat) (bl : List (Nat × TypeId × L)) (r : Rs) : Bool × List V × Bool := (pcN m r, ts.map (fun t => (pcE r).get (tp t)), okK (pcH r) bl)
theorem JQ.stageC {P : Program} (hP : P.follows .mixedOrders = true) {dr : List Nat} {N lim n m : Nat} {F : FF} (hF : FOK P F) (hM : F.mono) {q qb : IC} (ps : List IC) {K : Rs → Prop} {e : Tr} {h : Hp} (l : List (Nat × V)) (bl : List (Nat × TypeId × L)) (hq : q = seqs ps qb)
    (hk : obsC m (l.map Prod.fst) bl (runP F lim m ps (.nor e h n)) = (true, l.map Prod.snd, true)) (hl : (l.all fun x => decide (x.1 < 4294967296)) = true) (hm : m < big)
    (j : JQ P dr N F qb lim K (mkE l) (hpC bl) m) : JQ P dr N F q lim K e h n := by
  subst hq
  unfold obsC at hk
  simp only [Prod.mk.injEq] at hk
  obtain ⟨h1, h2, h3⟩ := hk
  obtain ⟨n1, h4, h5⟩ := pcN_ok h1
  exact JQ.pieces hP hF hM hm h5 (JQ.later h5 (JQ.weak (mkE_le hl h2) (okK_le h3) j)) ps h4
/-! To look at places: numbers only. -/
noncomputable def pnV (v : V) : Nat := onS v (fun p _ _ _ _ => p.num) 0 (onP v (fun p _ => p.num) 0)
noncomputable def cellH (h : Hp) (v : V) (k : Nat) : V := onS v (fun p o _ _ _ => Option.rec .bad (fun b => Blk.cell b (Nat.add o k)) (h.get p)) .bad (onP v (fun p o => Option.rec .bad (fun b => Blk.cell b (Nat.add o k)) (h.get p)) .bad)
noncomputable def encN (l : List Nat) : Nat := List.rec 1 (fun x _ ih => Nat.add (Nat.mul ih 1000000) x) l
end Go.Proofs.Ytkdbnhjipnnhjaa.Ev
/- A stage of which whole blocks (tables) and the cells of others are kept; a loop whose rounds are evaluated one by one: the state ahead of each round is told. -/
namespace Go.Proofs.Ytkdbnhjipnnhjaa.Ev
set_option linter.unusedVariables false
open Go Go.Proofs Go.RowKit
noncomputable def hpX (h0 : Hp) : List (Nat × Blk) → Hp
  | [] => h0
  | x :: l => (hpX h0 l).put (some x.2) (tp x.1)
theorem hpX_le {h0 h : Hp} (hl : HpLe h0 h) : ∀ {l : List (Nat × Blk)}, (l.map fun x => h.get (tp x.1)) = (l.map fun x => some x.2) → HpLe (hpX h0 l) h
  | [], _ => hl
  | x :: l, e => by
    simp only [List.map_cons, List.cons.injEq] at e
    exact HpLe.put ⟨x.2, e.1, BlkLe.refl _⟩ (hpX_le hl e.2)
noncomputable def obsD (m : Nat) (ts ks : List Nat) (bl : List (Nat × TypeId × L)) (r : Rs) : Bool × List V × List (Option Blk) × Bool := (pcN m r, ts.map (fun t => (pcE r).get (tp t)), ks.map (fun k => (pcH r).get (tp k)), okK (pcH r) bl)
noncomputable def isD (l : List (Nat × V)) (tb : List (Nat × Blk)) : Bool × List V × List (Option Blk) × Bool := (true, l.map Prod.snd, tb.map (fun x => some x.2), true)
theorem JQ.stageD {P : Program} (hP : P.follows .mixedOrders = true) {dr : List Nat} {N lim n m : Nat} {F : FF} (hF : FOK P F) (hM : F.mono) {q qb : IC} (ps : List IC) {K : Rs → Prop} {e : Tr} {h : Hp} (l : List (Nat × V)) (tb : List (Nat × Blk)) (bl : List (Nat × TypeId × L)) (hq : q = seqs ps qb)
    (hk : obsD m (l.map Prod.fst) (tb.map Prod.fst) bl (runP F lim m ps (.nor e h n)) = isD l tb) (hl : (l.all fun x => decide (x.1 < 4294967296)) = true) (hm : m < big)
    (j : JQ P dr N F qb lim K (mkE l) (hpX (hpC bl) tb) m) : JQ P dr N F q lim K e h n := by
  subst hq
  unfold obsD isD at hk
  simp only [Prod.mk.injEq] at hk
  obtain ⟨h1, h2, h3, h4⟩ := hk
  obtain ⟨n1, h5, h6⟩ := pcN_ok h1
  rw [List.map_map] at h3
  exact JQ.pieces hP hF hM hm h6 (JQ.later h6 (JQ.weak (mkE_le hl h2) (hpX_le (okK_le h4) h3) j)) ps h5
theorem JQ.count {P : Program} (hP : P.follows .mixedOrders = true) {dr : List Nat} {N lim n : Nat} {F : FF} (hF : FOK P F) (hM : F.mono) {qb : IC} {K : Rs → Prop} {e : Tr} {h : Hp} (top : Nat) (env : Nat → Tr) (hp : Nat → Hp) (nn : Nat → Nat) (hnn : ∀ k, k ≤ top → nn k < big)
    (h0 : EnvLe (env 0) e) (h1 : HpLe (hp 0) h) (h2 : n ≤ nn 0)
    (rd : ∀ k, k < top → ∃ e' h' n', (kC qb nK).f F lim (env k) (hp k) (nn k) = .nor e' h' n' ∧ EnvLe (env (k + 1)) e' ∧ HpLe (hp (k + 1)) h' ∧ n' ≤ nn (k + 1))
    (hend : ∃ i e' h' n', (kC qb nK).f F lim (env top) (hp top) (nn top) = .ext i e' h' n' ∧ n' < big ∧ K (.ext i e' h' n')) : JQ P dr N F (.loop qb) lim K e h n := by
  refine JQ.loop (σ := Nat × Nat) (fun s => s.1 ≤ top ∧ s.2 ≤ nn s.1) (fun s => env s.1) (fun s => hp s.1) (fun s => s.2) (fun s => top + 1 - s.1) (0, n) ⟨Nat.zero_le _, h2⟩ h0 h1 rfl ?_
  rintro ⟨k, n1⟩ ⟨hk, hn1⟩
  have hk : k ≤ top := hk
  have hn1 : n1 ≤ nn k := hn1
  refine JQ.later hn1 (JQ.run hP hF hM ?_)
  rcases Nat.lt_or_eq_of_le hk with hlt | rfl
  · obtain ⟨e', h', n', h3, h4, h5, h6⟩ := rd k hlt
    rw [kC_eq, onC_nK] at h3
    show Got _ (evC qb F lim (env k) (hp k) (nn k))
    rw [h3]
    exact ⟨Nat.lt_of_le_of_lt h6 (hnn _ hlt), (k + 1, n'), ⟨hlt, h6⟩, by show top + 1 - (k + 1) < top + 1 - k; omega, h4, h5, rfl⟩
  · obtain ⟨i, e', h', n', h3, h4, h5⟩ := hend
    rw [kC_eq, onC_nK] at h3
    show Got _ (evC qb F lim (env k) (hp k) (nn k))
    rw [h3]
    exact ⟨h4, h5⟩
/-- A round that is evaluated. -/
noncomputable def rndB (m : Nat) (l : List (Nat × V)) (bl : List (Nat × TypeId × L)) (r : Rs) : Bool := and (pcN m r) (and (List.rec true (fun x _ ih => and (eqV ((pcE r).get (tp x.1)) x.2) ih) l) (okK (pcH r) bl))
theorem eqs_ok {e : Tr} : ∀ {l : List (Nat × V)}, (l.all fun x => decide (x.1 < 4294967296)) = true → (List.rec true (fun x _ ih => and (eqV (e.get (tp x.1)) x.2) ih) l : Bool) = true → EnvLe (mkE l) e
  | [], _, _ => EnvLe.lf e
  | (t, v) :: l, hl, h => by
    simp only [List.all_cons, Bool.and_eq_true, decide_eq_true_eq] at hl
    have h : and (eqV (e.get (tp t)) v) (List.rec true (fun x _ ih => and (eqV (e.get (tp x.1)) x.2) ih) l) = true := h
    rw [Bool.and_eq_true] at h
    exact EnvLe.set hl.1 (eqV_eq _ _ h.1) (eqs_ok hl.2 h.2)
theorem rndB_ok {m : Nat} {l : List (Nat × V)} {bl : List (Nat × TypeId × L)} {r : Rs} (hl : (l.all fun x => decide (x.1 < 4294967296)) = true) (h : rndB m l bl r = true) : ∃ e' h' n', r = .nor e' h' n' ∧ EnvLe (mkE l) e' ∧ HpLe (hpC bl) h' ∧ n' ≤ m := by
  unfold rndB at h
  rw [Bool.and_eq_true, Bool.and_eq_true] at h
  obtain ⟨n', h1, h2⟩ := pcN_ok h.1
  exact ⟨_, _, n', h1, eqs_ok hl h.2.1, okK_le h.2.2, h2⟩
/-- A loop's end that is evaluated. -/
noncomputable def isExt (i : Nat) (r : Rs) : Bool := Rs.rec false (fun _ _ _ => false) (fun j _ _ n => and (Nat.beq j i) (Nat.blt n 9223372036854775808)) (fun _ _ _ => false) r
noncomputable def exE (r : Rs) : Tr := Rs.rec (motive := fun _ => Tr) .lf (fun e _ _ => e) (fun _ e _ _ => e) (fun _ _ _ => .lf) r
noncomputable def exH (r : Rs) : Hp := Rs.rec (motive := fun _ => Hp) .lf (fun _ h _ => h) (fun _ _ h _ => h) (fun _ _ _ => .lf) r
noncomputable def exB (i m : Nat) (l : List (Nat × V)) (bl : List (Nat × TypeId × L)) (r : Rs) : Bool := Rs.rec false (fun _ _ _ => false) (fun j e h n => and (Nat.beq j i) (and (Nat.ble n m) (and (List.rec true (fun x _ ih => and (eqV (e.get (tp x.1)) x.2) ih) l) (okK h bl)))) (fun _ _ _ => false) r
theorem exB_ok {i m : Nat} {l : List (Nat × V)} {bl : List (Nat × TypeId × L)} {r : Rs} (hl : (l.all fun x => decide (x.1 < 4294967296)) = true) (h : exB i m l bl r = true) : ∃ e' h' n', r = .ext i e' h' n' ∧ EnvLe (mkE l) e' ∧ HpLe (hpC bl) h' ∧ n' ≤ m := by
  cases r with
  | ext j e h' n =>
    have h : and (Nat.beq j i) (and (Nat.ble n m) (and (List.rec true (fun x _ ih => and (eqV (e.get (tp x.1)) x.2) ih) l) (okK h' bl))) = true := h
    simp only [Bool.and_eq_true, Nat.beq_eq, Nat.ble_eq] at h
    exact ⟨e, h', n, by rw [h.1], eqs_ok hl h.2.2.1, okK_le h.2.2.2, h.2.1⟩
  | _ => cases h
end Go.Proofs.Ytkdbnhjipnnhjaa.Ev
/- works() of the quarrels, evaluated. -/
namespace Go.Proofs.Ytkdbnhjipnnhjaa.Ev
set_option linter.unusedVariables false
set_option maxRecDepth 100000
open Go Go.Proofs Go.RowKit
theorem works_eval : isX (.b true) (EX 60 11 .nil 256 .lf 256) = true := by kernel_rfl
noncomputable def WW (G : FF) : FF := ovF 11 (spE .nil (.b true)) (WG G)
noncomputable def EW (d : Nat) : FF := EQ WW d
theorem WW_mono (G : FF) (h : G.mono) : (WW G).mono := ovF_mono (spE_mo _ _) (WG_mono G h)
theorem WW_ok (G : FF) (h : FOK Try.prog G) : FOK Try.prog (WW G) := ovF_ok (spE_ok (EX_ok 60) works_eval rfl rfl) (WG_ok G h)
theorem EW_ok (d : Nat) : FOK Try.prog (EW d) := EQ_ok WW_mono WW_ok d
theorem EW_mono (d : Nat) : (EW d).mono := EQ_mono WW_mono d
end Go.Proofs.Ytkdbnhjipnnhjaa.Ev
/- A run whose end is a slice of plain cells. -/
namespace Go.Proofs.Ytkdbnhjipnnhjaa.Ev
set_option linter.unusedVariables false
open Go
noncomputable def finSV (el esz len : Nat) (l : L) (v : V) (h : Hp) (n : Nat) : Bool := match v with
  | .sl p off esz' len' none => and (Nat.beq esz' esz) (and (Nat.beq len' len) (and (Nat.ble 256 p.num) (and (Nat.blt p.num n) (match h.get p with
    | some b => and (Nat.beq b.el el) (and (Nat.ble (off + l.length) b.size) (eqL (b.getL off l.length) l))
    | none => false))))
  | _ => false
noncomputable def finSB (el esz len : Nat) (l : L) (res : List RV) (e : Tr) (h : Hp) (n : Nat) : Bool := and (evRVs e h res).known (and (finSV el esz len l (evRes e h res) h n) (Nat.blt n 9223372036854775808))
noncomputable def finS (el esz len : Nat) (l : L) (res : List RV) (r : Rs) : Bool := Rs.rec false (fun e h n => finSB el esz len l res e h n) (fun _ _ _ _ => false) (fun e h n => finSB el esz len l res e h n) r
theorem finSB_ok {el esz len : Nat} {l : L} (hl : l.pur = true ∧ l.length = len * esz) {res : List RV} {e : Tr} {h : Hp} {n : Nat} (hf : finSB el esz len l res e h n = true) : n < big ∧ (evRVs e h res).known = true ∧ Good 0 (.sl el esz len none l) (evRes e h res) h n := by
  unfold finSB at hf
  simp only [Bool.and_eq_true, Nat.blt_eq] at hf
  obtain ⟨h1, h2, h3⟩ := hf
  refine ⟨h3, h1, hl, ?_⟩
  unfold finSV at h2
  split at h2
  · rename_i p off esz' len' hv
    simp only [Bool.and_eq_true, Nat.blt_eq, Nat.ble_eq, Nat.beq_eq] at h2
    obtain ⟨rfl, rfl, a3, a4, a5⟩ := h2
    split at a5
    · rename_i b hb
      simp only [Bool.and_eq_true, Nat.ble_eq, Nat.beq_eq] at a5
      obtain ⟨rfl, b2, b3⟩ := a5
      refine ⟨p, off, b, hv, by omega, a4, hb, rfl, b2, fun k hk => ?_⟩
      rw [← eqL_eq _ _ b3, getL_get _ _ _ _ hk]
    · cases a5
  · cases h2
theorem JQ.finS {P : Program} (hP : P.follows .mixedOrders = true) {dr : List Nat} {N lim n : Nat} {F : FF} (hF : FOK P F) (hM : F.mono) {res : List RV} {q : IC} {e : Tr} {h : Hp} {el esz len : Nat} {l : L} (hl : l.pur = true ∧ l.length = len * esz) (hk : finS el esz len l res ((kC q nK).f F lim e h n) = true) : JQ P dr N F q lim (Kend res (Good 0 (.sl el esz len none l))) e h n := by
  refine JQ.run hP hF hM ?_
  rw [kC_eq, onC_nK] at hk
  revert hk
  generalize evC q F lim e h n = r
  intro hk
  cases r with
  | no => cases hk
  | ext => cases hk
  | nor e h' n => have := finSB_ok hl hk; exact ⟨this.1, this.2.1, this.2.2⟩
  | ret e h' n => have := finSB_ok hl hk; exact ⟨this.1, this.2.1, this.2.2⟩
end Go.Proofs.Ytkdbnhjipnnhjaa.Ev
/- The people of a set of at most five, as a contract. -/
namespace Go.Proofs.Ytkdbnhjipnnhjaa.Ev
set_option linter.unusedVariables false
set_option maxRecDepth 100000
open Go Go.Proofs Go.RowKit
noncomputable def q39_l0 : IC := (.seq (.reg (.cons (some (tp 6)) none (.bin .lss (.t (tp 5)) (.c (I 8))) .nil)) (.seq (.cond (.t (tp 6)) .skip (.exit 0)) (.seq (.block 1 (.seq (.reg (.cons (some (tp 7)) none (.mv 
  (.t (tp 5))) (.cons (some (tp 4)) none (.mv (.t (tp 7))) .nil))) (.seq (.reg (.cons (some (tp 8)) none (.mv (.t (tp 0))) (.cons (some (tp 9)) none (.mv (.t (tp 4))) (.cons (some 
  (tp 10)) none (.bin .shr (.t (tp 8)) (.t (tp 9))) (.cons (some (tp 11)) none (.bin .and (.t (tp 10)) (.c (I 1))) (.cons (some (tp 12)) none (.bin .eql (.t (tp 11)) (.c (I 1))) 
  .nil)))))) (.cond (.t (tp 12)) (.reg (.cons (some (tp 13)) none (.mv (.t (tp 3))) (.cons (some (tp 14)) none (.mv (.t (tp 4))) (.cons (some (tp 15)) none (.bsl 3 1 1 (.cons (I 0) 
  .nil) (.cons 0 1 (.t (tp 14)) .nil)) (.cons (some (tp 16)) none (.app 3 1 8 (.t (tp 13)) (.t (tp 15))) (.cons (some (tp 3)) none (.mv (.t (tp 16))) .nil)))))) .skip)))) (.reg 
  (.cons (some (tp 17)) none (.bin .add (.t (tp 5)) (.c (I 1))) (.cons (some (tp 5)) none (.mv (.t (tp 17))) .nil))))))
noncomputable def q39 : IC := (.seq (.reg (.cons (some (tp 2)) none (.mv (.c .ns)) .nil)) (.seq (.reg (.cons (some (tp 3)) none (.mv (.c .ns)) .nil)) (.seq (.seq (.reg (.cons (some (tp 5)) none (.mv (.c (I 0))) 
  .nil)) (.block 0 (IC.loop q39_l0))) (.seq (.reg (.cons (some (tp 18)) none (.mv (.t (tp 3))) (.cons (some (tp 2)) none (.mv (.t (tp 18))) .nil))) .ret))))
noncomputable def res39 : List RV := [(.tmp (tp 2))]
noncomputable def c39c : Code := match Try.f39.body with | some c => c | none => .skip
theorem b39 : Try.f39.body = some c39c := by kernel_rfl
theorem k39 : compC Try.prog drops Try.f39.ntmps c39c = some q39 := by kernel_rfl
theorem r39 : compRVs Try.prog Try.f39.results.toList = some res39 := by kernel_rfl
theorem n39 : (Try.f39.name == "runtime.NumGoroutine") = false := by kernel_rfl
noncomputable def i39q : IC := i39.q
theorem q39_i : q39 = i39q := by kernel_rfl
def peT : List (List Int) := [[], [0], [1], [0, 1], [2], [0, 2], [1, 2], [0, 1, 2], [3], [0, 3], [1, 3], [0, 1, 3], [2, 3], [0, 2, 3], [1, 2, 3], [0, 1, 2, 3], [4], [0, 4], [1, 4], [0, 1, 4], [2, 4], [0, 2, 4], [1, 2, 4], [0, 1, 2, 4], [3, 4], [0, 3, 4], [1, 3, 4], [0, 1, 3, 4], [2, 3, 4], [0, 2, 3, 4], [1, 2, 3, 4], [0, 1, 2, 3, 4]]
def pe (s : Nat) : List Int := peT.getD s []
noncomputable def rp (s : Nat) : Bool := finS 3 1 (pe s).length (iL (pe s)) res39 ((kC i39q nK).f (EF 60) 256 (bind (.cons (I (s : Int)) .nil) 0 .lf) .lf 256)
theorem rp_all : ((List.range 31).all fun s => rp (s + 1)) = true := by kernel_rfl
noncomputable def oPe (z : Int) : Out := match z with
  | .ofNat s => Bool.rec .no (.sl 3 1 (pe s).length none (iL (pe s))) (and (Nat.blt 0 s) (Nat.blt s 32))
  | _ => .no
theorem okPe : SOK Try.prog 39 (spI oPe) := spI_ok fun z lim h n v h' n' hr => by
  unfold oPe at hr
  split at hr
  · rename_i s
    cases hb : and (Nat.blt 0 s) (Nat.blt s 32)
    · rw [hb] at hr; cases hr
    · rw [hb] at hr
      rw [Bool.and_eq_true, Nat.blt_eq, Nat.blt_eq] at hb
      have hl : (iL (pe s)).pur = true ∧ (iL (pe s)).length = (pe s).length * 1 := ⟨iL_pur _, by rw [iL_len]; omega⟩
      have hs : rp s = true := by
        have := List.all_eq_true.1 rp_all (s - 1) (List.mem_range.2 (by omega))
        rwa [show s - 1 + 1 = s by omega] at this
      have hj := JQ.finS (dr := drops) (N := Try.f39.ntmps) follows (EF_ok 60) (EF_mono 60) hl hs
      rw [← q39_i] at hj
      exact outC Try.func39 n39 b39 k39 r39 (Ins.none h) (by simp [L.length]) (ren_nil_rel (by simp [L.pur, I_pur])) (.sl 3 1 (pe s).length none (iL (pe s))) hl hj lim n hr
  · cases hr
noncomputable def WP (G : FF) : FF := ovF 39 (spI oPe) (WW G)
theorem WP_mono (G : FF) (h : G.mono) : (WP G).mono := ovF_mono (spI_mo _) (WW_mono G h)
theorem WP_ok (G : FF) (h : FOK Try.prog G) : FOK Try.prog (WP G) := ovF_ok okPe (WW_ok G h)
noncomputable def EP (d : Nat) : FF := EQ WP d
theorem EP_ok (d : Nat) : FOK Try.prog (EP d) := EQ_ok WP_mono WP_ok d
theorem EP_mono (d : Nat) : (EP d).mono := EQ_mono WP_mono d
end Go.Proofs.Ytkdbnhjipnnhjaa.Ev
/- QuarrelTuran: the law's code. -/
namespace Go.Proofs.Ytkdbnhjipnnhjaa.Ev
set_option linter.unusedVariables false
set_option maxRecDepth 100000
open Go Go.Proofs Go.RowKit
noncomputable def i4 : FnI := (.mk true true (.seq (.reg (.cons (some x4x) none (.mv (.c (.b false))) .nil)) (.seq (.reg (.cons (some x20x) none (.mv (.t x0x)) (.cons (some x21x) none (.conv .i64 (.t x20x)) 
  (.cons (some x22x) none (.bin .rem (.t x21x) (.c (.n 5))) (.cons (some x23x) none (.bin .add (.c (.n 1)) (.t x22x)) (.cons (some x5x) none (.mv (.t x23x)) .nil)))))) (.seq (.reg 
  (.cons (some x24x) none (.mv (.t x1x)) (.cons (some x25x) none (.conv .i64 (.t x24x)) (.cons (some x26x) none (.mv (.t x5x)) (.cons (some x27x) none (.bin .rem (.t x25x) (.t 
  x26x)) (.cons (some x28x) none (.bin .add (.c (.n 1)) (.t x27x)) (.cons (some x6x) none (.mv (.t x28x)) .nil))))))) (.seq (.reg (.cons (some x30x) none (.mv (.t x5x)) (.cons 
  (some x31x) none (.mv (.t x6x)) (.cons (some x32x) none (.call 6 (.cons (.t x30x) (.cons (.t x31x) .nil))) (.cons (some x29x) none (.mv (.t x32x)) (.cons (some x33x) none (.ext 0 
  (.t x29x)) (.cons (some x34x) none (.ext 1 (.t x29x)) (.cons (some x7x) none (.mv (.t x33x)) (.cons (some x8x) none (.mv (.t x34x)) .nil))))))))) (.seq (.seq (.reg (.cons (some 
  x35x) none (.mv (.t x8x)) (.cons (some x36x) none (.bin .neq (.t x35x) (.c (.n 0))) .nil))) (.cond (.t x36x) (.seq (.reg (.cons (some x4x) none (.mv (.c (.b false))) .nil)) .ret) 
  .skip)) (.seq (.reg (.cons (some x9x) none (.mv (.c (.n 0))) .nil)) (.seq (.reg (.cons (some x10x) none (.mv (.c .ns)) .nil)) (.seq (.seq (.reg (.cons (some x37x) none (.mv (.t 
  x5x)) (.cons (some x38x) none (.mv (.t x5x)) (.cons (some x39x) none (.bin .sub (.t x38x) (.c (.n 1))) (.cons (some x40x) none (.bin .mul (.t x37x) (.t x39x)) (.cons (some x41x) 
  none (.bin .quo (.t x40x) (.c (.n 2))) (.cons (some x42x) none (.bin .shl (.c (.i .u32 (.ofNat 1))) (.t x41x)) (.cons (some x43x) none (.mv (.c (.i .u32 (.ofNat 0)))) 
  .nil)))))))) (.block 0 (.loop (.seq (.reg (.cons (some x44x) none (.bin .lss (.t x43x) (.t x42x)) .nil)) (.seq (.cond (.t x44x) .skip (.exit 0)) (.seq (.block 1 (.seq (.reg 
  (.cons (some x45x) none (.mv (.t x43x)) (.cons (some x11x) none (.mv (.t x45x)) .nil))) (.seq (.reg (.cons (some x47x) none (.mv (.t x5x)) (.cons (some x48x) none (.bin .sub (.t 
  x47x) (.c (.n 1))) (.cons (some x49x) none (.conv .u8 (.t x48x)) (.cons (some x50x) none (.mv (.t x11x)) (.cons (some x51x) none (.build (.cons (.i .u8 (.ofNat 0)) (.cons (.i 
  .u32 (.ofNat 0)) .nil)) (.cons 0 1 (.t x49x) (.cons 1 1 (.t x50x) .nil))) (.cons (some x52x) none (.call 12 (.cons (.t x51x) (.cons (.c (.n 5)) .nil))) (.cons (some x46x) none 
  (.mv (.t x52x)) (.cons (some x53x) none (.ext 0 (.t x46x)) (.cons (some x54x) none (.ext 1 (.t x46x)) (.cons (some x12x) none (.alloc 27 (.cons (.n 0) (.cons .ns .nil)) 2) (.cons 
  (some x13x) none (.alloc 40 (.cons (.b false) (.cons (.b false) (.cons (.b false) (.cons (.b false) (.cons (.b false) (.cons (.b false) (.cons (.b false) (.cons (.b false) (.cons 
  (.b false) (.cons (.b false) (.cons (.b false) (.cons (.b false) (.cons (.b false) (.cons (.b false) (.cons (.b false) (.cons (.b false) (.cons (.b false) (.cons (.b false) 
  (.cons (.b false) (.cons (.b false) (.cons (.b false) (.cons (.b false) (.cons (.b false) (.cons (.b false) (.cons (.b false) (.cons (.b false) (.cons (.b false) (.cons (.b 
  false) (.cons (.b false) (.cons (.b false) (.cons (.b false) (.cons (.b false) (.cons (.b false) (.cons (.b false) (.cons (.b false) (.cons (.b false) (.cons (.b false) (.cons 
  (.b false) (.cons (.b false) (.cons (.b false) (.cons (.b false) (.cons (.b false) (.cons (.b false) (.cons (.b false) (.cons (.b false) (.cons (.b false) (.cons (.b false) 
  (.cons (.b false) (.cons (.b false) (.cons (.b false) (.cons (.b false) (.cons (.b false) (.cons (.b false) (.cons (.b false) (.cons (.b false) (.cons (.b false) (.cons (.b 
  false) (.cons (.b false) (.cons (.b false) (.cons (.b false) (.cons (.b false) (.cons (.b false) (.cons (.b false) (.cons (.b false) 
  .nil)))))))))))))))))))))))))))))))))))))))))))))))))))))))))))))))) 64) (.cons none none (.st 2 (.t x12x) (.t x53x)) (.cons none none (.st 64 (.t x13x) (.t x54x)) 
  .nil)))))))))))))) (.seq (.seq (.reg (.cons (some x55x) none (.fad 1 (.t x12x)) (.cons (some x56x) none (.ld 1 false (.t x55x)) (.cons (some x57x) none (.len (.t x56x)) (.cons 
  (some x58x) none (.mv (.t x9x)) (.cons (some x59x) none (.bin .lss (.t x57x) (.t x58x)) (.cons (some x60x) none (.mv (.t x59x)) (.cons (some x61x) (some (.mk x60x false)) (.ld 64 
  true (.t x13x)) (.cons (some x62x) (some (.mk x60x false)) (.mv (.t x5x)) (.cons (some x63x) (some (.mk x60x false)) (.call 13 (.cons (.t x61x) (.cons (.t x62x) .nil))) (.cons 
  (some x64x) (some (.mk x60x false)) (.len (.t x63x)) (.cons (some x65x) (some (.mk x60x false)) (.mv (.t x6x)) (.cons (some x66x) (some (.mk x60x false)) (.bin .gtr (.t x64x) (.t 
  x65x)) (.cons (some x67x) none (.pick (.t x60x) (.c (.b true)) (.t x66x)) .nil)))))))))))))) (.cond (.t x67x) (.exit 1) .skip)) (.seq (.seq (.reg (.cons (some x68x) none (.fad 1 
  (.t x12x)) (.cons (some x69x) none (.ld 1 false (.t x68x)) (.cons (some x70x) none (.len (.t x69x)) (.cons (some x71x) none (.mv (.t x9x)) (.cons (some x72x) none (.bin .gtr (.t 
  x70x) (.t x71x)) .nil)))))) (.cond (.t x72x) (.reg (.cons (some x73x) none (.fad 1 (.t x12x)) (.cons (some x74x) none (.ld 1 false (.t x73x)) (.cons (some x75x) none (.len (.t 
  x74x)) (.cons (some x9x) none (.mv (.t x75x)) (.cons (some x10x) none (.mv (.c .ns)) .nil)))))) .skip)) (.reg (.cons (some x76x) none (.mv (.t x10x)) (.cons (some x77x) none (.ld 
  64 true (.t x13x)) (.cons (some x78x) none (.bsl 40 64 1 (.cons (.b false) (.cons (.b false) (.cons (.b false) (.cons (.b false) (.cons (.b false) (.cons (.b false) (.cons (.b 
  false) (.cons (.b false) (.cons (.b false) (.cons (.b false) (.cons (.b false) (.cons (.b false) (.cons (.b false) (.cons (.b false) (.cons (.b false) (.cons (.b false) (.cons 
  (.b false) (.cons (.b false) (.cons (.b false) (.cons (.b false) (.cons (.b false) (.cons (.b false) (.cons (.b false) (.cons (.b false) (.cons (.b false) (.cons (.b false) 
  (.cons (.b false) (.cons (.b false) (.cons (.b false) (.cons (.b false) (.cons (.b false) (.cons (.b false) (.cons (.b false) (.cons (.b false) (.cons (.b false) (.cons (.b 
  false) (.cons (.b false) (.cons (.b false) (.cons (.b false) (.cons (.b false) (.cons (.b false) (.cons (.b false) (.cons (.b false) (.cons (.b false) (.cons (.b false) (.cons 
  (.b false) (.cons (.b false) (.cons (.b false) (.cons (.b false) (.cons (.b false) (.cons (.b false) (.cons (.b false) (.cons (.b false) (.cons (.b false) (.cons (.b false) 
  (.cons (.b false) (.cons (.b false) (.cons (.b false) (.cons (.b false) (.cons (.b false) (.cons (.b false) (.cons (.b false) (.cons (.b false) (.cons (.b false) 
  .nil)))))))))))))))))))))))))))))))))))))))))))))))))))))))))))))))) (.cons 0 64 (.t x77x) .nil)) (.cons (some x79x) none (.app 40 64 64 (.t x76x) (.t x78x)) (.cons (some x10x) 
  none (.mv (.t x79x)) .nil))))))))))) (.reg (.cons (some x80x) none (.bin .add (.t x43x) (.c (.i .u32 (.ofNat 1)))) (.cons (some x43x) none (.mv (.t x80x)) .nil))))))))) (.seq 
  (.seq (.reg (.cons (some x81x) none (.mv (.t x10x)) (.cons (some x82x) none (.len (.t x81x)) (.cons (some x83x) none (.mv (.c (.n 0))) .nil)))) (.block 2 (.loop (.seq (.reg 
  (.cons (some x84x) none (.bin .lss (.t x83x) (.t x82x)) .nil)) (.seq (.cond (.t x84x) .skip (.exit 2)) (.seq (.block 3 (.seq (.reg (.cons (some x85x) none (.ixs 64 (.t x81x) (.t 
  x83x)) (.cons (some x86x) none (.ld 64 true (.t x85x)) (.cons (some x15x) none (.alloc 40 (.cons (.b false) (.cons (.b false) (.cons (.b false) (.cons (.b false) (.cons (.b 
  false) (.cons (.b false) (.cons (.b false) (.cons (.b false) (.cons (.b false) (.cons (.b false) (.cons (.b false) (.cons (.b false) (.cons (.b false) (.cons (.b false) (.cons 
  (.b false) (.cons (.b false) (.cons (.b false) (.cons (.b false) (.cons (.b false) (.cons (.b false) (.cons (.b false) (.cons (.b false) (.cons (.b false) (.cons (.b false) 
  (.cons (.b false) (.cons (.b false) (.cons (.b false) (.cons (.b false) (.cons (.b false) (.cons (.b false) (.cons (.b false) (.cons (.b false) (.cons (.b false) (.cons (.b 
  false) (.cons (.b false) (.cons (.b false) (.cons (.b false) (.cons (.b false) (.cons (.b false) (.cons (.b false) (.cons (.b false) (.cons (.b false) (.cons (.b false) (.cons 
  (.b false) (.cons (.b false) (.cons (.b false) (.cons (.b false) (.cons (.b false) (.cons (.b false) (.cons (.b false) (.cons (.b false) (.cons (.b false) (.cons (.b false) 
  (.cons (.b false) (.cons (.b false) (.cons (.b false) (.cons (.b false) (.cons (.b false) (.cons (.b false) (.cons (.b false) (.cons (.b false) (.cons (.b false) (.cons (.b 
  false) (.cons (.b false) .nil)))))))))))))))))))))))))))))))))))))))))))))))))))))))))))))))) 64) (.cons none none (.st 64 (.t x15x) (.t x86x)) .nil))))) (.seq (.reg (.cons (some 
  x87x) none (.ld 64 true (.t x15x)) (.cons (some x88x) none (.mv (.t x5x)) (.cons (some x89x) none (.mv (.t x6x)) (.cons (some x90x) none (.call 14 (.cons (.t x87x) (.cons (.t 
  x88x) (.cons (.t x89x) .nil)))) (.cons (some x91x) none (.not (.t x90x)) .nil)))))) (.cond (.t x91x) (.seq (.reg (.cons (some x4x) none (.mv (.c (.b false))) .nil)) .ret) 
  .skip)))) (.reg (.cons (some x92x) none (.bin .add (.t x83x) (.c (.n 1))) (.cons (some x83x) none (.mv (.t x92x)) .nil))))))))) (.seq (.reg (.cons (some x94x) none (.mv (.t x5x)) 
  (.cons (some x95x) none (.mv (.t x6x)) (.cons (some x96x) none (.call 8 (.cons (.t x94x) (.cons (.t x95x) .nil))) (.cons (some x93x) none (.mv (.t x96x)) (.cons (some x97x) none 
  (.ext 0 (.t x93x)) (.cons (some x98x) none (.ext 1 (.t x93x)) (.cons (some x16x) none (.alloc 27 (.cons (.n 0) (.cons .ns .nil)) 2) (.cons none none (.st 2 (.t x16x) (.t x97x)) 
  (.cons (some x17x) none (.mv (.t x98x)) .nil)))))))))) (.seq (.seq (.reg (.cons (some x99x) none (.mv (.t x17x)) (.cons (some x100x) none (.bin .neq (.t x99x) (.c (.n 0))) (.cons 
  (some x101x) none (.mv (.t x100x)) (.cons (some x102x) (some (.mk x101x false)) (.fad 0 (.t x16x)) (.cons (some x103x) (some (.mk x101x false)) (.ld 1 false (.t x102x)) (.cons 
  (some x104x) (some (.mk x101x false)) (.mv (.t x5x)) (.cons (some x105x) (some (.mk x101x false)) (.bin .neq (.t x103x) (.t x104x)) (.cons (some x106x) none (.pick (.t x101x) (.c 
  (.b true)) (.t x105x)) (.cons (some x107x) none (.mv (.t x106x)) (.cons (some x108x) (some (.mk x107x false)) (.fad 1 (.t x16x)) (.cons (some x109x) (some (.mk x107x false)) (.ld 
  1 false (.t x108x)) (.cons (some x110x) (some (.mk x107x false)) (.len (.t x109x)) (.cons (some x111x) (some (.mk x107x false)) (.mv (.t x9x)) (.cons (some x112x) (some (.mk 
  x107x false)) (.bin .neq (.t x110x) (.t x111x)) (.cons (some x113x) none (.pick (.t x107x) (.c (.b true)) (.t x112x)) .nil)))))))))))))))) (.cond (.t x113x) (.seq (.reg (.cons 
  (some x4x) none (.mv (.c (.b false))) .nil)) .ret) .skip)) (.seq (.reg (.cons (some x115x) none (.ld 2 true (.t x16x)) (.cons (some x116x) none (.call 15 (.cons (.t x115x) .nil)) 
  (.cons (some x114x) none (.mv (.t x116x)) (.cons (some x117x) none (.ext 0 (.t x114x)) (.cons (some x118x) none (.ext 1 (.t x114x)) (.cons (some x18x) none (.mv (.t x117x)) 
  (.cons (some x19x) none (.mv (.t x118x)) .nil)))))))) (.seq (.reg (.cons (some x119x) none (.mv (.t x19x)) (.cons (some x120x) none (.bin .eql (.t x119x) (.c (.n 0))) (.cons 
  (some x121x) none (.mv (.t x120x)) (.cons (some x122x) (some (.mk x121x true)) (.mv (.t x18x)) (.cons (some x123x) (some (.mk x121x true)) (.len (.t x122x)) (.cons (some x124x) 
  (some (.mk x121x true)) (.mv (.t x6x)) (.cons (some x125x) (some (.mk x121x true)) (.bin .eql (.t x123x) (.t x124x)) (.cons (some x126x) none (.pick (.t x121x) (.t x125x) (.c (.b 
  false))) (.cons (some x127x) none (.mv (.t x126x)) (.cons (some x128x) (some (.mk x127x true)) (.mv (.t x7x)) (.cons (some x129x) (some (.mk x127x true)) (.mv (.t x9x)) (.cons 
  (some x130x) (some (.mk x127x true)) (.bin .eql (.t x128x) (.t x129x)) (.cons (some x131x) none (.pick (.t x127x) (.t x130x) (.c (.b false))) (.cons (some x132x) none (.mv (.t 
  x131x)) (.cons (some x133x) (some (.mk x132x true)) (.call 11 .nil) (.cons (some x134x) none (.pick (.t x132x) (.t x133x) (.c (.b false))) (.cons (some x4x) none (.mv (.t x134x)) 
  .nil)))))))))))))))))) .ret))))))))))))) [(.tmp x4x)])
noncomputable def q4 : IC := i4.q
noncomputable def res4 : List RV := i4.r
noncomputable def c4c : Code := match Try.f4.body with | some c => c | none => .skip
theorem b4 : Try.f4.body = some c4c := by kernel_rfl
theorem k4 : compC Try.prog drops Try.f4.ntmps c4c = some q4 := by kernel_rfl
theorem r4 : compRVs Try.prog Try.f4.results.toList = some res4 := by kernel_rfl
theorem n4 : (Try.f4.name == "runtime.NumGoroutine") = false := by kernel_rfl
end Go.Proofs.Ytkdbnhjipnnhjaa.Ev
/- A loop whose rounds are evaluated so many at a time: the state ahead of each such group is told. -/
namespace Go.Proofs.Ytkdbnhjipnnhjaa.Ev
set_option linter.unusedVariables false
open Go Go.Proofs Go.RowKit
noncomputable def itr (F : FF) (lim : Nat) (q : IC) (m : Nat) (r : Rs) : Rs := Nat.rec (motive := fun _ => Rs → Rs) (fun r => r) (fun _ ih r => Rs.rec (motive := fun _ => Rs) .no (fun e h n => ih ((kC q nK).f F lim e h n)) (fun _ _ _ _ => .no) (fun _ _ _ => .no) r) m r
theorem itr_zero (F : FF) (lim : Nat) (q : IC) (r : Rs) : itr F lim q 0 r = r := rfl
theorem itr_succ (F : FF) (lim : Nat) (q : IC) (m : Nat) (e : Tr) (h : Hp) (n : Nat) : itr F lim q (m + 1) (.nor e h n) = itr F lim q m ((kC q nK).f F lim e h n) := rfl
theorem itr_nor {F : FF} {lim : Nat} {q : IC} : ∀ {m : Nat} {r : Rs} {e : Tr} {h : Hp} {n : Nat}, itr F lim q m r = .nor e h n → ∃ e1 h1 n1, r = .nor e1 h1 n1
  | 0, r, e, h, n, hr => ⟨e, h, n, hr⟩
  | m + 1, .no, _, _, _, hr => by cases hr
  | m + 1, .nor e h n, _, _, _, hr => ⟨e, h, n, rfl⟩
  | m + 1, .ext .., _, _, _, hr => by cases hr
  | m + 1, .ret .., _, _, _, hr => by cases hr
theorem itr_ge {F : FF} (hM : F.mono) {lim : Nat} {q : IC} : ∀ {m : Nat} {e1 : Tr} {h1 : Hp} {n1 : Nat} {e : Tr} {h : Hp} {n : Nat}, itr F lim q m (.nor e1 h1 n1) = .nor e h n → n1 ≤ n
  | 0, e1, h1, n1, e, h, n, hr => by cases hr; exact Nat.le_refl _
  | m + 1, e1, h1, n1, e, h, n, hr => by
    rw [itr_succ] at hr
    obtain ⟨e2, h2, n2, h3⟩ := itr_nor hr
    have hg := evC_ge hM q lim e1 h1 n1
    rw [h3] at hr
    rw [kC_eq, onC_nK] at h3
    rw [h3] at hg
    exact Nat.le_trans hg (itr_ge hM hr)
structure CS where
  k : Nat
  i : Nat
  e : Tr
  h : Hp
  nb : Nat
  n : Nat
theorem JQ.countN {P : Program} (hP : P.follows .mixedOrders = true) {dr : List Nat} {N lim n : Nat} {F : FF} (hF : FOK P F) (hM : F.mono) {qb : IC} {K : Rs → Prop} {e : Tr} {h : Hp} (B top : Nat) (ms : Nat → Nat) (hm : ∀ k, k < top → 0 < ms k ∧ ms k ≤ B) (env : Nat → Tr) (hp : Nat → Hp) (nn : Nat → Nat) (hnn : ∀ k, k ≤ top → nn k < big)
    (h0 : EnvLe (env 0) e) (h1 : HpLe (hp 0) h) (h2 : n ≤ nn 0)
    (rd : ∀ k, k < top → ∃ e' h' n', itr F lim qb (ms k) (.nor (env k) (hp k) (nn k)) = .nor e' h' n' ∧ EnvLe (env (k + 1)) e' ∧ HpLe (hp (k + 1)) h' ∧ n' ≤ nn (k + 1))
    (hend : ∃ i e' h' n', (kC qb nK).f F lim (env top) (hp top) (nn top) = .ext i e' h' n' ∧ n' < big ∧ K (.ext i e' h' n')) : JQ P dr N F (.loop qb) lim K e h n := by
  refine JQ.loop (σ := CS) (fun s => s.n ≤ s.nb ∧ ((s.k = top ∧ s.i = 0 ∧ s.e = env top ∧ s.h = hp top ∧ s.nb = nn top) ∨ (s.k < top ∧ 0 < s.i ∧ s.i ≤ ms s.k ∧ ∃ e' h' n', itr F lim qb s.i (.nor s.e s.h s.nb) = .nor e' h' n' ∧ EnvLe (env (s.k + 1)) e' ∧ HpLe (hp (s.k + 1)) h' ∧ n' ≤ nn (s.k + 1))))
    (fun s => s.e) (fun s => s.h) (fun s => s.n) (fun s => (top - s.k) * (B + 1) + s.i) ⟨0, if top = 0 then 0 else ms 0, env 0, hp 0, nn 0, n⟩ ⟨h2, ?_⟩ h0 h1 rfl ?_
  · by_cases ht : top = 0
    · subst ht; exact .inl ⟨rfl, by simp, rfl, rfl, rfl⟩
    · rw [if_neg ht]; exact .inr ⟨by show 0 < top; omega, (hm 0 (by omega)).1, Nat.le_refl _, rd 0 (by omega)⟩
  · rintro ⟨k, i, e1, h1, nb, n1⟩ ⟨hn1, hs⟩
    have hn1 : n1 ≤ nb := hn1
    refine JQ.later hn1 (JQ.run hP hF hM ?_)
    rcases hs with ⟨hk, hi, he, hh, hb⟩ | ⟨hk, hi, him, e', h', n', hr, a1, a2, a3⟩
    · have hk : k = top := hk
      have hi : i = 0 := hi
      have he : e1 = env top := he
      have hh : h1 = hp top := hh
      have hb : nb = nn top := hb
      subst hk hi he hh hb
      obtain ⟨j, e', h', n', h3, h4, h5⟩ := hend
      rw [kC_eq, onC_nK] at h3
      show Got _ (evC qb F lim (env k) (hp k) (nn k))
      rw [h3]
      exact ⟨h4, h5⟩
    · have hk : k < top := hk
      have hi : 0 < i := hi
      have him : i ≤ ms k := him
      have hr : itr F lim qb i (.nor e1 h1 nb) = .nor e' h' n' := hr
      have a1 : EnvLe (env (k + 1)) e' := a1
      have a2 : HpLe (hp (k + 1)) h' := a2
      have a3 : n' ≤ nn (k + 1) := a3
      obtain ⟨j, rfl⟩ : ∃ j, i = j + 1 := ⟨i - 1, by omega⟩
      rw [itr_succ] at hr
      obtain ⟨e2, h2', n2, h3⟩ := itr_nor hr
      rw [h3] at hr
      rw [kC_eq, onC_nK] at h3
      have hg := itr_ge hM hr
      have hbig : n2 < big := Nat.lt_of_le_of_lt (Nat.le_trans hg a3) (hnn _ hk)
      show Got _ (evC qb F lim e1 h1 nb)
      rw [h3]
      have hmul : (top - k) * (B + 1) = (top - (k + 1)) * (B + 1) + (B + 1) := by
        rw [show top - k = top - (k + 1) + 1 by omega, Nat.add_mul, Nat.one_mul]
      rcases Nat.eq_zero_or_pos j with rfl | hj
      · rw [itr_zero] at hr
        cases hr
        by_cases ht : k + 1 = top
        · refine ⟨hbig, ⟨k + 1, 0, env (k + 1), hp (k + 1), nn (k + 1), n'⟩, ⟨a3, .inl ⟨ht, rfl, by rw [ht], by rw [ht], by rw [ht]⟩⟩, ?_, a1, a2, rfl⟩
          show (top - (k + 1)) * (B + 1) + 0 < (top - k) * (B + 1) + (0 + 1)
          omega
        · refine ⟨hbig, ⟨k + 1, ms (k + 1), env (k + 1), hp (k + 1), nn (k + 1), n'⟩, ⟨a3, .inr ⟨by show k + 1 < top; omega, (hm (k + 1) (by omega)).1, Nat.le_refl _, rd (k + 1) (by omega)⟩⟩, ?_, a1, a2, rfl⟩
          show (top - (k + 1)) * (B + 1) + ms (k + 1) < (top - k) * (B + 1) + (0 + 1)
          have := (hm (k + 1) (by omega)).2
          omega
      · refine ⟨hbig, ⟨k, j, e2, h2', n2, n2⟩, ⟨Nat.le_refl _, .inr ⟨hk, hj, by show j ≤ ms k; omega, e', h', n', hr, a1, a2, a3⟩⟩, ?_, EnvLe.refl _, HpLe.refl _, rfl⟩
        show (top - k) * (B + 1) + j < (top - k) * (B + 1) + (j + 1)
        omega
end Go.Proofs.Ytkdbnhjipnnhjaa.Ev
/- QuarrelTuran: the loop over all houses, a few rounds at a time. -/
namespace Go.Proofs.Ytkdbnhjipnnhjaa.Ev
set_option linter.unusedVariables false
set_option maxRecDepth 100000
open Go Go.Proofs Go.RowKit
noncomputable def l4a : IC := (.seq (.reg (.cons (some x44x) none (.bin .lss (.t x43x) (.t x42x)) .nil)) (.seq (.cond (.t x44x) .skip (.exit 0)) (.seq (.block 1 (.seq (.reg (.cons (some x45x) none (.mv (.t 
  x43x)) (.cons (some x11x) none (.mv (.t x45x)) .nil))) (.seq (.reg (.cons (some x47x) none (.mv (.t x5x)) (.cons (some x48x) none (.bin .sub (.t x47x) (.c (.n 1))) (.cons (some 
  x49x) none (.conv .u8 (.t x48x)) (.cons (some x50x) none (.mv (.t x11x)) (.cons (some x51x) none (.build (.cons (.i .u8 (.ofNat 0)) (.cons (.i .u32 (.ofNat 0)) .nil)) (.cons 0 1 
  (.t x49x) (.cons 1 1 (.t x50x) .nil))) (.cons (some x52x) none (.call 12 (.cons (.t x51x) (.cons (.c (.n 5)) .nil))) (.cons (some x46x) none (.mv (.t x52x)) (.cons (some x53x) 
  none (.ext 0 (.t x46x)) (.cons (some x54x) none (.ext 1 (.t x46x)) (.cons (some x12x) none (.alloc 27 (.cons (.n 0) (.cons .ns .nil)) 2) (.cons (some x13x) none (.alloc 40 (.cons 
  (.b false) (.cons (.b false) (.cons (.b false) (.cons (.b false) (.cons (.b false) (.cons (.b false) (.cons (.b false) (.cons (.b false) (.cons (.b false) (.cons (.b false) 
  (.cons (.b false) (.cons (.b false) (.cons (.b false) (.cons (.b false) (.cons (.b false) (.cons (.b false) (.cons (.b false) (.cons (.b false) (.cons (.b false) (.cons (.b 
  false) (.cons (.b false) (.cons (.b false) (.cons (.b false) (.cons (.b false) (.cons (.b false) (.cons (.b false) (.cons (.b false) (.cons (.b false) (.cons (.b false) (.cons 
  (.b false) (.cons (.b false) (.cons (.b false) (.cons (.b false) (.cons (.b false) (.cons (.b false) (.cons (.b false) (.cons (.b false) (.cons (.b false) (.cons (.b false) 
  (.cons (.b false) (.cons (.b false) (.cons (.b false) (.cons (.b false) (.cons (.b false) (.cons (.b false) (.cons (.b false) (.cons (.b false) (.cons (.b false) (.cons (.b 
  false) (.cons (.b false) (.cons (.b false) (.cons (.b false) (.cons (.b false) (.cons (.b false) (.cons (.b false) (.cons (.b false) (.cons (.b false) (.cons (.b false) (.cons 
  (.b false) (.cons (.b false) (.cons (.b false) (.cons (.b false) (.cons (.b false) (.cons (.b false) .nil)))))))))))))))))))))))))))))))))))))))))))))))))))))))))))))))) 64) 
  (.cons none none (.st 2 (.t x12x) (.t x53x)) (.cons none none (.st 64 (.t x13x) (.t x54x)) .nil)))))))))))))) (.seq (.seq (.reg (.cons (some x55x) none (.fad 1 (.t x12x)) (.cons 
  (some x56x) none (.ld 1 false (.t x55x)) (.cons (some x57x) none (.len (.t x56x)) (.cons (some x58x) none (.mv (.t x9x)) (.cons (some x59x) none (.bin .lss (.t x57x) (.t x58x)) 
  (.cons (some x60x) none (.mv (.t x59x)) (.cons (some x61x) (some (.mk x60x false)) (.ld 64 true (.t x13x)) (.cons (some x62x) (some (.mk x60x false)) (.mv (.t x5x)) (.cons (some 
  x63x) (some (.mk x60x false)) (.call 13 (.cons (.t x61x) (.cons (.t x62x) .nil))) (.cons (some x64x) (some (.mk x60x false)) (.len (.t x63x)) (.cons (some x65x) (some (.mk x60x 
  false)) (.mv (.t x6x)) (.cons (some x66x) (some (.mk x60x false)) (.bin .gtr (.t x64x) (.t x65x)) (.cons (some x67x) none (.pick (.t x60x) (.c (.b true)) (.t x66x)) 
  .nil)))))))))))))) (.cond (.t x67x) (.exit 1) .skip)) (.seq (.seq (.reg (.cons (some x68x) none (.fad 1 (.t x12x)) (.cons (some x69x) none (.ld 1 false (.t x68x)) (.cons (some 
  x70x) none (.len (.t x69x)) (.cons (some x71x) none (.mv (.t x9x)) (.cons (some x72x) none (.bin .gtr (.t x70x) (.t x71x)) .nil)))))) (.cond (.t x72x) (.reg (.cons (some x73x) 
  none (.fad 1 (.t x12x)) (.cons (some x74x) none (.ld 1 false (.t x73x)) (.cons (some x75x) none (.len (.t x74x)) (.cons (some x9x) none (.mv (.t x75x)) (.cons (some x10x) none 
  (.mv (.c .ns)) .nil)))))) .skip)) (.reg (.cons (some x76x) none (.mv (.t x10x)) (.cons (some x77x) none (.ld 64 true (.t x13x)) (.cons (some x78x) none (.bsl 40 64 1 (.cons (.b 
  false) (.cons (.b false) (.cons (.b false) (.cons (.b false) (.cons (.b false) (.cons (.b false) (.cons (.b false) (.cons (.b false) (.cons (.b false) (.cons (.b false) (.cons 
  (.b false) (.cons (.b false) (.cons (.b false) (.cons (.b false) (.cons (.b false) (.cons (.b false) (.cons (.b false) (.cons (.b false) (.cons (.b false) (.cons (.b false) 
  (.cons (.b false) (.cons (.b false) (.cons (.b false) (.cons (.b false) (.cons (.b false) (.cons (.b false) (.cons (.b false) (.cons (.b false) (.cons (.b false) (.cons (.b 
  false) (.cons (.b false) (.cons (.b false) (.cons (.b false) (.cons (.b false) (.cons (.b false) (.cons (.b false) (.cons (.b false) (.cons (.b false) (.cons (.b false) (.cons 
  (.b false) (.cons (.b false) (.cons (.b false) (.cons (.b false) (.cons (.b false) (.cons (.b false) (.cons (.b false) (.cons (.b false) (.cons (.b false) (.cons (.b false) 
  (.cons (.b false) (.cons (.b false) (.cons (.b false) (.cons (.b false) (.cons (.b false) (.cons (.b false) (.cons (.b false) (.cons (.b false) (.cons (.b false) (.cons (.b 
  false) (.cons (.b false) (.cons (.b false) (.cons (.b false) (.cons (.b false) (.cons (.b false) .nil)))))))))))))))))))))))))))))))))))))))))))))))))))))))))))))))) (.cons 0 64 
  (.t x77x) .nil)) (.cons (some x79x) none (.app 40 64 64 (.t x76x) (.t x78x)) (.cons (some x10x) none (.mv (.t x79x)) .nil))))))))))) (.reg (.cons (some x80x) none (.bin .add (.t 
  x43x) (.c (.i .u32 (.ofNat 1)))) (.cons (some x43x) none (.mv (.t x80x)) .nil))))))
noncomputable def q4m : IC := match q4.rst 7 with | .seq (.seq a _) _ => a | q => q
theorem q4_m : q4.rst 7 = .seq (.seq q4m (.block 0 (.loop l4a))) (q4.rst 8) := by kernel_rfl
/-- The field of a house of n people by its bits, as cells. -/
def pn (a b : Nat) : Nat := if b < a then a * (a - 1) / 2 + b else b * (b - 1) / 2 + a
def fBi (n bits c : Nat) : Bool := decide (c / 8 < n) && decide (c % 8 < n) && decide (c / 8 ≠ c % 8) && bits.testBit (pn (c / 8) (c % 8))
noncomputable def fL (n bits : Nat) (r : L) : L := (List.range 64).foldr (fun c l => .cons (.b (fBi n bits c)) l) r
noncomputable def fsL (n : Nat) (l : List Nat) : L := l.foldr (fun b r => fL n b r) .nil
/-- Ahead of a house: most and the best so far, where they stand. -/
noncomputable def stl (n k M most p len bits : Nat) : List (Nat × V) := [(5, .n n), (6, .n k), (7, .n M), (9, .n most), (10, Bool.rec (.sl (tp p) 0 64 len none) .ns (Nat.beq len 0)), (42, .i .u32 (.ofNat (Nat.pow 2 (Nat.div (Nat.mul n (Nat.sub n 1)) 2)))), (43, .i .u32 (.ofNat bits))]
/-- The block of the best so far: none yet, its contents not told, or told. -/
inductive Bk where
  | no | un (p len : Nat) | kn (p : Nat) (l : List Nat)
def Bk.len : Bk → Nat
  | .no => 0
  | .un _ k => k
  | .kn _ l => l.length
def Bk.p : Bk → Nat
  | .no => 0
  | .un p _ => p
  | .kn p _ => p
noncomputable def uB (len : Nat) : Blk := ⟨40, 64 * len, 1, .cons .bad .nil, .lf⟩
noncomputable def bkH (n : Nat) : Bk → Hp
  | .no => .lf
  | .un p k => Hp.lf.put (some (uB k)) (tp p)
  | .kn p l => hpC [(p, 40, fsL n l)]
noncomputable def bkB (n : Nat) (h : Hp) : Bk → Bool
  | .no => true
  | .un p k => (match h.get (tp p) with | some b => and (Nat.beq b.el 40) (Nat.ble (64 * k) b.size) | none => false)
  | .kn p l => okK h [(p, 40, fsL n l)]
theorem bkB_le {n : Nat} {h : Hp} : ∀ {b : Bk}, bkB n h b = true → HpLe (bkH n b) h
  | .no, _ => HpLe.lf h
  | .kn p l, e => okK_le e
  | .un p k, e => by
    have e : (match h.get (tp p) with | some b => and (Nat.beq b.el 40) (Nat.ble (64 * k) b.size) | none => false) = true := e
    split at e
    · rename_i b hb
      rw [Bool.and_eq_true, Nat.beq_eq, Nat.ble_eq] at e
      refine HpLe.put ⟨b, hb, .inl rfl, e.1.symm, e.2, fun j hj => .inl ?_⟩ (HpLe.lf h)
      unfold uB
      rw [cell_lf]
      show orZ .bad (nthL (j % 1) (.cons .bad .nil)) = .bad
      rw [Nat.mod_one]; rfl
    · cases e
end Go.Proofs.Ytkdbnhjipnnhjaa.Ev
/- The largest brawl of each house of five people. -/
namespace Go.Proofs.Ytkdbnhjipnnhjaa.Ev
set_option linter.unusedVariables false
set_option maxRecDepth 100000
open Go Go.Proofs Go.RowKit
noncomputable def q13_l0 : IC := (.seq (.seq (.reg (.cons (some (tp 8)) none (.mv (.t (tp 6))) (.cons (some (tp 9)) none (.mv (.t (tp 1))) (.cons (some (tp 10)) none (.bin .shl (.c (I 1)) (.t (tp 9))) (.cons (some 
  (tp 11)) none (.bin .lss (.t (tp 8)) (.t (tp 10))) .nil))))) (.cond (.t (tp 11)) .skip (.exit 0))) (.seq (.block 1 (.seq (.reg (.cons (some (tp 14)) none (.mv (.t (tp 6))) (.cons 
  (some (tp 15)) none (.call 39 (.cons (.t (tp 14)) .nil)) (.cons (some (tp 7)) none (.mv (.t (tp 15))) .nil)))) (.seq (.reg (.cons (some (tp 16)) none (.ld 64 true (.t (tp 2))) 
  (.cons (some (tp 17)) none (.mv (.t (tp 7))) (.cons (some (tp 18)) none (.call 40 (.cons (.t (tp 16)) (.cons (.t (tp 17)) .nil))) (.cons (some (tp 19)) none (.mv (.t (tp 18))) 
  (.cons (some (tp 20)) (some (.mk (tp 19) true)) (.mv (.t (tp 7))) (.cons (some (tp 21)) (some (.mk (tp 19) true)) (.len (.t (tp 20))) (.cons (some (tp 22)) (some (.mk (tp 19) 
  true)) (.mv (.t (tp 5))) (.cons (some (tp 23)) (some (.mk (tp 19) true)) (.len (.t (tp 22))) (.cons (some (tp 24)) (some (.mk (tp 19) true)) (.bin .gtr (.t (tp 21)) (.t (tp 23))) 
  (.cons (some (tp 25)) (some (.mk (tp 19) true)) (.mv (.t (tp 24))) (.cons (some (tp 26)) (some (.mk (tp 25) false)) (.mv (.t (tp 7))) (.cons (some (tp 27)) (some (.mk (tp 25) 
  false)) (.len (.t (tp 26))) (.cons (some (tp 28)) (some (.mk (tp 25) false)) (.mv (.t (tp 5))) (.cons (some (tp 29)) (some (.mk (tp 25) false)) (.len (.t (tp 28))) (.cons (some 
  (tp 30)) (some (.mk (tp 25) false)) (.bin .eql (.t (tp 27)) (.t (tp 29))) (.cons (some (tp 31)) (some (.mk (tp 25) false)) (.mv (.t (tp 30))) (.cons (some (tp 32)) (some (.mk (tp 
  31) true)) (.mv (.t (tp 7))) (.cons (some (tp 33)) (some (.mk (tp 31) true)) (.mv (.t (tp 5))) (.cons (some (tp 34)) (some (.mk (tp 31) true)) (.call 41 (.cons (.t (tp 32)) 
  (.cons (.t (tp 33)) .nil))) (.cons (some (tp 35)) (some (.mk (tp 31) true)) (.bin .lss (.t (tp 34)) (.c (I 0))) (.cons (some (tp 36)) (some (.mk (tp 25) false)) (.pick (.t (tp 
  31)) (.t (tp 35)) (.c (.b false))) (.cons (some (tp 37)) (some (.mk (tp 19) true)) (.pick (.t (tp 25)) (.c (.b true)) (.t (tp 36))) (.cons (some (tp 38)) none (.pick (.t (tp 19)) 
  (.t (tp 37)) (.c (.b false))) .nil)))))))))))))))))))))))) (.cond (.t (tp 38)) (.reg (.cons (some (tp 39)) none (.mv (.t (tp 7))) (.cons (some (tp 5)) none (.mv (.t (tp 39))) 
  .nil))) .skip)))) (.reg (.cons (some (tp 12)) none (.mv (.t (tp 6))) (.cons (some (tp 13)) none (.bin .add (.t (tp 12)) (.c (I 1))) (.cons (some (tp 6)) none (.mv (.t (tp 13))) 
  .nil))))))
noncomputable def q13 : IC := (.seq (.reg (.cons (some (tp 2)) none (.box 40 (.t (tp 0))) (.cons (some (tp 4)) none (.mv (.c .ns)) .nil))) (.seq (.reg (.cons (some (tp 5)) none (.mv (.c .ns)) .nil)) (.seq (.seq 
  (.reg (.cons (some (tp 6)) none (.mv (.c (I 1))) .nil)) (.block 0 (IC.loop q13_l0))) (.seq (.reg (.cons (some (tp 40)) none (.mv (.t (tp 5))) (.cons (some (tp 4)) none (.mv (.t 
  (tp 40))) .nil))) .ret))))
noncomputable def res13 : List RV := [(.tmp (tp 4))]
noncomputable def c13c : Code := match Try.f13.body with | some c => c | none => .skip
theorem b13 : Try.f13.body = some c13c := by kernel_rfl
theorem k13 : compC Try.prog drops Try.f13.ntmps c13c = some q13 := by kernel_rfl
theorem r13 : compRVs Try.prog Try.f13.results.toList = some res13 := by kernel_rfl
theorem n13 : (Try.f13.name == "runtime.NumGoroutine") = false := by kernel_rfl
noncomputable def i13q : IC := i13.q
theorem q13_i : q13 = i13q := by kernel_rfl
def lgC : List (List Nat) := [[1, 3, 5, 3, 6, 3, 5, 7, 9, 3, 5, 3, 9, 3, 5, 7, 10, 3, 5, 3, 6, 3, 5, 7, 9, 11, 5, 11, 9, 11, 5, 7],
  [12, 3, 5, 3, 6, 3, 5, 7, 9, 3, 13, 13, 9, 3, 13, 7, 10, 3, 5, 3, 14, 14, 14, 7, 9, 11, 13, 11, 14, 11, 13, 15],
  [17, 3, 5, 3, 17, 3, 5, 7, 9, 3, 5, 3, 9, 3, 5, 7, 17, 3, 5, 3, 17, 3, 5, 7, 9, 11, 5, 11, 9, 11, 5, 7],
  [17, 3, 5, 3, 17, 3, 5, 7, 9, 3, 13, 13, 9, 3, 13, 7, 17, 3, 5, 3, 14, 14, 14, 7, 9, 11, 13, 11, 14, 11, 13, 15],
  [18, 3, 5, 3, 6, 3, 5, 7, 9, 3, 5, 3, 9, 3, 5, 7, 10, 3, 5, 3, 6, 3, 5, 7, 9, 11, 5, 11, 9, 11, 5, 7],
  [18, 3, 5, 3, 6, 3, 5, 7, 9, 3, 13, 13, 9, 3, 13, 7, 10, 3, 5, 3, 14, 14, 14, 7, 9, 11, 13, 11, 14, 11, 13, 15],
  [17, 19, 5, 19, 17, 19, 5, 7, 9, 19, 5, 19, 9, 19, 5, 7, 17, 19, 5, 19, 17, 19, 5, 7, 9, 11, 5, 11, 9, 11, 5, 7],
  [17, 19, 5, 19, 17, 19, 5, 7, 9, 19, 13, 19, 9, 19, 13, 7, 17, 19, 5, 19, 14, 19, 14, 7, 9, 11, 13, 11, 14, 11, 13, 15],
  [20, 3, 5, 3, 6, 3, 5, 7, 9, 3, 5, 3, 9, 3, 5, 7, 10, 3, 5, 3, 6, 3, 5, 7, 9, 11, 5, 11, 9, 11, 5, 7],
  [12, 3, 5, 3, 6, 3, 5, 7, 9, 3, 13, 13, 9, 3, 13, 7, 10, 3, 5, 3, 14, 14, 14, 7, 9, 11, 13, 11, 14, 11, 13, 15],
  [17, 3, 21, 21, 17, 3, 21, 7, 9, 3, 21, 21, 9, 3, 21, 7, 17, 3, 21, 21, 17, 3, 21, 7, 9, 11, 21, 11, 9, 11, 21, 7],
  [17, 3, 21, 21, 17, 3, 21, 7, 9, 3, 13, 13, 9, 3, 13, 7, 17, 3, 21, 21, 14, 14, 21, 7, 9, 11, 13, 11, 14, 11, 13, 15],
  [18, 3, 5, 3, 22, 22, 22, 7, 9, 3, 5, 3, 22, 22, 22, 7, 10, 3, 5, 3, 22, 22, 22, 7, 9, 11, 5, 11, 22, 11, 22, 7],
  [18, 3, 5, 3, 22, 22, 22, 7, 9, 3, 13, 13, 22, 22, 13, 7, 10, 3, 5, 3, 14, 14, 14, 7, 9, 11, 13, 11, 14, 11, 13, 15],
  [17, 19, 21, 19, 22, 19, 21, 23, 9, 19, 21, 19, 22, 19, 21, 23, 17, 19, 21, 19, 22, 19, 21, 23, 9, 11, 21, 11, 22, 11, 21, 23],
  [17, 19, 21, 19, 22, 19, 21, 23, 9, 19, 13, 19, 22, 19, 13, 23, 17, 19, 21, 19, 14, 19, 21, 23, 9, 11, 13, 11, 14, 11, 13, 15],
  [24, 3, 5, 3, 6, 3, 5, 7, 9, 3, 5, 3, 9, 3, 5, 7, 10, 3, 5, 3, 6, 3, 5, 7, 9, 11, 5, 11, 9, 11, 5, 7],
  [12, 3, 5, 3, 6, 3, 5, 7, 9, 3, 13, 13, 9, 3, 13, 7, 10, 3, 5, 3, 14, 14, 14, 7, 9, 11, 13, 11, 14, 11, 13, 15],
  [17, 3, 5, 3, 17, 3, 5, 7, 25, 25, 25, 25, 25, 25, 25, 7, 17, 3, 5, 3, 17, 3, 5, 7, 25, 11, 25, 11, 25, 11, 25, 7],
  [17, 3, 5, 3, 17, 3, 5, 7, 25, 25, 13, 13, 25, 25, 13, 7, 17, 3, 5, 3, 14, 14, 14, 7, 25, 11, 13, 11, 25, 11, 13, 15],
  [18, 3, 5, 3, 6, 3, 5, 7, 9, 3, 5, 3, 9, 3, 5, 7, 26, 26, 26, 26, 26, 26, 26, 7, 26, 11, 26, 11, 26, 11, 26, 7],
  [18, 3, 5, 3, 6, 3, 5, 7, 9, 3, 13, 13, 9, 3, 13, 7, 26, 26, 26, 26, 14, 14, 14, 7, 26, 11, 13, 11, 14, 11, 13, 15],
  [17, 19, 5, 19, 17, 19, 5, 7, 25, 19, 25, 19, 25, 19, 25, 7, 26, 19, 26, 19, 26, 19, 26, 7, 25, 27, 25, 27, 25, 27, 25, 27],
  [17, 19, 5, 19, 17, 19, 5, 7, 25, 19, 13, 19, 25, 19, 13, 7, 26, 19, 26, 19, 14, 19, 14, 7, 25, 27, 13, 27, 25, 27, 13, 15],
  [20, 3, 5, 3, 6, 3, 5, 7, 9, 3, 5, 3, 9, 3, 5, 7, 10, 3, 5, 3, 6, 3, 5, 7, 9, 11, 5, 11, 9, 11, 5, 7],
  [28, 28, 28, 28, 28, 28, 28, 7, 28, 28, 13, 13, 28, 28, 13, 7, 28, 28, 28, 28, 14, 14, 14, 7, 28, 11, 13, 11, 14, 11, 13, 15],
  [17, 3, 21, 21, 17, 3, 21, 7, 25, 25, 21, 21, 25, 25, 21, 7, 17, 3, 21, 21, 17, 3, 21, 7, 25, 11, 21, 11, 25, 11, 21, 7],
  [28, 28, 21, 21, 28, 28, 21, 7, 25, 25, 29, 29, 25, 25, 29, 29, 28, 28, 21, 21, 14, 14, 21, 7, 25, 11, 29, 29, 25, 11, 29, 15],
  [18, 3, 5, 3, 22, 22, 22, 7, 9, 3, 5, 3, 22, 22, 22, 7, 26, 26, 26, 26, 22, 22, 22, 7, 26, 11, 26, 11, 22, 11, 22, 7],
  [28, 28, 28, 28, 22, 22, 22, 7, 28, 28, 13, 13, 22, 22, 13, 7, 26, 26, 26, 26, 30, 30, 30, 30, 26, 11, 13, 11, 30, 30, 30, 15],
  [17, 19, 21, 19, 22, 19, 21, 23, 25, 19, 21, 19, 25, 19, 21, 23, 26, 19, 21, 19, 22, 19, 21, 23, 25, 27, 21, 27, 25, 27, 21, 23],
  [28, 19, 21, 19, 22, 19, 21, 23, 25, 19, 29, 29, 25, 19, 29, 23, 26, 19, 21, 19, 30, 30, 30, 23, 25, 27, 29, 27, 30, 27, 29, 31]]
def lgm (b : Nat) : Nat := (lgC.getD (b / 32) []).getD (b % 32) 0
noncomputable def rl (b : Nat) : Bool := finS 3 1 (pe (lgm b)).length (iL (pe (lgm b))) res13 ((kC i13q nK).f (EP 60) 256 (bind (.cons (.ag (fL 5 b .nil)) (.cons (.n 5) .nil)) 0 .lf) .lf 256)
end Go.Proofs.Ytkdbnhjipnnhjaa.Ev
