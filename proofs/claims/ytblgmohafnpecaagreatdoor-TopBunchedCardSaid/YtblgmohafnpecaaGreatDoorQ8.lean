/- The texts EvPc, EvPd, EvPe, EvPf, TbbB, TbbW, EvPl, EvSe, TbbN, TbbA3, TbbD, TbbB1, TbbB2, TbbB3, TbbB4, TbbBw. -/
import Derived.Test.YtblgmohafnpecaaGreatDoorQ6
import Derived.Test.YtblgmohafnpecaaGreatDoorQ7
/- Stages of a law by evaluation alone: a piece is run at each value of an argument; what it leaves is read off its slots. -/
namespace Go.Proofs.YtblgmohafnpecaaGreatDoor.Ev
set_option linter.unusedVariables false
open Go Go.Proofs Go.RowKit

noncomputable def pcE (r : Rs) : Tr := Rs.rec (motive := fun _ => Tr) .lf (fun e _ _ => e) (fun _ _ _ _ => .lf) (fun _ _ _ => .lf) r
noncomputable def pcH (r : Rs) : Hp := Rs.rec (motive := fun _ => Hp) .lf (fun _ h _ => h) (fun _ _ _ _ => .lf) (fun _ _ _ => .lf) r
/-- The piece goes on to the next, and its places stay below m. -/
noncomputable def pcN (m : Nat) (r : Rs) : Bool := Rs.rec (motive := fun _ => Bool) false (fun _ _ n => Nat.ble n m) (fun _ _ _ _ => false) (fun _ _ _ => false) r
theorem pcN_ok {m : Nat} {r : Rs} (h : pcN m r = true) : ∃ n, r = .nor (pcE r) (pcH r) n ∧ n ≤ m := by
  cases r with
  | nor e h' n => exact ⟨n, rfl, Nat.le_of_ble_eq_true h⟩
  | _ => cases h
/-- Some slots with their values. -/
noncomputable def mkE : List (Nat × V) → Tr
  | [] => .lf
  | x :: l => (mkE l).set x.2 (tp x.1)
/-- What is read behind a piece: that it goes on, the slots ts, the tables' blocks. -/
noncomputable def stg (tabs : List (Nat × TypeId × L)) (m : Nat) (ts : List Nat) (r : Rs) : Bool × List V × List (Option Blk) :=
  (pcN m r, ts.map (fun t => (pcE r).get (tp t)), tabs.map fun x => (pcH r).get (tp x.1))
/-- What it should be. -/
noncomputable def stgIs (tabs : List (Nat × TypeId × L)) (l : List (Nat × V)) : Bool × List V × List (Option Blk) :=
  (true, l.map Prod.snd, tabs.map fun x => (tabH tabs).get (tp x.1))
theorem mkE_le {e : Tr} : ∀ {l : List (Nat × V)}, (l.all fun x => decide (x.1 < 4294967296)) = true → (l.map Prod.fst).map (fun t => e.get (tp t)) = l.map Prod.snd → EnvLe (mkE l) e
  | [], _, _ => EnvLe.lf e
  | (t, v) :: l, hl, h => by
    simp only [List.all_cons, Bool.and_eq_true, decide_eq_true_eq] at hl
    simp only [List.map_cons, List.cons.injEq] at h
    exact EnvLe.set hl.1 h.1 (mkE_le hl.2 h.2)
theorem tabH_mem : ∀ (l : List (Nat × TypeId × L)) (p : Pos) (b : Blk), (tabH l).get p = some b → ∃ x ∈ l, p = tp x.1
  | [], p, b, h => by have := (Hp.get_lf p).symm.trans h; cases this
  | (k, el, z) :: l, p, b, h => by
    have h : ((tabH l).put (some ⟨el, z.length, z.length, z, .lf⟩) (tp k)).get p = some b := h
    rw [Hp.get_put] at h
    split at h
    · rename_i e; exact ⟨_, List.mem_cons_self, e⟩
    · obtain ⟨x, hx, e⟩ := tabH_mem l p b h; exact ⟨x, List.mem_cons_of_mem _ hx, e⟩
theorem tabH_le {tabs : List (Nat × TypeId × L)} {h : Hp} (hh : (tabs.map fun x => h.get (tp x.1)) = tabs.map fun x => (tabH tabs).get (tp x.1)) : HpLe (tabH tabs) h := fun p b hp => by
  obtain ⟨x, hx, rfl⟩ := tabH_mem tabs p b hp
  exact ⟨b, (List.map_inj_left.1 hh x hx).trans hp, BlkLe.refl b⟩
/-- A piece is as good from a later place on. -/
theorem JQ.later {P : Program} {dr : List Nat} {N lim n n2 : Nat} {F : FF} {q : IC} {K : Rs → Prop} {e : Tr} {h : Hp} (hn : n ≤ n2) (j : JQ P dr N F q lim K e h n2) : JQ P dr N F q lim K e h n := fun c hc a g w he m hd hf =>
  wp_mono (j c hc a g w he m (fun p b hp => Nat.lt_of_lt_of_le (hd p b hp) hn) (fun p hp => hf p (Nat.le_trans hn hp))) fun ex a' w' ⟨r, k, t, p⟩ => ⟨r, k, t, by
    have key : ∀ {n' : Nat} {g' : Sig} {h' : Hm} {w' : World}, Fr lim n2 g h.get w n' g' h' w' → Fr lim n g h.get w n' g' h' w' := fun f =>
      { f with
        le := Nat.le_trans hn f.le
        sig := fun p hp => f.sig p (by omega)
        dom := fun p b e => ⟨fun hp => (f.dom p b e).1 (by omega), (f.dom p b e).2⟩
        new := fun p r base tot h1 h2 e => by
          by_cases h3 : n2 ≤ p.num
          · exact f.new p r base tot h3 h2 e
          · rw [f.sig p (.inl (by omega)), hf p h1] at e; cases e }
    cases r with
    | no => exact p
    | nor => obtain ⟨h1, h2, g', h3, h4, h5⟩ := p; exact ⟨h1, h2, g', h3, h4, key h5⟩
    | ext => obtain ⟨h1, h2, g', h3, h4, h5⟩ := p; exact ⟨h1, h2, g', h3, h4, key h5⟩
    | ret => obtain ⟨h1, h2, g', h3, h4, h5⟩ := p; exact ⟨h1, h2, g', h3, h4, key h5⟩⟩
/-- A piece evaluated, all that follows kept. -/
theorem JQ.piece {P : Program} (hP : P.follows .mixedOrders = true) {dr : List Nat} {N lim n : Nat} {F : FF} (hF : FOK P F) (hM : F.mono) {qa qb : IC} {K : Rs → Prop} {e : Tr} {h : Hp} {e1 : Tr} {h1 : Hp} {n1 : Nat} (hk : (kC qa nK).f F lim e h n = .nor e1 h1 n1) (hn : n1 < big)
    (j : JQ P dr N F qb lim K e1 h1 n1) : JQ P dr N F (.seq qa qb) lim K e h n := by
  refine JQ.step hP hF hM ?_
  rw [kC_eq, onC_nK] at hk
  rw [hk]; exact ⟨hn, j⟩
/-- A stage: the piece is evaluated; the slots of l and the tables are all that is kept of it. -/
theorem JQ.stage {P : Program} (hP : P.follows .mixedOrders = true) {dr : List Nat} {N lim n m : Nat} {F : FF} (hF : FOK P F) (hM : F.mono) {qa qb : IC} {K : Rs → Prop} {e : Tr} {h : Hp} {tabs : List (Nat × TypeId × L)} {l : List (Nat × V)}
    (hk : stg tabs m (l.map Prod.fst) ((kC qa nK).f F lim e h n) = stgIs tabs l) (hl : (l.all fun x => decide (x.1 < 4294967296)) = true) (hm : m < big)
    (j : JQ P dr N F qb lim K (mkE l) (tabH tabs) m) : JQ P dr N F (.seq qa qb) lim K e h n := by
  have hk' := hk
  unfold stg stgIs at hk'
  simp only [Prod.mk.injEq] at hk'
  obtain ⟨h1, h2, h3⟩ := hk'
  obtain ⟨n1, h4, h5⟩ := pcN_ok h1
  exact JQ.piece hP hF hM h4 (Nat.lt_of_le_of_lt h5 hm) (JQ.later h5 (JQ.weak (mkE_le hl h2) (tabH_le h3) j))
/-- A chunk of values. -/
theorem chunk {α : Type} {f g : Nat → α} {c k t : Nat} (h : (List.range c).map (fun i => f (k + i)) = (List.range c).map fun i => g (k + i)) (h1 : k ≤ t) (h2 : t < k + c) : f t = g t := by
  have := List.map_inj_left.1 h (t - k) (List.mem_range.2 (by omega))
  have e : k + (t - k) = t := by omega
  rwa [e] at this
theorem chunkB {f : Nat → Bool} {c k t : Nat} (h : (List.range c).all (fun i => f (k + i)) = true) (h1 : k ≤ t) (h2 : t < k + c) : f t = true := by
  have := List.all_eq_true.1 h (t - k) (List.mem_range.2 (by omega))
  have e : k + (t - k) = t := by omega
  rwa [e] at this
/-! Several pieces in a row. -/
noncomputable def seqs (ps : List IC) (q : IC) : IC := ps.foldr .seq q
/-- The first so many pieces of a body, and the rest. -/
noncomputable def IC.pcs (q : IC) (k : Nat) : List IC := Nat.rec (motive := fun _ => IC → List IC) (fun _ => []) (fun _ ih q => match q with | .seq a b => a :: ih b | q => [q]) k q
noncomputable def IC.rst (q : IC) (k : Nat) : IC := Nat.rec (motive := fun _ => IC → IC) (fun q => q) (fun _ ih q => match q with | .seq _ b => ih b | q => q) k q
/-- They are run one after the other; each has to go on to the next with its places below m. -/
noncomputable def runP (F : FF) (lim m : Nat) (ps : List IC) : Rs → Rs := List.rec (motive := fun _ => Rs → Rs) (fun r => r)
  (fun p _ ih r => Rs.rec (motive := fun _ => Rs) .no (fun e h n => Bool.rec .no (ih ((kC p nK).f F lim e h n)) (Nat.ble n m)) (fun _ _ _ _ => .no) (fun _ _ _ => .no) r) ps
theorem runP_no (F : FF) (lim m : Nat) {ps : List IC} {r : Rs} {e : Tr} {h : Hp} {n : Nat} (hr : runP F lim m ps r = .nor e h n) : ∃ e1 h1 n1, r = .nor e1 h1 n1 := by
  cases ps with
  | nil => exact ⟨_, _, _, hr⟩
  | cons p ps =>
    cases r with
    | nor e1 h1 n1 => exact ⟨_, _, _, rfl⟩
    | _ => exact absurd (show (Rs.no) = _ from hr) (by simp)
theorem JQ.pieces {P : Program} (hP : P.follows .mixedOrders = true) {dr : List Nat} {N lim m : Nat} {F : FF} (hF : FOK P F) (hM : F.mono) {qb : IC} {K : Rs → Prop} (hm : m < big) {e1 : Tr} {h1 : Hp} {n1 : Nat} (hn1 : n1 ≤ m) (j : JQ P dr N F qb lim K e1 h1 n1) :
    ∀ (ps : List IC) {e : Tr} {h : Hp} {n : Nat}, runP F lim m ps (.nor e h n) = .nor e1 h1 n1 → JQ P dr N F (seqs ps qb) lim K e h n
  | [], e, h, n, hr => by
    have hr : Rs.nor e h n = Rs.nor e1 h1 n1 := hr
    cases hr; exact j
  | p :: ps, e, h, n, hr => by
    have hr : (Bool.rec .no (runP F lim m ps ((kC p nK).f F lim e h n)) (Nat.ble n m) : Rs) = .nor e1 h1 n1 := hr
    cases hb : Nat.ble n m with
    | false => rw [hb] at hr; cases hr
    | true =>
      rw [hb] at hr
      have hr : runP F lim m ps ((kC p nK).f F lim e h n) = .nor e1 h1 n1 := hr
      obtain ⟨e2, h2, n2, h3⟩ := runP_no F lim m hr
      rw [h3] at hr
      have hn2 : n2 ≤ m := by
        cases ps with
        | nil => have hr : Rs.nor e2 h2 n2 = Rs.nor e1 h1 n1 := hr; cases hr; exact hn1
        | cons p' ps' =>
          have hr : (Bool.rec .no (runP F lim m ps' ((kC p' nK).f F lim e2 h2 n2)) (Nat.ble n2 m) : Rs) = .nor e1 h1 n1 := hr
          cases hb2 : Nat.ble n2 m with
          | false => rw [hb2] at hr; cases hr
          | true => exact Nat.le_of_ble_eq_true hb2
      exact JQ.piece hP hF hM h3 (Nat.lt_of_le_of_lt hn2 hm) (JQ.pieces hP hF hM hm hn1 j ps hr)
/-- A stage of several pieces. -/
theorem JQ.stages {P : Program} (hP : P.follows .mixedOrders = true) {dr : List Nat} {N lim n m : Nat} {F : FF} (hF : FOK P F) (hM : F.mono) {q qb : IC} (ps : List IC) {K : Rs → Prop} {e : Tr} {h : Hp} {tabs : List (Nat × TypeId × L)} {l : List (Nat × V)} (hq : q = seqs ps qb)
    (hk : stg tabs m (l.map Prod.fst) (runP F lim m ps (.nor e h n)) = stgIs tabs l) (hl : (l.all fun x => decide (x.1 < 4294967296)) = true) (hm : m < big)
    (j : JQ P dr N F qb lim K (mkE l) (tabH tabs) m) : JQ P dr N F q lim K e h n := by
  subst hq
  have hk' := hk
  unfold stg stgIs at hk'
  simp only [Prod.mk.injEq] at hk'
  obtain ⟨h1, h2, h3⟩ := hk'
  obtain ⟨n1, h4, h5⟩ := pcN_ok h1
  exact JQ.pieces hP hF hM hm h5 (JQ.later h5 (JQ.weak (mkE_le hl h2) (tabH_le h3) j)) ps h4
end Go.Proofs.YtblgmohafnpecaaGreatDoor.Ev
/- Laws over few inputs, where no table is in memory: a stage that keeps its memory, and the run's end. -/
namespace Go.Proofs.YtblgmohafnpecaaGreatDoor.Ev
set_option linter.unusedVariables false
open Go Go.Proofs Go.RowKit
/-- A run's end: true is handed back. -/
noncomputable def finB (res : List RV) (e : Tr) (h : Hp) (n : Nat) : Bool := and (evRVs e h res).known (and (onB (evRes e h res) (fun b => b) false) (Nat.blt n 9223372036854775808))
noncomputable def finR (res : List RV) (r : Rs) : Bool := Rs.rec false (fun e h n => finB res e h n) (fun _ _ _ _ => false) (fun e h n => finB res e h n) r
theorem finB_ok {res : List RV} {e : Tr} {h : Hp} {n : Nat} (hf : finB res e h n = true) : n < big ∧ (evRVs e h res).known = true ∧ evRes e h res = .b true := by
  unfold finB at hf
  simp only [Bool.and_eq_true, Nat.blt_eq] at hf
  refine ⟨hf.2.2, hf.1, ?_⟩
  have := hf.2.1
  cases hx : evRes e h res <;> rw [hx] at this <;> simp [onB, V.asB] at this
  rw [this]
theorem got_fin {res : List RV} {r : Rs} (h : finR res r = true) : Got (Kend res (Good 0 (.v (.b true)))) r := by
  cases r with
  | no => cases h
  | ext => cases h
  | nor e h' n => have := finB_ok h; exact ⟨this.1, this.2.1, this.2.2, rfl⟩
  | ret e h' n => have := finB_ok h; exact ⟨this.1, this.2.1, this.2.2, rfl⟩
/-- A piece run to the law's end. -/
theorem JQ.fin {P : Program} (hP : P.follows .mixedOrders = true) {dr : List Nat} {N lim n : Nat} {F : FF} (hF : FOK P F) (hM : F.mono) {res : List RV} {q : IC} {e : Tr} {h : Hp} (hk : finR res ((kC q nK).f F lim e h n) = true) : JQ P dr N F q lim (Kend res (Good 0 (.v (.b true)))) e h n := by
  refine JQ.run hP hF hM ?_
  rw [kC_eq, onC_nK] at hk; exact got_fin hk
/-- What is looked at behind a stage. -/
noncomputable def obs (m : Nat) (ts : List Nat) (r : Rs) : Bool × List V × Hp := (pcN m r, ts.map (fun t => (pcE r).get (tp t)), pcH r)
noncomputable def lstO (ts : List Nat) (r : Rs) : List (Nat × V) := ts.map fun t => (t, (pcE r).get (tp t))
/-- A stage that comes to what another run of it comes to. -/
theorem JQ.stageX {P : Program} (hP : P.follows .mixedOrders = true) {dr : List Nat} {N lim n m : Nat} {F : FF} (hF : FOK P F) (hM : F.mono) {q qb : IC} (ps : List IC) {K : Rs → Prop} {e : Tr} {h : Hp} (ts : List Nat) (r0 : Rs) (hq : q = seqs ps qb)
    (hk : obs m ts (runP F lim m ps (.nor e h n)) = obs m ts r0) (h0 : pcN m r0 = true) (hl : ((lstO ts r0).all fun x => decide (x.1 < 4294967296)) = true) (hm : m < big)
    (j : JQ P dr N F qb lim K (mkE (lstO ts r0)) (pcH r0) m) : JQ P dr N F q lim K e h n := by
  subst hq
  unfold obs at hk
  simp only [Prod.mk.injEq] at hk
  obtain ⟨h1, h2, h3⟩ := hk
  rw [h0] at h1
  obtain ⟨n1, h4, h5⟩ := pcN_ok h1
  refine JQ.pieces hP hF hM hm h5 (JQ.later h5 (JQ.weak (mkE_le hl ?_) (by rw [h3]; exact HpLe.refl _) j)) ps h4
  unfold lstO
  rw [List.map_map, List.map_map, List.map_map]
  exact h2
/-- A stage that comes to slots and memory that are told. -/
theorem JQ.stageY {P : Program} (hP : P.follows .mixedOrders = true) {dr : List Nat} {N lim n m : Nat} {F : FF} (hF : FOK P F) (hM : F.mono) {q qb : IC} (ps : List IC) {K : Rs → Prop} {e : Tr} {h : Hp} (l : List (Nat × V)) (hh : Hp) (hq : q = seqs ps qb)
    (hk : obs m (l.map Prod.fst) (runP F lim m ps (.nor e h n)) = (true, l.map Prod.snd, hh)) (hl : (l.all fun x => decide (x.1 < 4294967296)) = true) (hm : m < big)
    (j : JQ P dr N F qb lim K (mkE l) hh m) : JQ P dr N F q lim K e h n := by
  subst hq
  unfold obs at hk
  simp only [Prod.mk.injEq] at hk
  obtain ⟨h1, h2, h3⟩ := hk
  obtain ⟨n1, h4, h5⟩ := pcN_ok h1
  exact JQ.pieces hP hF hM hm h5 (JQ.later h5 (JQ.weak (mkE_le hl h2) (by rw [h3]; exact HpLe.refl _) j)) ps h4
/-- A run's end: a plain value is handed back. -/
noncomputable def finXB (x : V) (res : List RV) (e : Tr) (h : Hp) (n : Nat) : Bool := and (evRVs e h res).known (and (eqV (evRes e h res) x) (Nat.blt n 9223372036854775808))
noncomputable def finX (x : V) (res : List RV) (r : Rs) : Bool := Rs.rec false (fun e h n => finXB x res e h n) (fun _ _ _ _ => false) (fun e h n => finXB x res e h n) r
theorem finXB_ok {x : V} {res : List RV} {e : Tr} {h : Hp} {n : Nat} (hf : finXB x res e h n = true) : n < big ∧ (evRVs e h res).known = true ∧ evRes e h res = x := by
  unfold finXB at hf
  simp only [Bool.and_eq_true, Nat.blt_eq] at hf
  exact ⟨hf.2.2, hf.1, eqV_eq _ _ hf.2.1⟩
theorem JQ.finX {P : Program} (hP : P.follows .mixedOrders = true) {dr : List Nat} {N lim n nb : Nat} {F : FF} (hF : FOK P F) (hM : F.mono) {res : List RV} {q : IC} {e : Tr} {h : Hp} {x : V} (hx : x.pur = true) (hk : finX x res ((kC q nK).f F lim e h n) = true) : JQ P dr N F q lim (Kend res (Good nb (.v x))) e h n := by
  refine JQ.run hP hF hM ?_
  rw [kC_eq, onC_nK] at hk
  revert hk
  generalize evC q F lim e h n = r
  intro hk
  cases r with
  | no => cases hk
  | ext => cases hk
  | nor e h' n => have := finXB_ok hk; exact ⟨this.1, this.2.1, this.2.2, hx⟩
  | ret e h' n => have := finXB_ok hk; exact ⟨this.1, this.2.1, this.2.2, hx⟩
/-- Some answers by a contract, all others as before. -/
def ovF (f : Nat) (s : L → Nat → Hp → Nat → Res) (F : FF) : FF := fun g args lim h n => if g = f then (match s args lim h n with | .ok v h' n' => .ok v h' n' | .no => F g args lim h n) else F g args lim h n
theorem ovF_ok {P : Program} {f : Nat} {s : L → Nat → Hp → Nat → Res} {F : FF} (hs : SOK P f s) (hF : FOK P F) (hne : YID ≠ f := by decide) : FOK P (ovF f s F) := by
  refine ⟨fun g args lim h n v h' n' hr => ?_, fun p args lim h n v h' n' hr => ?_⟩
  · unfold ovF at hr
    split at hr
    · rename_i e
      subst e
      split at hr
      · rename_i v1 h1 n1 he
        cases hr
        exact hs _ _ _ _ _ _ _ he
      · exact hF.1 _ _ _ _ _ _ _ _ hr
    · exact hF.1 _ _ _ _ _ _ _ _ hr
  · unfold ovF at hr
    rw [if_neg hne] at hr
    exact hF.2 _ _ _ _ _ _ _ _ hr
theorem ovF_mono {f : Nat} {s : L → Nat → Hp → Nat → Res} {F : FF} (hs : SMo s) (hF : F.mono) : (ovF f s F).mono := fun g args lim h n => by
  unfold ovF
  split
  · have := hs args lim h n
    cases he : s args lim h n with
    | no => exact hF _ _ _ _ _
    | ok v h' n' => rw [he] at this; exact this
  · exact hF _ _ _ _ _
/-- Some blocks with their places. -/
noncomputable def hpL : List (Nat × Blk) → Hp
  | [] => .lf
  | x :: l => (hpL l).put (some x.2) (tp x.1)
theorem hpL_le {h : Hp} : ∀ {l : List (Nat × Blk)}, (l.map fun x => h.get (tp x.1)) = (l.map fun x => some x.2) → HpLe (hpL l) h
  | [], _ => HpLe.lf h
  | x :: l, e => by
    simp only [List.map_cons, List.cons.injEq] at e
    exact HpLe.put ⟨x.2, e.1, BlkLe.refl _⟩ (hpL_le e.2)
noncomputable def obsZ (m : Nat) (ts ks : List Nat) (r : Rs) : Bool × List V × List (Option Blk) := (pcN m r, ts.map (fun t => (pcE r).get (tp t)), ks.map fun k => (pcH r).get (tp k))
noncomputable def isZ (l : List (Nat × V)) (bl : List (Nat × Blk)) : Bool × List V × List (Option Blk) := (true, l.map Prod.snd, bl.map fun x => some x.2)
/-- A stage of which some slots and some blocks are kept. -/
theorem JQ.stageZ {P : Program} (hP : P.follows .mixedOrders = true) {dr : List Nat} {N lim n m : Nat} {F : FF} (hF : FOK P F) (hM : F.mono) {q qb : IC} (ps : List IC) {K : Rs → Prop} {e : Tr} {h : Hp} (l : List (Nat × V)) (bl : List (Nat × Blk)) (hq : q = seqs ps qb)
    (hk : obsZ m (l.map Prod.fst) (bl.map Prod.fst) (runP F lim m ps (.nor e h n)) = isZ l bl) (hl : (l.all fun x => decide (x.1 < 4294967296)) = true) (hm : m < big)
    (j : JQ P dr N F qb lim K (mkE l) (hpL bl) m) : JQ P dr N F q lim K e h n := by
  subst hq
  unfold obsZ isZ at hk
  simp only [Prod.mk.injEq] at hk
  obtain ⟨h1, h2, h3⟩ := hk
  obtain ⟨n1, h4, h5⟩ := pcN_ok h1
  rw [List.map_map] at h3
  exact JQ.pieces hP hF hM hm h5 (JQ.later h5 (JQ.weak (mkE_le hl h2) (hpL_le h3) j)) ps h4
noncomputable def FnI.q (x : FnI) : IC := FnI.rec (motive := fun _ => IC) (fun _ _ q _ => q) x
noncomputable def FnI.r (x : FnI) : List RV := FnI.rec (motive := fun _ => List RV) (fun _ _ _ r => r) x
end Go.Proofs.YtblgmohafnpecaaGreatDoor.Ev
/- One answer for one list of plain arguments, evaluated once and then told. -/
namespace Go.Proofs.YtblgmohafnpecaaGreatDoor.Ev
set_option linter.unusedVariables false
open Go Go.Proofs Go.RowKit
noncomputable def spE (a : L) (x : V) (args : L) (_ : Nat) (h : Hp) (n : Nat) : Res := Bool.rec .no (.ok x h n) (eqL args a)
theorem spE_mo (a : L) (x : V) : SMo (spE a x) := fun args lim h n => by
  unfold spE
  cases eqL args a with
  | false => trivial
  | true => exact Nat.le_refl n
noncomputable def isX (x : V) (r : Res) : Bool := Res.rec false (fun v _ n => and (eqV v x) (Nat.blt n 9223372036854775808)) r
theorem isX_ok {x : V} {r : Res} (h : isX x r = true) : ∃ h' n', r = .ok x h' n' ∧ n' < 9223372036854775808 := by
  cases r with
  | no => cases h
  | ok v h' n' =>
    have h : and (eqV v x) (Nat.blt n' 9223372036854775808) = true := h
    simp only [Bool.and_eq_true, Nat.blt_eq] at h
    exact ⟨h', n', by rw [eqV_eq _ _ h.1], h.2⟩
theorem spE_ok {P : Program} {F : FF} (hF : FOK P F) {f : Nat} {a : L} {x : V} (hk : isX x (F f a 256 .lf 256) = true) (hpa : a.pur = true) (hpx : x.pur = true) : SOK P f (spE a x) := fun args lim h n v h' n' hr => by
  unfold spE at hr
  cases he : eqL args a with
  | false => rw [he] at hr; cases hr
  | true =>
    rw [he] at hr
    cases hr
    rw [eqL_eq _ _ he]
    obtain ⟨h1, n1, e1, e2⟩ := isX_ok hk
    exact callsAny rfl (hF.1 f a 256 .lf 256 x h1 n1 e1) e2 hpa hpx lim _ _
end Go.Proofs.YtblgmohafnpecaaGreatDoor.Ev
/- A stage of which some slots and the cells of some blocks are kept. -/
namespace Go.Proofs.YtblgmohafnpecaaGreatDoor.Ev
set_option linter.unusedVariables false
open Go Go.Proofs Go.RowKit
noncomputable def okB (el : TypeId) (l : L) (ob : Option Blk) : Bool := Option.rec false (fun b => and (Nat.beq b.el el) (and (Nat.ble l.length b.size) (eqL (b.getL 0 l.length) l))) ob
theorem okB_le {el : TypeId} {l : L} {ob : Option Blk} (h : okB el l ob = true) : ∃ b, ob = some b ∧ BlkLe (blkL el l) b := by
  cases ob with
  | none => cases h
  | some b =>
    have h : and (Nat.beq b.el el) (and (Nat.ble l.length b.size) (eqL (b.getL 0 l.length) l)) = true := h
    simp only [Bool.and_eq_true, Nat.beq_eq, Nat.ble_eq] at h
    refine ⟨b, rfl, .inl rfl, h.1.symm, h.2.1, fun k hk => .inr ?_⟩
    have hk : k < l.length := hk
    rw [blkL_cell el l k hk, ← eqL_eq _ _ h.2.2, getL_get b _ _ _ hk, Nat.zero_add]
noncomputable def hpC : List (Nat × TypeId × L) → Hp
  | [] => .lf
  | x :: l => (hpC l).put (some (blkL x.2.1 x.2.2)) (tp x.1)
noncomputable def okK (h : Hp) (bl : List (Nat × TypeId × L)) : Bool := List.rec true (fun x _ ih => and (okB x.2.1 x.2.2 (h.get (tp x.1))) ih) bl
theorem okK_le {h : Hp} : ∀ {l : List (Nat × TypeId × L)}, okK h l = true → HpLe (hpC l) h
  | [], _ => HpLe.lf h
  | x :: l, e => by
    have e : and (okB x.2.1 x.2.2 (h.get (tp x.1))) (okK h l) = true := e
    rw [Bool.and_eq_true] at e
    exact HpLe.put (okB_le e.1) (okK_le e.2)
noncomputable def obsC (m : Nat) (ts : List Nat) (bl : List (Nat × TypeId × L)) (r : Rs) : Bool × List V × Bool := (pcN m r, ts.map (fun t => (pcE r).get (tp t)), okK (pcH r) bl)
theorem JQ.stageC {P : Program} (hP : P.follows .mixedOrders = true) {dr : List Nat} {N lim n m : Nat} {F : FF} (hF : FOK P F) (hM : F.mono) {q qb : IC} (ps : List IC) {K : Rs → Prop} {e : Tr} {h : Hp} (l : List (Nat × V)) (bl : List (Nat × TypeId × L)) (hq : q = seqs ps qb)
    (hk : obsC m (l.map Prod.fst) bl (runP F lim m ps (.nor e h n)) = (true, l.map Prod.snd, true)) (hl : (l.all fun x => decide (x.1 < 4294967296)) = true) (hm : m < big)
    (j : JQ P dr N F qb lim K (mkE l) (hpC bl) m) : JQ P dr N F q lim K e h n := by
  subst hq
  unfold obsC at hk
  simp only [Prod.mk.injEq] at hk
  obtain ⟨h1, h2, h3⟩ := hk
  obtain ⟨n1, h4, h5⟩ := pcN_ok h1
  exact JQ.pieces hP hF hM hm h5 (JQ.later h5 (JQ.weak (mkE_le hl h2) (okK_le h3) j)) ps h4
/-! To look at places: numbers only. -/
noncomputable def pnV (v : V) : Nat := onS v (fun p _ _ _ _ => p.num) 0 (onP v (fun p _ => p.num) 0)
noncomputable def cellH (h : Hp) (v : V) (k : Nat) : V := onS v (fun p o _ _ _ => Option.rec .bad (fun b => Blk.cell b (Nat.add o k)) (h.get p)) .bad (onP v (fun p o => Option.rec .bad (fun b => Blk.cell b (Nat.add o k)) (h.get p)) .bad)
noncomputable def encN (l : List Nat) : Nat := List.rec 1 (fun x _ ih => Nat.add (Nat.mul ih 1000000) x) l
end Go.Proofs.YtblgmohafnpecaaGreatDoor.Ev
/- The search for covering codes of four helpers with less than four elements finds none. -/
namespace Go.Proofs.YtblgmohafnpecaaGreatDoor.Ev
set_option linter.unusedVariables false
set_option maxRecDepth 100000
open Go Go.Proofs Go.RowKit
noncomputable def a3 (k : Nat) : L := .cons (.n 4) (.cons .ns (.cons (.n k) .nil))
noncomputable def vN : V := .tu (.cons .ns (.cons (.b false) .nil))
theorem c1 : isX vN (EF 60 49 (a3 1) 256 .lf 256) = true := by kernel_rfl
theorem c2 : isX vN (EF 60 49 (a3 2) 256 .lf 256) = true := by kernel_rfl
theorem c3 : isX vN (EF 60 49 (a3 3) 256 .lf 256) = true := by kernel_rfl
/-- With these answers. -/
noncomputable def W3 (G : FF) : FF := ovF 49 (spE (a3 1) vN) (ovF 49 (spE (a3 2) vN) (ovF 49 (spE (a3 3) vN) G))
noncomputable def EB (d : Nat) : FF := EQ W3 d
theorem W3_mono (G : FF) (h : G.mono) : (W3 G).mono := ovF_mono (spE_mo _ _) (ovF_mono (spE_mo _ _) (ovF_mono (spE_mo _ _) h))
theorem W3_ok (G : FF) (h : FOK Tryz.prog G) : FOK Tryz.prog (W3 G) := ovF_ok (spE_ok (EF_ok 60) c1 rfl rfl) (ovF_ok (spE_ok (EF_ok 60) c2 rfl rfl) (ovF_ok (spE_ok (EF_ok 60) c3 rfl rfl) h))
theorem EB_ok (d : Nat) : FOK Tryz.prog (EB d) := EQ_ok W3_mono W3_ok d
theorem EB_mono (d : Nat) : (EB d).mono := EQ_mono W3_mono d
end Go.Proofs.YtblgmohafnpecaaGreatDoor.Ev
/- The examples of chapters 1 to 12 hold: they are run once. -/
namespace Go.Proofs.YtblgmohafnpecaaGreatDoor.Ev
set_option linter.unusedVariables false
set_option linter.unusedSimpArgs false
set_option maxRecDepth 100000
open Go Go.Proofs Go.RowKit
/-! The examples, once for all. -/
theorem tw_eval : (fun el => okR (EB 60 11 .nil (gK + 1) (tbH el) (gK + 1))) = fun _ => true := by kernel_rfl
noncomputable def tabOK (ob : Option Blk) : Bool := Option.rec false (fun b => and (Nat.ble 64 b.size) (eqL (b.getL 0 64) (kL .u8 zs64))) ob
noncomputable def sW (args : L) (_ : Nat) (h : Hp) (n : Nat) : Res := match args with
  | .nil => Bool.rec .no (.ok (.b true) h n) (tabOK (h.get (tp 1)))
  | .cons _ _ => .no
theorem sW_mo : SMo sW := fun args lim h n => by
  unfold sW
  cases args with
  | nil =>
    show (Bool.rec .no (.ok (.b true) h n) (tabOK (h.get (tp 1))) : Res).ge n
    cases tabOK (h.get (tp 1)) with
    | true => exact Nat.le_refl n
    | false => trivial
  | cons => trivial
theorem okW : SOK Tryz.prog 11 sW := fun args lim h n v h' n' hr => by
  cases args with
  | cons => cases hr
  | nil =>
    have hr : (Bool.rec .no (.ok (.b true) h n) (tabOK (h.get (tp 1))) : Res) = .ok v h' n' := hr
    cases ht : tabOK (h.get (tp 1)) with
    | false => rw [ht] at hr; cases hr
    | true =>
      rw [ht] at hr
      cases hr
      cases hb : h.get (tp 1) with
      | none => rw [hb] at ht; cases ht
      | some b =>
        rw [hb] at ht
        have ht : and (Nat.ble 64 b.size) (eqL (b.getL 0 64) (kL .u8 zs64)) = true := ht
        rw [Bool.and_eq_true, Nat.ble_eq] at ht
        have hz := eqL_eq _ _ ht.2
        obtain ⟨h1, n1, he, hn1⟩ := okR_ok (congrFun tw_eval b.el)
        have hc := (EB_ok 60).1 11 .nil (gK + 1) (tbH b.el) (gK + 1) _ _ _ he
        intro vs g w ha hgk m hd hf _
        have num1 : (tp 1).num = 2 := num_posF 63 2 (by omega) (by omega)
        have g1 : ren [] g (tp 1) = g (tp 1) := by unfold ren; rw [num1, if_pos (by omega)]
        have tg : ∀ p b0, (tbH b.el).get p = some b0 → p = tp 1 ∧ b0 = blkL b.el (kL .u8 zs64) := fun p b0 hp => by
          have hp : (Hp.lf.put (some ⟨b.el, (kL .u8 zs64).length, (kL .u8 zs64).length, kL .u8 zs64, .lf⟩) (tp 1)).get p = some b0 := hp
          rw [Hp.get_put] at hp
          split at hp
          · rename_i e; cases hp; exact ⟨e, rfl⟩
          · rw [Hp.get_lf] at hp; cases hp
        have hlen : (kL .u8 zs64).length = 64 := by rw [kL_length]; rfl
        have hm : Mem (ren [] g) (tbH b.el).get w := by
          refine ⟨fun p q bp bq r b1 t1 b2 t2 hp hq e1 e2 => ?_, fun p b0 hp => ?_⟩
          · rw [(tg p bp hp).1, (tg q bq hq).1]
          · obtain ⟨rfl, rfl⟩ := tg p b0 hp
            obtain ⟨r, base, tot, cur, c1, c2, c3, c4, c5, c6⟩ := m.blk (tp 1) b hb
            have hsz : (blkL b.el (kL .u8 zs64)).size = 64 := by rw [blkL_size, hlen]
            refine ⟨r, base, tot, cur, by rw [g1, c1], ?_, c3, by omega, by omega, fun k hk => ?_⟩
            · have := c2.cut (off := 0) (g' := ren [] g) (b0 := blkL b.el (kL .u8 zs64)) rfl (by omega) c4 rfl
              simpa using this
            · obtain ⟨u, d1, d2, d3⟩ := c6 k (by omega)
              refine ⟨u, d1, d2, ?_⟩
              have hcell : (blkL b.el (kL .u8 zs64)).cell k = b.cell k := by
                rw [blkL_cell _ _ _ (by rw [hlen]; omega), ← hz, getL_get _ _ _ _ (by omega), Nat.zero_add]
              rw [hcell]
              refine V.pur_rel ?_ d3
              rw [← hcell, blkL_cell _ _ _ (by rw [hlen]; omega)]
              have : ∀ (zs : List Int) (j : Nat), j < zs.length → ((kL .u8 zs).get j).pur = true := by
                intro zs
                induction zs with
                | nil => intro j hj; simp at hj
                | cons z l ih =>
                  intro j hj
                  cases j with
                  | zero => rfl
                  | succ j => exact ih j (by simpa using hj)
              exact this zs64 k (by rw [← kL_length .u8]; omega)
        obtain ⟨hx, hy⟩ := hc vs (ren [] g) w (L.pur_rel rfl ha) (ren_gok hgk) hm
          (fun p b0 hp => by rw [(tg p b0 hp).1, num1]; unfold gK; omega) ((ren_fresh [] g).to _) hn1
        refine ⟨hx, hy.mono ?_⟩
        rintro e w' ⟨u, g', rfl, hv, _, f⟩
        have keep : ∀ r, r < w.heap.size → w'.heap[r]? = w.heap[r]? := fun r hr => f.keep r hr fun p b0 base tot hp hl _ => by
          rw [(tg p b0 hp).1, num1] at hl; unfold gK at hl; omega
        refine ⟨u, g, rfl, V.pur_rel rfl hv, ⟨m.inj, fun p b hp => ?_⟩, ?_⟩
        · obtain ⟨r, base, tot, cur, c1, c2, c3, c4, c5, c6⟩ := m.blk p b hp
          exact ⟨r, base, tot, cur, c1, c2.keep (keep r (m.lt hp c1)), c3, c4, c5, c6⟩
        · exact { le := Nat.le_refl _, os := f.os, tape := f.tape, output := f.output, size := f.size, keep := fun r hr _ => keep r hr, sig := fun _ _ => rfl,
                  dom := fun p b e => ⟨fun _ => ⟨b, e⟩, hd p b e⟩, new := fun _ _ _ _ a b => by omega }
noncomputable def WW (G : FF) : FF := ov 11 sW G
theorem WW_ok (G : FF) (h : FOK Tryz.prog G) : FOK Tryz.prog (WW G) := ov_ok okW h
theorem WW_mono (G : FF) (h : G.mono) : (WW G).mono := ov_mono sW_mo h
noncomputable def EW (d : Nat) : FF := EQ WW d
theorem EW_ok (d : Nat) : FOK Tryz.prog (EW d) := EQ_ok WW_mono WW_ok d
theorem EW_mono (d : Nat) : (EW d).mono := EQ_mono WW_mono d
theorem onK_i {β : Type} (k : IntKind) (z : Int) (f : IntKind → Int → β) (s : β) : onK (.i k z) f s = f k z := rfl
theorem mkI_64 (z : Int) : mkI .i64 z = I z := rfl
noncomputable def IC.fst (x : IC) : IC := match x with | .seq a _ => a | q => q
noncomputable def IC.snd (x : IC) : IC := match x with | .seq _ b => b | q => q
noncomputable def rsE (r : Rs) : Tr := Rs.rec (motive := fun _ => Tr) .lf (fun e _ _ => e) (fun _ _ _ _ => .lf) (fun _ _ _ => .lf) r
noncomputable def rsH (r : Rs) : Hp := Rs.rec (motive := fun _ => Hp) .lf (fun _ h _ => h) (fun _ _ _ _ => .lf) (fun _ _ _ => .lf) r
noncomputable def rsN (r : Rs) : Nat := Rs.rec (motive := fun _ => Nat) 0 (fun _ _ n => n) (fun _ _ _ _ => 0) (fun _ _ _ => 0) r
/-- A piece in the middle, evaluated. -/
theorem JQ.evK {P : Program} (hP : P.follows .mixedOrders = true) {dr : List Nat} {N lim n : Nat} {F : FF} (hF : FOK P F) (hM : F.mono) {qa qb : IC} {K : Rs → Prop} {e : Tr} {h : Hp} {e1 : Tr} {h1 : Hp} {n1 : Nat} (hk : (kC qa nK).f F lim e h n = .nor e1 h1 n1) (hn : n1 < big)
    (j : JQ P dr N F qb lim K e1 h1 n1) : JQ P dr N F (.seq qa qb) lim K e h n := by
  refine JQ.step hP hF hM ?_
  rw [kC_eq, onC_nK] at hk
  rw [hk]; exact ⟨hn, j⟩
theorem all4 {f : Nat → Bool} (h : (List.range 4).all f = true) {i : Nat} (hi : i < 4) : f i = true := List.all_eq_true.1 h i (List.mem_range.2 hi)
theorem lawT {P : Program} {dr : List Nat} {F : FF} {q : IC} {f : Nat} {fn : Func} {c : Code} {res : List RV} {args : L} (tabs : List (Nat × TypeId × L)) (hfn : P.funcs[f]? = some fn) (hb : fn.body = some c) (hq : compC P dr fn.ntmps c = some q) (hres : compRVs P fn.results.toList = some res)
    (hal : args.length < 4294967296) (j : JQ P dr fn.ntmps F q (gK + 1) (Kend res fun v _ _ => v = .b true) (bind args 0 .lf) (tabH tabs) (gK + 1)) {vs : List Value} (ha : ∀ g, args.rel g vs) (w : World) (hw : Holds w tabs) : Calls P f ⟨vs⟩ w fun e w' => e = .returned (.bool true) ∧ Below w.heap.size w w' := by
  have num : ∀ k, k < gK → (tp k).num = k + 1 := fun k hk => num_posF 63 (k + 1) (by omega) (by unfold gK at hk; omega)
  have hg : ∀ k, k < gK → g0 (tabT tabs) (tp k) = some (k, 0, tabT tabs k) := fun k hk => by
    unfold g0; rw [num k hk, if_pos (by omega)]; simp
  have m : Mem (g0 (tabT tabs)) (tabH tabs).get w := by
    refine ⟨fun p q bp bq r b1 t1 b2 t2 hp hq e1 e2 => ?_, fun p b hp => ?_⟩
    · obtain ⟨k, z, h1, rfl, _⟩ := tabH_get tabs hw p bp hp
      obtain ⟨k', z', h1', rfl, _⟩ := tabH_get tabs hw q bq hq
      rw [hg k h1] at e1
      rw [hg k' h1'] at e2
      cases e1; cases e2; rfl
    · obtain ⟨k, z, h1, rfl, h3, h4, h5, h6, vs, h7, h8⟩ := tabH_get tabs hw p b hp
      have hlen : vs.length = z.length := L.rel_length (h8 (fun _ => none))
      have hbs : b.size = z.length := by rw [h3]
      refine ⟨k, 0, tabT tabs k, ⟨vs⟩, hg k h1, .inl ⟨RowIs.of h7, Nat.zero_le _⟩, by rw [h4]; simpa using hlen, .inr (by rw [h4, hbs]; simp), by rw [hbs]; exact h6, fun j hj => ?_⟩
      obtain ⟨u, c1, c2, c3⟩ := cell_list (h8 (g0 (tabT tabs))) h5 b.el j (by rw [← hbs]; exact hj)
      refine ⟨u, by simpa using c1, c2, ?_⟩
      rw [h3]; exact c3
  have hd : Dom (tabH tabs).get (gK + 1) := fun p b hp => by
    obtain ⟨k, z, h1, rfl, _⟩ := tabH_get tabs hw p b hp
    rw [num k h1]; omega
  refine (JQ.fn hfn hb hq hres hal j (g := g0 (tabT tabs)) (w := w) (ha _) (g0_ok _) m hd (fun p h => by unfold g0; rw [if_neg (by omega)])).mono ?_
  rintro e w' ⟨u, g', v, h', n', rfl, rfl, _, hv, _, fr⟩
  have hu : u = .bool true := by simpa [V.rel] using hv
  refine ⟨by rw [hu], fr.os, fr.tape, fr.output, fr.size, fun k hk => fr.keep k hk fun p b base tot hp hl => ?_⟩
  obtain ⟨k', z, h1, rfl, _⟩ := tabH_get tabs hw p b hp
  rw [num k' h1] at hl; omega
end Go.Proofs.YtblgmohafnpecaaGreatDoor.Ev
/- A stage of which whole blocks (tables) and the cells of others are kept; a loop whose rounds are evaluated one by one: the state ahead of each round is told. -/
namespace Go.Proofs.YtblgmohafnpecaaGreatDoor.Ev
set_option linter.unusedVariables false
open Go Go.Proofs Go.RowKit
noncomputable def hpX (h0 : Hp) : List (Nat × Blk) → Hp
  | [] => h0
  | x :: l => (hpX h0 l).put (some x.2) (tp x.1)
theorem hpX_le {h0 h : Hp} (hl : HpLe h0 h) : ∀ {l : List (Nat × Blk)}, (l.map fun x => h.get (tp x.1)) = (l.map fun x => some x.2) → HpLe (hpX h0 l) h
  | [], _ => hl
  | x :: l, e => by
    simp only [List.map_cons, List.cons.injEq] at e
    exact HpLe.put ⟨x.2, e.1, BlkLe.refl _⟩ (hpX_le hl e.2)
noncomputable def obsD (m : Nat) (ts ks : List Nat) (bl : List (Nat × TypeId × L)) (r : Rs) : Bool × List V × List (Option Blk) × Bool := (pcN m r, ts.map (fun t => (pcE r).get (tp t)), ks.map (fun k => (pcH r).get (tp k)), okK (pcH r) bl)
noncomputable def isD (l : List (Nat × V)) (tb : List (Nat × Blk)) : Bool × List V × List (Option Blk) × Bool := (true, l.map Prod.snd, tb.map (fun x => some x.2), true)
theorem JQ.stageD {P : Program} (hP : P.follows .mixedOrders = true) {dr : List Nat} {N lim n m : Nat} {F : FF} (hF : FOK P F) (hM : F.mono) {q qb : IC} (ps : List IC) {K : Rs → Prop} {e : Tr} {h : Hp} (l : List (Nat × V)) (tb : List (Nat × Blk)) (bl : List (Nat × TypeId × L)) (hq : q = seqs ps qb)
    (hk : obsD m (l.map Prod.fst) (tb.map Prod.fst) bl (runP F lim m ps (.nor e h n)) = isD l tb) (hl : (l.all fun x => decide (x.1 < 4294967296)) = true) (hm : m < big)
    (j : JQ P dr N F qb lim K (mkE l) (hpX (hpC bl) tb) m) : JQ P dr N F q lim K e h n := by
  subst hq
  unfold obsD isD at hk
  simp only [Prod.mk.injEq] at hk
  obtain ⟨h1, h2, h3, h4⟩ := hk
  obtain ⟨n1, h5, h6⟩ := pcN_ok h1
  rw [List.map_map] at h3
  exact JQ.pieces hP hF hM hm h6 (JQ.later h6 (JQ.weak (mkE_le hl h2) (hpX_le (okK_le h4) h3) j)) ps h5
theorem JQ.count {P : Program} (hP : P.follows .mixedOrders = true) {dr : List Nat} {N lim n : Nat} {F : FF} (hF : FOK P F) (hM : F.mono) {qb : IC} {K : Rs → Prop} {e : Tr} {h : Hp} (top : Nat) (env : Nat → Tr) (hp : Nat → Hp) (nn : Nat → Nat) (hnn : ∀ k, k ≤ top → nn k < big)
    (h0 : EnvLe (env 0) e) (h1 : HpLe (hp 0) h) (h2 : n ≤ nn 0)
    (rd : ∀ k, k < top → ∃ e' h' n', (kC qb nK).f F lim (env k) (hp k) (nn k) = .nor e' h' n' ∧ EnvLe (env (k + 1)) e' ∧ HpLe (hp (k + 1)) h' ∧ n' ≤ nn (k + 1))
    (hend : ∃ i e' h' n', (kC qb nK).f F lim (env top) (hp top) (nn top) = .ext i e' h' n' ∧ n' < big ∧ K (.ext i e' h' n')) : JQ P dr N F (.loop qb) lim K e h n := by
  refine JQ.loop (σ := Nat × Nat) (fun s => s.1 ≤ top ∧ s.2 ≤ nn s.1) (fun s => env s.1) (fun s => hp s.1) (fun s => s.2) (fun s => top + 1 - s.1) (0, n) ⟨Nat.zero_le _, h2⟩ h0 h1 rfl ?_
  rintro ⟨k, n1⟩ ⟨hk, hn1⟩
  have hk : k ≤ top := hk
  have hn1 : n1 ≤ nn k := hn1
  refine JQ.later hn1 (JQ.run hP hF hM ?_)
  rcases Nat.lt_or_eq_of_le hk with hlt | rfl
  · obtain ⟨e', h', n', h3, h4, h5, h6⟩ := rd k hlt
    rw [kC_eq, onC_nK] at h3
    show Got _ (evC qb F lim (env k) (hp k) (nn k))
    rw [h3]
    exact ⟨Nat.lt_of_le_of_lt h6 (hnn _ hlt), (k + 1, n'), ⟨hlt, h6⟩, by show top + 1 - (k + 1) < top + 1 - k; omega, h4, h5, rfl⟩
  · obtain ⟨i, e', h', n', h3, h4, h5⟩ := hend
    rw [kC_eq, onC_nK] at h3
    show Got _ (evC qb F lim (env k) (hp k) (nn k))
    rw [h3]
    exact ⟨h4, h5⟩
/-- A round that is evaluated. -/
noncomputable def rndB (m : Nat) (l : List (Nat × V)) (bl : List (Nat × TypeId × L)) (r : Rs) : Bool := and (pcN m r) (and (List.rec true (fun x _ ih => and (eqV ((pcE r).get (tp x.1)) x.2) ih) l) (okK (pcH r) bl))
theorem eqs_ok {e : Tr} : ∀ {l : List (Nat × V)}, (l.all fun x => decide (x.1 < 4294967296)) = true → (List.rec true (fun x _ ih => and (eqV (e.get (tp x.1)) x.2) ih) l : Bool) = true → EnvLe (mkE l) e
  | [], _, _ => EnvLe.lf e
  | (t, v) :: l, hl, h => by
    simp only [List.all_cons, Bool.and_eq_true, decide_eq_true_eq] at hl
    have h : and (eqV (e.get (tp t)) v) (List.rec true (fun x _ ih => and (eqV (e.get (tp x.1)) x.2) ih) l) = true := h
    rw [Bool.and_eq_true] at h
    exact EnvLe.set hl.1 (eqV_eq _ _ h.1) (eqs_ok hl.2 h.2)
theorem rndB_ok {m : Nat} {l : List (Nat × V)} {bl : List (Nat × TypeId × L)} {r : Rs} (hl : (l.all fun x => decide (x.1 < 4294967296)) = true) (h : rndB m l bl r = true) : ∃ e' h' n', r = .nor e' h' n' ∧ EnvLe (mkE l) e' ∧ HpLe (hpC bl) h' ∧ n' ≤ m := by
  unfold rndB at h
  rw [Bool.and_eq_true, Bool.and_eq_true] at h
  obtain ⟨n', h1, h2⟩ := pcN_ok h.1
  exact ⟨_, _, n', h1, eqs_ok hl h.2.1, okK_le h.2.2, h2⟩
/-- A loop's end that is evaluated. -/
noncomputable def isExt (i : Nat) (r : Rs) : Bool := Rs.rec false (fun _ _ _ => false) (fun j _ _ n => and (Nat.beq j i) (Nat.blt n 9223372036854775808)) (fun _ _ _ => false) r
noncomputable def exE (r : Rs) : Tr := Rs.rec (motive := fun _ => Tr) .lf (fun e _ _ => e) (fun _ e _ _ => e) (fun _ _ _ => .lf) r
noncomputable def exH (r : Rs) : Hp := Rs.rec (motive := fun _ => Hp) .lf (fun _ h _ => h) (fun _ _ h _ => h) (fun _ _ _ => .lf) r
noncomputable def exB (i m : Nat) (l : List (Nat × V)) (bl : List (Nat × TypeId × L)) (r : Rs) : Bool := Rs.rec false (fun _ _ _ => false) (fun j e h n => and (Nat.beq j i) (and (Nat.ble n m) (and (List.rec true (fun x _ ih => and (eqV (e.get (tp x.1)) x.2) ih) l) (okK h bl)))) (fun _ _ _ => false) r
theorem exB_ok {i m : Nat} {l : List (Nat × V)} {bl : List (Nat × TypeId × L)} {r : Rs} (hl : (l.all fun x => decide (x.1 < 4294967296)) = true) (h : exB i m l bl r = true) : ∃ e' h' n', r = .ext i e' h' n' ∧ EnvLe (mkE l) e' ∧ HpLe (hpC bl) h' ∧ n' ≤ m := by
  cases r with
  | ext j e h' n =>
    have h : and (Nat.beq j i) (and (Nat.ble n m) (and (List.rec true (fun x _ ih => and (eqV (e.get (tp x.1)) x.2) ih) l) (okK h' bl))) = true := h
    simp only [Bool.and_eq_true, Nat.beq_eq, Nat.ble_eq] at h
    exact ⟨e, h', n, by rw [h.1], eqs_ok hl h.2.2.1, okK_le h.2.2.2, h.2.1⟩
  | _ => cases h
end Go.Proofs.YtblgmohafnpecaaGreatDoor.Ev
/- A run whose end is a slice of plain cells and a plain value. -/
namespace Go.Proofs.YtblgmohafnpecaaGreatDoor.Ev
set_option linter.unusedVariables false
open Go
noncomputable def finSEV (el esz len : Nat) (l : L) (x : V) (v : V) (h : Hp) (n : Nat) : Bool := match v with
  | .tu (.cons (.sl p off esz' len' none) (.cons e .nil)) => and (eqV e x) (and (Nat.beq esz' esz) (and (Nat.beq len' len) (and (Nat.ble 256 p.num) (and (Nat.blt p.num n) (match h.get p with
    | some b => and (Nat.beq b.el el) (and (Nat.ble (off + l.length) b.size) (eqL (b.getL off l.length) l))
    | none => false)))))
  | _ => false
noncomputable def finSEB (el esz len : Nat) (l : L) (x : V) (res : List RV) (e : Tr) (h : Hp) (n : Nat) : Bool := and (evRVs e h res).known (and (finSEV el esz len l x (evRes e h res) h n) (Nat.blt n 9223372036854775808))
noncomputable def finSE (el esz len : Nat) (l : L) (x : V) (res : List RV) (r : Rs) : Bool := Rs.rec false (fun e h n => finSEB el esz len l x res e h n) (fun _ _ _ _ => false) (fun e h n => finSEB el esz len l x res e h n) r
theorem finSEB_ok {el esz len : Nat} {l : L} {x : V} (hl : l.pur = true ∧ l.length = len * esz ∧ x.pur = true) {res : List RV} {e : Tr} {h : Hp} {n : Nat} (hf : finSEB el esz len l x res e h n = true) : n < big ∧ (evRVs e h res).known = true ∧ Good 0 (.slE el esz len none l x) (evRes e h res) h n := by
  unfold finSEB at hf
  simp only [Bool.and_eq_true, Nat.blt_eq] at hf
  obtain ⟨h1, h2, h3⟩ := hf
  refine ⟨h3, h1, hl, ?_⟩
  unfold finSEV at h2
  split at h2
  · rename_i p off esz' len' y hv
    simp only [Bool.and_eq_true, Nat.blt_eq, Nat.ble_eq, Nat.beq_eq] at h2
    obtain ⟨a0, rfl, rfl, a3, a4, a5⟩ := h2
    split at a5
    · rename_i b hb
      simp only [Bool.and_eq_true, Nat.ble_eq, Nat.beq_eq] at a5
      obtain ⟨rfl, b2, b3⟩ := a5
      refine ⟨p, off, b, by rw [hv, eqV_eq _ _ a0], by omega, a4, hb, rfl, b2, fun k hk => ?_⟩
      rw [← eqL_eq _ _ b3, getL_get _ _ _ _ hk]
    · cases a5
  · cases h2
theorem JQ.finSE {P : Program} (hP : P.follows .mixedOrders = true) {dr : List Nat} {N lim n : Nat} {F : FF} (hF : FOK P F) (hM : F.mono) {res : List RV} {q : IC} {e : Tr} {h : Hp} {el esz len : Nat} {l : L} {x : V} (hl : l.pur = true ∧ l.length = len * esz ∧ x.pur = true) (hk : finSE el esz len l x res ((kC q nK).f F lim e h n) = true) : JQ P dr N F q lim (Kend res (Good 0 (.slE el esz len none l x))) e h n := by
  refine JQ.run hP hF hM ?_
  rw [kC_eq, onC_nK] at hk
  revert hk
  generalize evC q F lim e h n = r
  intro hk
  cases r with
  | no => cases hk
  | ext => cases hk
  | nor e h' n => have := finSEB_ok hl hk; exact ⟨this.1, this.2.1, this.2.2⟩
  | ret e h' n => have := finSEB_ok hl hk; exact ⟨this.1, this.2.1, this.2.2⟩
end Go.Proofs.YtblgmohafnpecaaGreatDoor.Ev
/- The divisions of up to eight feathers by their numbers, as a contract. -/
namespace Go.Proofs.YtblgmohafnpecaaGreatDoor.Ev
set_option linter.unusedVariables false
set_option maxRecDepth 100000
open Go Go.Proofs Go.RowKit
noncomputable def q5 : IC := (.seq (.reg (.cons (some (tp 4)) none (.mv (.c .ns)) (.cons (some (tp 5)) none (.mv (.c (I 0))) .nil))) (.seq (.seq (.reg (.cons (some (tp 7)) none (.mv (.t (tp 0))) (.cons (some 
  (tp 8)) none (.call 13 (.cons (.t (tp 7)) .nil)) (.cons (some (tp 9)) none (.not (.t (tp 8))) .nil)))) (.cond (.t (tp 9)) (.seq (.reg (.cons (some (tp 4)) none (.mv (.c .ns)) 
  (.cons (some (tp 5)) none (.mv (.c (I 1))) .nil))) .ret) .skip)) (.seq (.reg (.cons (some (tp 10)) none .mkm (.cons (some (tp 6)) none (.mv (.t (tp 10))) .nil))) (.seq (.seq 
  (.reg (.cons (some (tp 11)) none (.mv (.t (tp 1))) (.cons (some (tp 12)) none (.bin .lss (.t (tp 11)) (.c (I 0))) (.cons (some (tp 13)) none (.mv (.t (tp 12))) (.cons (some (tp 
  14)) (some (.mk (tp 13) false)) (.mv (.t (tp 1))) (.cons (some (tp 15)) (some (.mk (tp 13) false)) (.mv (.t (tp 6))) (.cons (some (tp 16)) (some (.mk (tp 13) false)) (.mv (.t (tp 
  0))) (.cons (some (tp 17)) (some (.mk (tp 13) false)) (.mv (.t (tp 0))) (.cons (some (tp 18)) (some (.mk (tp 13) false)) (.build (.cons (I 0) (.cons (I 0) .nil)) (.cons 0 1 (.t 
  (tp 16)) (.cons 1 1 (.t (tp 17)) .nil))) (.cons (some (tp 19)) (some (.mk (tp 13) false)) (.call 14 (.cons (.t (tp 15)) (.cons (.t (tp 18)) .nil))) (.cons (some (tp 20)) (some 
  (.mk (tp 13) false)) (.bin .geq (.t (tp 14)) (.t (tp 19))) (.cons (some (tp 21)) none (.pick (.t (tp 13)) (.c (.b true)) (.t (tp 20))) .nil)))))))))))) (.cond (.t (tp 21)) (.seq 
  (.reg (.cons (some (tp 4)) none (.mv (.c .ns)) (.cons (some (tp 5)) none (.mv (.c (I 1))) .nil))) .ret) .skip)) (.seq (.reg (.cons (some (tp 22)) none (.mv (.t (tp 6))) (.cons 
  (some (tp 23)) none (.mv (.t (tp 0))) (.cons (some (tp 24)) none (.mv (.t (tp 1))) (.cons (some (tp 25)) none (.call 15 (.cons (.t (tp 22)) (.cons (.t (tp 23)) (.cons (.t (tp 
  24)) .nil)))) (.cons (some (tp 4)) none (.mv (.t (tp 25))) (.cons (some (tp 5)) none (.mv (.c (I 0))) .nil))))))) .ret)))))
noncomputable def res5 : List RV := [(.tmp (tp 4)), (.tmp (tp 5))]
noncomputable def c5c : Code := match Tryz.f5.body with | some c => c | none => .skip
theorem b5 : Tryz.f5.body = some c5c := by kernel_rfl
theorem k5 : compC Tryz.prog drops Tryz.f5.ntmps c5c = some q5 := by kernel_rfl
theorem r5 : compRVs Tryz.prog Tryz.f5.results.toList = some res5 := by kernel_rfl
theorem n5 : (Tryz.f5.name == "runtime.NumGoroutine") = false := by kernel_rfl
noncomputable def i5q : IC := i5.q
theorem q5_i : q5 = i5q := by kernel_rfl
def dvT (n : Nat) : List (List Int) := match n with
  | 1 => [[1]]
  | 2 => [[1, 1], [2]]
  | 3 => [[1, 1, 1], [2, 1], [3]]
  | 4 => [[1, 1, 1, 1], [2, 1, 1], [2, 2], [3, 1], [4]]
  | 5 => [[1, 1, 1, 1, 1], [2, 1, 1, 1], [2, 2, 1], [3, 1, 1], [3, 2], [4, 1], [5]]
  | 6 => [[1, 1, 1, 1, 1, 1], [2, 1, 1, 1, 1], [2, 2, 1, 1], [2, 2, 2], [3, 1, 1, 1], [3, 2, 1], [3, 3], [4, 1, 1], [4, 2], [5, 1], [6]]
  | 7 => [[1, 1, 1, 1, 1, 1, 1], [2, 1, 1, 1, 1, 1], [2, 2, 1, 1, 1], [2, 2, 2, 1], [3, 1, 1, 1, 1], [3, 2, 1, 1], [3, 2, 2], [3, 3, 1], [4, 1, 1, 1], [4, 2, 1], [4, 3], [5, 1, 1], [5, 2], [6, 1], [7]]
  | 8 => [[1, 1, 1, 1, 1, 1, 1, 1], [2, 1, 1, 1, 1, 1, 1], [2, 2, 1, 1, 1, 1], [2, 2, 2, 1, 1], [2, 2, 2, 2], [3, 1, 1, 1, 1, 1], [3, 2, 1, 1, 1], [3, 2, 2, 1], [3, 3, 1, 1], [3, 3, 2], [4, 1, 1, 1, 1], [4, 2, 1, 1], [4, 2, 2], [4, 3, 1], [4, 4], [5, 1, 1, 1], [5, 2, 1], [5, 3], [6, 1, 1], [6, 2], [7, 1], [8]]
  | _ => []
def dv (n r : Nat) : List Int := (dvT n).getD r []
noncomputable def rn5 (n r : Nat) : Bool := finSE 3 1 (dv n r).length (iL (dv n r)) (.n 0) res5 ((kC i5q nK).f (EW 60) 256 (bind (.cons (I (n : Int)) (.cons (I (r : Int)) .nil)) 0 .lf) .lf 256)
theorem rn5_1 : ((List.range 1).all fun r => rn5 1 r) = true := by kernel_rfl
theorem rn5_2 : ((List.range 2).all fun r => rn5 2 r) = true := by kernel_rfl
theorem rn5_3 : ((List.range 3).all fun r => rn5 3 r) = true := by kernel_rfl
theorem rn5_4 : ((List.range 5).all fun r => rn5 4 r) = true := by kernel_rfl
theorem rn5_5 : ((List.range 7).all fun r => rn5 5 r) = true := by kernel_rfl
theorem rn5_6 : ((List.range 11).all fun r => rn5 6 r) = true := by kernel_rfl
theorem rn5_7 : ((List.range 15).all fun r => rn5 7 r) = true := by kernel_rfl
theorem rn5_8 : ((List.range 22).all fun r => rn5 8 r) = true := by kernel_rfl
theorem rn5_all (n r : Nat) (h : r < (dvT n).length) : rn5 n r = true := by
  by_cases h1 : 1 ≤ n ∧ n ≤ 8
  · rcases (show n = 1 ∨ n = 2 ∨ n = 3 ∨ n = 4 ∨ n = 5 ∨ n = 6 ∨ n = 7 ∨ n = 8 by omega) with rfl | rfl | rfl | rfl | rfl | rfl | rfl | rfl
    · exact List.all_eq_true.1 rn5_1 r (List.mem_range.2 h)
    · exact List.all_eq_true.1 rn5_2 r (List.mem_range.2 h)
    · exact List.all_eq_true.1 rn5_3 r (List.mem_range.2 h)
    · exact List.all_eq_true.1 rn5_4 r (List.mem_range.2 h)
    · exact List.all_eq_true.1 rn5_5 r (List.mem_range.2 h)
    · exact List.all_eq_true.1 rn5_6 r (List.mem_range.2 h)
    · exact List.all_eq_true.1 rn5_7 r (List.mem_range.2 h)
    · exact List.all_eq_true.1 rn5_8 r (List.mem_range.2 h)
  · have : dvT n = [] := by unfold dvT; split <;> first | omega | rfl
    rw [this] at h; cases h
noncomputable def oNth (z y : Int) : Out := match z, y with
  | .ofNat n, .ofNat r => Bool.rec .no (.slE 3 1 (dv n r).length none (iL (dv n r)) (.n 0)) (Nat.blt r (dvT n).length)
  | _, _ => .no
theorem okNth : SOK Tryz.prog 5 (spII oNth) := spII_ok fun z y lim h n v h' n' hr => by
  unfold oNth at hr
  split at hr
  · rename_i a b
    cases hb : Nat.blt b (dvT a).length
    · rw [hb] at hr; cases hr
    · rw [hb] at hr
      rw [Nat.blt_eq] at hb
      have hl : (iL (dv a b)).pur = true ∧ (iL (dv a b)).length = (dv a b).length * 1 ∧ (V.n 0).pur = true := ⟨iL_pur _, by rw [iL_len]; omega, rfl⟩
      have hj := JQ.finSE (dr := drops) (N := Tryz.f5.ntmps) follows (EW_ok 60) (EW_mono 60) hl (rn5_all a b hb)
      rw [← q5_i] at hj
      exact outC Tryz.func5 n5 b5 k5 r5 (Ins.none h) (by simp [L.length]) (ren_nil_rel (by simp [L.pur, I_pur])) (.slE 3 1 (dv a b).length none (iL (dv a b)) (.n 0)) hl hj lim n hr
  · cases hr
noncomputable def WD (G : FF) : FF := ovF 5 (spII oNth) (WW G)
theorem WD_mono (G : FF) (h : G.mono) : (WD G).mono := ovF_mono (spII_mo _) (WW_mono G h)
theorem WD_ok (G : FF) (h : FOK Tryz.prog G) : FOK Tryz.prog (WD G) := ovF_ok okNth (WW_ok G h)
noncomputable def EV (d : Nat) : FF := EQ WD d
theorem EV_ok (d : Nat) : FOK Tryz.prog (EV d) := EQ_ok WD_mono WD_ok d
theorem EV_mono (d : Nat) : (EV d).mono := EQ_mono WD_mono d
end Go.Proofs.YtblgmohafnpecaaGreatDoor.Ev
/- TopBunched: the law's code. -/
namespace Go.Proofs.YtblgmohafnpecaaGreatDoor.Ev
set_option linter.unusedVariables false
set_option maxRecDepth 100000
open Go Go.Proofs Go.RowKit
def x80x : Pos := (.i (.o (.o (.o (.i (.o .h))))))
def x81x : Pos := (.o (.i (.o (.o (.i (.o .h))))))
def x82x : Pos := (.i (.i (.o (.o (.i (.o .h))))))
def x83x : Pos := (.o (.o (.i (.o (.i (.o .h))))))
def x84x : Pos := (.i (.o (.i (.o (.i (.o .h))))))
def x85x : Pos := (.o (.i (.i (.o (.i (.o .h))))))
def x86x : Pos := (.i (.i (.i (.o (.i (.o .h))))))
def x87x : Pos := (.o (.o (.o (.i (.i (.o .h))))))
def x88x : Pos := (.i (.o (.o (.i (.i (.o .h))))))
def x89x : Pos := (.o (.i (.o (.i (.i (.o .h))))))
def x90x : Pos := (.i (.i (.o (.i (.i (.o .h))))))
def x91x : Pos := (.o (.o (.i (.i (.i (.o .h))))))
def x92x : Pos := (.i (.o (.i (.i (.i (.o .h))))))
def x93x : Pos := (.o (.i (.i (.i (.i (.o .h))))))
def x94x : Pos := (.i (.i (.i (.i (.i (.o .h))))))
def x95x : Pos := (.o (.o (.o (.o (.o (.i .h))))))
def x96x : Pos := (.i (.o (.o (.o (.o (.i .h))))))
def x97x : Pos := (.o (.i (.o (.o (.o (.i .h))))))
def x98x : Pos := (.i (.i (.o (.o (.o (.i .h))))))
def x99x : Pos := (.o (.o (.i (.o (.o (.i .h))))))
def x100x : Pos := (.i (.o (.i (.o (.o (.i .h))))))
def x101x : Pos := (.o (.i (.i (.o (.o (.i .h))))))
def x102x : Pos := (.i (.i (.i (.o (.o (.i .h))))))
def x103x : Pos := (.o (.o (.o (.i (.o (.i .h))))))
def x104x : Pos := (.i (.o (.o (.i (.o (.i .h))))))
def x105x : Pos := (.o (.i (.o (.i (.o (.i .h))))))
def x106x : Pos := (.i (.i (.o (.i (.o (.i .h))))))
def x107x : Pos := (.o (.o (.i (.i (.o (.i .h))))))
def x108x : Pos := (.i (.o (.i (.i (.o (.i .h))))))
def x109x : Pos := (.o (.i (.i (.i (.o (.i .h))))))
def x110x : Pos := (.i (.i (.i (.i (.o (.i .h))))))
def x111x : Pos := (.o (.o (.o (.o (.i (.i .h))))))
def x112x : Pos := (.i (.o (.o (.o (.i (.i .h))))))
def x113x : Pos := (.o (.i (.o (.o (.i (.i .h))))))
def x114x : Pos := (.i (.i (.o (.o (.i (.i .h))))))
def x115x : Pos := (.o (.o (.i (.o (.i (.i .h))))))
def x116x : Pos := (.i (.o (.i (.o (.i (.i .h))))))
def x117x : Pos := (.o (.i (.i (.o (.i (.i .h))))))
def x118x : Pos := (.i (.i (.i (.o (.i (.i .h))))))
def x119x : Pos := (.o (.o (.o (.i (.i (.i .h))))))
def x120x : Pos := (.i (.o (.o (.i (.i (.i .h))))))
def x121x : Pos := (.o (.i (.o (.i (.i (.i .h))))))
def x122x : Pos := (.i (.i (.o (.i (.i (.i .h))))))
def x123x : Pos := (.o (.o (.i (.i (.i (.i .h))))))
def x124x : Pos := (.i (.o (.i (.i (.i (.i .h))))))
def x125x : Pos := (.o (.i (.i (.i (.i (.i .h))))))
def x126x : Pos := (.i (.i (.i (.i (.i (.i .h))))))
def x127x : Pos := (.o (.o (.o (.o (.o (.o (.o .h)))))))
def x128x : Pos := (.i (.o (.o (.o (.o (.o (.o .h)))))))
def x129x : Pos := (.o (.i (.o (.o (.o (.o (.o .h)))))))
def x130x : Pos := (.i (.i (.o (.o (.o (.o (.o .h)))))))
def x131x : Pos := (.o (.o (.i (.o (.o (.o (.o .h)))))))
def x132x : Pos := (.i (.o (.i (.o (.o (.o (.o .h)))))))
def x133x : Pos := (.o (.i (.i (.o (.o (.o (.o .h)))))))
def x134x : Pos := (.i (.i (.i (.o (.o (.o (.o .h)))))))
def x135x : Pos := (.o (.o (.o (.i (.o (.o (.o .h)))))))
def x136x : Pos := (.i (.o (.o (.i (.o (.o (.o .h)))))))
def x137x : Pos := (.o (.i (.o (.i (.o (.o (.o .h)))))))
def x138x : Pos := (.i (.i (.o (.i (.o (.o (.o .h)))))))
def x139x : Pos := (.o (.o (.i (.i (.o (.o (.o .h)))))))
def x140x : Pos := (.i (.o (.i (.i (.o (.o (.o .h)))))))
def x141x : Pos := (.o (.i (.i (.i (.o (.o (.o .h)))))))
def x142x : Pos := (.i (.i (.i (.i (.o (.o (.o .h)))))))
def x143x : Pos := (.o (.o (.o (.o (.i (.o (.o .h)))))))
def x144x : Pos := (.i (.o (.o (.o (.i (.o (.o .h)))))))
def x145x : Pos := (.o (.i (.o (.o (.i (.o (.o .h)))))))
def x146x : Pos := (.i (.i (.o (.o (.i (.o (.o .h)))))))
def x147x : Pos := (.o (.o (.i (.o (.i (.o (.o .h)))))))
def x148x : Pos := (.i (.o (.i (.o (.i (.o (.o .h)))))))
def x149x : Pos := (.o (.i (.i (.o (.i (.o (.o .h)))))))
def x150x : Pos := (.i (.i (.i (.o (.i (.o (.o .h)))))))
def x151x : Pos := (.o (.o (.o (.i (.i (.o (.o .h)))))))
def x152x : Pos := (.i (.o (.o (.i (.i (.o (.o .h)))))))
def x153x : Pos := (.o (.i (.o (.i (.i (.o (.o .h)))))))
def x154x : Pos := (.i (.i (.o (.i (.i (.o (.o .h)))))))
def x155x : Pos := (.o (.o (.i (.i (.i (.o (.o .h)))))))
def x156x : Pos := (.i (.o (.i (.i (.i (.o (.o .h)))))))
def x157x : Pos := (.o (.i (.i (.i (.i (.o (.o .h)))))))
def x158x : Pos := (.i (.i (.i (.i (.i (.o (.o .h)))))))
def x159x : Pos := (.o (.o (.o (.o (.o (.i (.o .h)))))))
def x160x : Pos := (.i (.o (.o (.o (.o (.i (.o .h)))))))
def x161x : Pos := (.o (.i (.o (.o (.o (.i (.o .h)))))))
def x162x : Pos := (.i (.i (.o (.o (.o (.i (.o .h)))))))
def x163x : Pos := (.o (.o (.i (.o (.o (.i (.o .h)))))))
def x164x : Pos := (.i (.o (.i (.o (.o (.i (.o .h)))))))
def x165x : Pos := (.o (.i (.i (.o (.o (.i (.o .h)))))))
def x166x : Pos := (.i (.i (.i (.o (.o (.i (.o .h)))))))
def x167x : Pos := (.o (.o (.o (.i (.o (.i (.o .h)))))))
def x168x : Pos := (.i (.o (.o (.i (.o (.i (.o .h)))))))
def x169x : Pos := (.o (.i (.o (.i (.o (.i (.o .h)))))))
def x170x : Pos := (.i (.i (.o (.i (.o (.i (.o .h)))))))
def x171x : Pos := (.o (.o (.i (.i (.o (.i (.o .h)))))))
def x172x : Pos := (.i (.o (.i (.i (.o (.i (.o .h)))))))
def x173x : Pos := (.o (.i (.i (.i (.o (.i (.o .h)))))))
def x174x : Pos := (.i (.i (.i (.i (.o (.i (.o .h)))))))
def x175x : Pos := (.o (.o (.o (.o (.i (.i (.o .h)))))))
def x176x : Pos := (.i (.o (.o (.o (.i (.i (.o .h)))))))
def x177x : Pos := (.o (.i (.o (.o (.i (.i (.o .h)))))))
def x178x : Pos := (.i (.i (.o (.o (.i (.i (.o .h)))))))
def x179x : Pos := (.o (.o (.i (.o (.i (.i (.o .h)))))))
def x180x : Pos := (.i (.o (.i (.o (.i (.i (.o .h)))))))
def x181x : Pos := (.o (.i (.i (.o (.i (.i (.o .h)))))))
def x182x : Pos := (.i (.i (.i (.o (.i (.i (.o .h)))))))
def x183x : Pos := (.o (.o (.o (.i (.i (.i (.o .h)))))))
def x184x : Pos := (.i (.o (.o (.i (.i (.i (.o .h)))))))
def x185x : Pos := (.o (.i (.o (.i (.i (.i (.o .h)))))))
def x186x : Pos := (.i (.i (.o (.i (.i (.i (.o .h)))))))
def x187x : Pos := (.o (.o (.i (.i (.i (.i (.o .h)))))))
def x188x : Pos := (.i (.o (.i (.i (.i (.i (.o .h)))))))
def x189x : Pos := (.o (.i (.i (.i (.i (.i (.o .h)))))))
def x190x : Pos := (.i (.i (.i (.i (.i (.i (.o .h)))))))
def x191x : Pos := (.o (.o (.o (.o (.o (.o (.i .h)))))))
def x192x : Pos := (.i (.o (.o (.o (.o (.o (.i .h)))))))
def x193x : Pos := (.o (.i (.o (.o (.o (.o (.i .h)))))))
def x194x : Pos := (.i (.i (.o (.o (.o (.o (.i .h)))))))
def x195x : Pos := (.o (.o (.i (.o (.o (.o (.i .h)))))))
def x196x : Pos := (.i (.o (.i (.o (.o (.o (.i .h)))))))
def x197x : Pos := (.o (.i (.i (.o (.o (.o (.i .h)))))))
def x198x : Pos := (.i (.i (.i (.o (.o (.o (.i .h)))))))
def x199x : Pos := (.o (.o (.o (.i (.o (.o (.i .h)))))))
def x200x : Pos := (.i (.o (.o (.i (.o (.o (.i .h)))))))
def x201x : Pos := (.o (.i (.o (.i (.o (.o (.i .h)))))))
def x202x : Pos := (.i (.i (.o (.i (.o (.o (.i .h)))))))
def x203x : Pos := (.o (.o (.i (.i (.o (.o (.i .h)))))))
def x204x : Pos := (.i (.o (.i (.i (.o (.o (.i .h)))))))
def x205x : Pos := (.o (.i (.i (.i (.o (.o (.i .h)))))))
def x206x : Pos := (.i (.i (.i (.i (.o (.o (.i .h)))))))
def x207x : Pos := (.o (.o (.o (.o (.i (.o (.i .h)))))))
def x208x : Pos := (.i (.o (.o (.o (.i (.o (.i .h)))))))
def x209x : Pos := (.o (.i (.o (.o (.i (.o (.i .h)))))))
def x210x : Pos := (.i (.i (.o (.o (.i (.o (.i .h)))))))
def x211x : Pos := (.o (.o (.i (.o (.i (.o (.i .h)))))))
def x212x : Pos := (.i (.o (.i (.o (.i (.o (.i .h)))))))
def x213x : Pos := (.o (.i (.i (.o (.i (.o (.i .h)))))))
def x214x : Pos := (.i (.i (.i (.o (.i (.o (.i .h)))))))
def x215x : Pos := (.o (.o (.o (.i (.i (.o (.i .h)))))))
def x216x : Pos := (.i (.o (.o (.i (.i (.o (.i .h)))))))
def x217x : Pos := (.o (.i (.o (.i (.i (.o (.i .h)))))))
def x218x : Pos := (.i (.i (.o (.i (.i (.o (.i .h)))))))
def x219x : Pos := (.o (.o (.i (.i (.i (.o (.i .h)))))))
def x220x : Pos := (.i (.o (.i (.i (.i (.o (.i .h)))))))
def x221x : Pos := (.o (.i (.i (.i (.i (.o (.i .h)))))))
def x222x : Pos := (.i (.i (.i (.i (.i (.o (.i .h)))))))
def x223x : Pos := (.o (.o (.o (.o (.o (.i (.i .h)))))))
def x224x : Pos := (.i (.o (.o (.o (.o (.i (.i .h)))))))
def x225x : Pos := (.o (.i (.o (.o (.o (.i (.i .h)))))))
def x226x : Pos := (.i (.i (.o (.o (.o (.i (.i .h)))))))
def x227x : Pos := (.o (.o (.i (.o (.o (.i (.i .h)))))))
def x228x : Pos := (.i (.o (.i (.o (.o (.i (.i .h)))))))
def x229x : Pos := (.o (.i (.i (.o (.o (.i (.i .h)))))))
def x230x : Pos := (.i (.i (.i (.o (.o (.i (.i .h)))))))
def x231x : Pos := (.o (.o (.o (.i (.o (.i (.i .h)))))))
noncomputable def i3 : FnI := (.mk true true (.seq (.reg (.cons (some x4x) none (.mv (.c (.b false))) .nil)) (.seq (.reg (.cons (some x23x) none (.mv (.t x0x)) (.cons (some x24x) none (.conv .i64 (.t x23x)) 
  (.cons (some x25x) none (.bin .rem (.t x24x) (.c (.n 8))) (.cons (some x26x) none (.bin .add (.c (.n 1)) (.t x25x)) (.cons (some x5x) none (.mv (.t x26x)) .nil)))))) (.seq (.reg 
  (.cons (some x28x) none (.mv (.t x5x)) (.cons (some x29x) none (.call 4 (.cons (.t x28x) .nil)) (.cons (some x27x) none (.mv (.t x29x)) (.cons (some x30x) none (.ext 0 (.t x27x)) 
  (.cons (some x31x) none (.ext 1 (.t x27x)) (.cons (some x6x) none (.mv (.t x30x)) (.cons (some x7x) none (.mv (.t x31x)) .nil)))))))) (.seq (.seq (.reg (.cons (some x32x) none 
  (.mv (.t x7x)) (.cons (some x33x) none (.bin .neq (.t x32x) (.c (.n 0))) (.cons (some x34x) none (.mv (.t x33x)) (.cons (some x35x) (some (.mk x34x false)) (.mv (.t x6x)) (.cons 
  (some x36x) (some (.mk x34x false)) (.bin .lss (.t x35x) (.c (.n 1))) (.cons (some x37x) none (.pick (.t x34x) (.c (.b true)) (.t x36x)) .nil))))))) (.cond (.t x37x) (.seq (.reg 
  (.cons (some x4x) none (.mv (.c (.b false))) .nil)) .ret) .skip)) (.seq (.reg (.cons (some x39x) none (.mv (.t x5x)) (.cons (some x40x) none (.mv (.t x1x)) (.cons (some x41x) 
  none (.conv .i64 (.t x40x)) (.cons (some x42x) none (.mv (.t x6x)) (.cons (some x43x) none (.bin .rem (.t x41x) (.t x42x)) (.cons (some x44x) none (.call 5 (.cons (.t x39x) 
  (.cons (.t x43x) .nil))) (.cons (some x38x) none (.mv (.t x44x)) (.cons (some x45x) none (.ext 0 (.t x38x)) (.cons (some x46x) none (.ext 1 (.t x38x)) (.cons (some x8x) none (.mv 
  (.t x45x)) (.cons (some x7x) none (.mv (.t x46x)) .nil)))))))))))) (.seq (.reg (.cons (some x48x) none (.mv (.t x8x)) (.cons (some x49x) none (.call 6 (.cons (.t x48x) .nil)) 
  (.cons (some x47x) none (.mv (.t x49x)) (.cons (some x50x) none (.ext 0 (.t x47x)) (.cons (some x51x) none (.ext 1 (.t x47x)) (.cons (some x9x) none (.mv (.t x50x)) (.cons (some 
  x10x) none (.mv (.t x51x)) .nil)))))))) (.seq (.seq (.reg (.cons (some x52x) none (.mv (.t x7x)) (.cons (some x53x) none (.bin .neq (.t x52x) (.c (.n 0))) (.cons (some x54x) none 
  (.mv (.t x53x)) (.cons (some x55x) (some (.mk x54x false)) (.mv (.t x10x)) (.cons (some x56x) (some (.mk x54x false)) (.bin .neq (.t x55x) (.c (.n 0))) (.cons (some x57x) none 
  (.pick (.t x54x) (.c (.b true)) (.t x56x)) (.cons (some x58x) none (.mv (.t x57x)) (.cons (some x59x) (some (.mk x58x false)) (.mv (.t x8x)) (.cons (some x60x) (some (.mk x58x 
  false)) (.call 7 (.cons (.t x59x) .nil)) (.cons (some x61x) (some (.mk x58x false)) (.bin .neq (.t x60x) (.c (.n 0))) (.cons (some x62x) none (.pick (.t x58x) (.c (.b true)) (.t 
  x61x)) (.cons (some x63x) none (.mv (.t x62x)) (.cons (some x64x) (some (.mk x63x false)) (.mv (.t x8x)) (.cons (some x65x) (some (.mk x63x false)) (.len (.t x64x)) (.cons (some 
  x66x) (some (.mk x63x false)) (.bin .eql (.t x65x) (.c (.n 0))) (.cons (some x67x) none (.pick (.t x63x) (.c (.b true)) (.t x66x)) (.cons (some x68x) none (.mv (.t x67x)) (.cons 
  (some x69x) (some (.mk x68x false)) (.mv (.t x8x)) (.cons (some x70x) (some (.mk x68x false)) (.len (.t x69x)) (.cons (some x71x) (some (.mk x68x false)) (.mv (.t x5x)) (.cons 
  (some x72x) (some (.mk x68x false)) (.bin .gtr (.t x70x) (.t x71x)) (.cons (some x73x) none (.pick (.t x68x) (.c (.b true)) (.t x72x)) .nil))))))))))))))))))))))) (.cond (.t 
  x73x) (.seq (.reg (.cons (some x4x) none (.mv (.c (.b false))) .nil)) .ret) .skip)) (.seq (.reg (.cons (some x11x) none (.mv (.c .ns)) .nil)) (.seq (.seq (.reg (.cons (some x74x) 
  none (.mv (.t x8x)) (.cons (some x75x) none (.len (.t x74x)) (.cons (some x76x) none (.mv (.c (.n 0))) .nil)))) (.block 0 (.loop (.seq (.reg (.cons (some x77x) none (.bin .lss 
  (.t x76x) (.t x75x)) .nil)) (.seq (.cond (.t x77x) .skip (.exit 0)) (.seq (.block 1 (.seq (.reg (.cons (some x78x) none (.mv (.t x76x)) (.cons (some x79x) none (.ixs 1 (.t x74x) 
  (.t x76x)) (.cons (some x80x) none (.ld 1 false (.t x79x)) (.cons (some x12x) none (.mv (.t x78x)) (.cons (some x13x) none (.mv (.t x80x)) .nil)))))) (.seq (.seq (.reg (.cons 
  (some x81x) none (.mv (.t x13x)) (.cons (some x82x) none (.bin .lss (.t x81x) (.c (.n 1))) (.cons (some x83x) none (.mv (.t x82x)) (.cons (some x84x) (some (.mk x83x false)) (.mv 
  (.t x11x)) (.cons (some x85x) (some (.mk x83x false)) (.len (.t x84x)) (.cons (some x86x) (some (.mk x83x false)) (.mv (.t x13x)) (.cons (some x87x) (some (.mk x83x false)) (.bin 
  .add (.t x85x) (.t x86x)) (.cons (some x88x) (some (.mk x83x false)) (.mv (.t x5x)) (.cons (some x89x) (some (.mk x83x false)) (.bin .gtr (.t x87x) (.t x88x)) (.cons (some x90x) 
  none (.pick (.t x83x) (.c (.b true)) (.t x89x)) .nil))))))))))) (.cond (.t x90x) (.seq (.reg (.cons (some x4x) none (.mv (.c (.b false))) .nil)) .ret) .skip)) (.seq (.reg (.cons 
  (some x91x) none (.mv (.t x13x)) (.cons (some x92x) none (.mv (.c (.n 0))) .nil))) (.block 2 (.loop (.seq (.reg (.cons (some x93x) none (.bin .lss (.t x92x) (.t x91x)) .nil)) 
  (.seq (.cond (.t x93x) .skip (.exit 2)) (.seq (.block 3 (.reg (.cons (some x94x) none (.mv (.t x11x)) (.cons (some x95x) none (.mv (.t x12x)) (.cons (some x96x) none (.bsl 3 1 1 
  (.cons (.n 0) .nil) (.cons 0 1 (.t x95x) .nil)) (.cons (some x97x) none (.app 3 1 8 (.t x94x) (.t x96x)) (.cons (some x11x) none (.mv (.t x97x)) .nil))))))) (.reg (.cons (some 
  x98x) none (.bin .add (.t x92x) (.c (.n 1))) (.cons (some x92x) none (.mv (.t x98x)) .nil)))))))))))) (.reg (.cons (some x99x) none (.bin .add (.t x76x) (.c (.n 1))) (.cons (some 
  x76x) none (.mv (.t x99x)) .nil))))))))) (.seq (.seq (.reg (.cons (some x100x) none (.mv (.t x11x)) (.cons (some x101x) none (.len (.t x100x)) (.cons (some x102x) none (.mv (.t 
  x5x)) (.cons (some x103x) none (.bin .neq (.t x101x) (.t x102x)) (.cons (some x104x) none (.mv (.t x103x)) (.cons (some x105x) (some (.mk x104x false)) (.mv (.t x9x)) (.cons 
  (some x106x) (some (.mk x104x false)) (.len (.t x105x)) (.cons (some x107x) (some (.mk x104x false)) (.mv (.t x8x)) (.cons (some x108x) (some (.mk x104x false)) (.ixs 1 (.t 
  x107x) (.c (.n 0))) (.cons (some x109x) (some (.mk x104x false)) (.ld 1 false (.t x108x)) (.cons (some x110x) (some (.mk x104x false)) (.bin .neq (.t x106x) (.t x109x)) (.cons 
  (some x111x) none (.pick (.t x104x) (.c (.b true)) (.t x110x)) (.cons (some x112x) none (.mv (.t x111x)) (.cons (some x113x) (some (.mk x112x false)) (.mv (.t x9x)) (.cons (some 
  x114x) (some (.mk x112x false)) (.ixs 1 (.t x113x) (.c (.n 0))) (.cons (some x115x) (some (.mk x112x false)) (.ld 1 false (.t x114x)) (.cons (some x116x) (some (.mk x112x false)) 
  (.mv (.t x8x)) (.cons (some x117x) (some (.mk x112x false)) (.len (.t x116x)) (.cons (some x118x) (some (.mk x112x false)) (.bin .neq (.t x115x) (.t x117x)) (.cons (some x119x) 
  none (.pick (.t x112x) (.c (.b true)) (.t x118x)) .nil))))))))))))))))))))) (.cond (.t x119x) (.seq (.reg (.cons (some x4x) none (.mv (.c (.b false))) .nil)) .ret) .skip)) (.seq 
  (.reg (.cons (some x120x) none (.mv (.t x5x)) (.cons (some x121x) none (.build (.cons (.n 0) (.cons .ns .nil)) (.cons 0 1 (.t x120x) .nil)) (.cons (some x14x) none (.alloc 32 
  (.cons (.n 0) (.cons .ns .nil)) 2) (.cons none none (.st 2 (.t x14x) (.t x121x)) .nil))))) (.seq (.seq (.reg (.cons (some x122x) none (.mv (.t x5x)) (.cons (some x123x) none (.mv 
  (.c (.n 0))) .nil))) (.block 4 (.loop (.seq (.reg (.cons (some x124x) none (.bin .lss (.t x123x) (.t x122x)) .nil)) (.seq (.cond (.t x124x) .skip (.exit 4)) (.seq (.block 5 (.seq 
  (.reg (.cons (some x125x) none (.mv (.t x123x)) (.cons (some x15x) none (.mv (.t x125x)) .nil))) (.seq (.reg (.cons (some x126x) none (.mv (.t x15x)) (.cons (some x127x) none 
  (.mv (.c (.n 0))) .nil))) (.block 6 (.loop (.seq (.reg (.cons (some x128x) none (.bin .lss (.t x127x) (.t x126x)) .nil)) (.seq (.cond (.t x128x) .skip (.exit 6)) (.seq (.block 7 
  (.seq (.reg (.cons (some x129x) none (.mv (.t x127x)) (.cons (some x16x) none (.mv (.t x129x)) .nil))) (.seq (.draw [(.mk (some x130x) none true [] false [] [] [x11x] (.mv (.t 
  x11x)) false [] [] []), (.mk (some x131x) none true [] false [false] [] [x16x] (.mv (.t x16x)) false [] [] []), (.mk (some x132x) none true [] false [true, true] [] [x130x, 
  x131x] (.ixs 1 (.t x130x) (.t x131x)) false [] [] []), (.mk (some x133x) none false [] false [true, true, true] [] [x132x] (.ld 1 false (.t x132x)) false [] [] []), (.mk (some 
  x134x) none true [] false [false, false, false, false] [] [x11x] (.mv (.t x11x)) false [] [] []), (.mk (some x135x) none true [] false [false, false, false, false, false] [] 
  [x15x] (.mv (.t x15x)) false [] [] []), (.mk (some x136x) none true [] false [true, true, false, false, false, false] [] [x134x, x135x] (.ixs 1 (.t x134x) (.t x135x)) false [] [] 
  []), (.mk (some x137x) none false [] false [true, true, true, false, false, false, false] [] [x136x] (.ld 1 false (.t x136x)) false [] [] []), (.mk (some x138x) none true [] 
  false [true, true, true, true, true, true, true, true] [] [x133x, x137x] (.bin .neq (.t x133x) (.t x137x)) false [] [] [])]) (.cond (.t x138x) (.reg (.cons (some x139x) none 
  (.fad 1 (.t x14x)) (.cons (some x140x) none (.ld 1 false (.t x139x)) (.cons (some x141x) none (.mv (.t x16x)) (.cons (some x142x) none (.mv (.t x15x)) (.cons (some x143x) none 
  (.build (.cons (.n 0) (.cons (.n 0) .nil)) (.cons 0 1 (.t x141x) (.cons 1 1 (.t x142x) .nil))) (.cons (some x144x) none (.bsl 33 2 1 (.cons (.n 0) (.cons (.n 0) .nil)) (.cons 0 2 
  (.t x143x) .nil)) (.cons (some x145x) none (.app 33 2 16 (.t x140x) (.t x144x)) (.cons (some x146x) none (.fad 1 (.t x14x)) (.cons none none (.st 1 (.t x146x) (.t x145x)) 
  .nil)))))))))) .skip)))) (.reg (.cons (some x147x) none (.bin .add (.t x127x) (.c (.n 1))) (.cons (some x127x) none (.mv (.t x147x)) .nil))))))))))) (.reg (.cons (some x148x) 
  none (.bin .add (.t x123x) (.c (.n 1))) (.cons (some x123x) none (.mv (.t x148x)) .nil))))))))) (.seq (.reg (.cons (some x150x) none (.ld 2 true (.t x14x)) (.cons (some x151x) 
  none (.call 8 (.cons (.t x150x) .nil)) (.cons (some x149x) none (.mv (.t x151x)) (.cons (some x152x) none (.ext 0 (.t x149x)) (.cons (some x153x) none (.ext 1 (.t x149x)) (.cons 
  (some x17x) none (.mv (.t x152x)) (.cons (some x7x) none (.mv (.t x153x)) .nil)))))))) (.seq (.reg (.cons (some x155x) none (.ld 2 true (.t x14x)) (.cons (some x156x) none (.call 
  9 (.cons (.t x155x) .nil)) (.cons (some x154x) none (.mv (.t x156x)) (.cons (some x157x) none (.ext 0 (.t x154x)) (.cons (some x158x) none (.ext 1 (.t x154x)) (.cons (some x18x) 
  none (.mv (.t x157x)) (.cons (some x10x) none (.mv (.t x158x)) .nil)))))))) (.seq (.reg (.cons (some x160x) none (.mv (.t x5x)) (.cons (some x161x) none (.mv (.t x8x)) (.cons 
  (some x162x) none (.len (.t x161x)) (.cons (some x163x) none (.call 10 (.cons (.t x160x) (.cons (.t x162x) .nil))) (.cons (some x159x) none (.mv (.t x163x)) (.cons (some x164x) 
  none (.ext 0 (.t x159x)) (.cons (some x165x) none (.ext 1 (.t x159x)) (.cons (some x19x) none (.mv (.t x164x)) (.cons (some x20x) none (.mv (.t x165x)) .nil)))))))))) (.seq (.seq 
  (.reg (.cons (some x166x) none (.mv (.t x7x)) (.cons (some x167x) none (.bin .neq (.t x166x) (.c (.n 0))) (.cons (some x168x) none (.mv (.t x167x)) (.cons (some x169x) (some (.mk 
  x168x false)) (.mv (.t x10x)) (.cons (some x170x) (some (.mk x168x false)) (.bin .neq (.t x169x) (.c (.n 0))) (.cons (some x171x) none (.pick (.t x168x) (.c (.b true)) (.t 
  x170x)) (.cons (some x172x) none (.mv (.t x171x)) (.cons (some x173x) (some (.mk x172x false)) (.mv (.t x20x)) (.cons (some x174x) (some (.mk x172x false)) (.bin .neq (.t x173x) 
  (.c (.n 0))) (.cons (some x175x) none (.pick (.t x172x) (.c (.b true)) (.t x174x)) (.cons (some x176x) none (.mv (.t x175x)) (.cons (some x177x) (some (.mk x176x false)) (.mv (.t 
  x17x)) (.cons (some x178x) (some (.mk x176x false)) (.len (.t x177x)) (.cons (some x179x) (some (.mk x176x false)) (.mv (.t x8x)) (.cons (some x180x) (some (.mk x176x false)) 
  (.len (.t x179x)) (.cons (some x181x) (some (.mk x176x false)) (.bin .neq (.t x178x) (.t x180x)) (.cons (some x182x) none (.pick (.t x176x) (.c (.b true)) (.t x181x)) (.cons 
  (some x183x) none (.mv (.t x182x)) (.cons (some x184x) (some (.mk x183x false)) (.mv (.t x18x)) (.cons (some x185x) (some (.mk x183x false)) (.len (.t x184x)) (.cons (some x186x) 
  (some (.mk x183x false)) (.mv (.t x8x)) (.cons (some x187x) (some (.mk x183x false)) (.len (.t x186x)) (.cons (some x188x) (some (.mk x183x false)) (.bin .neq (.t x185x) (.t 
  x187x)) (.cons (some x189x) none (.pick (.t x183x) (.c (.b true)) (.t x188x)) .nil))))))))))))))))))))))))) (.cond (.t x189x) (.seq (.reg (.cons (some x4x) none (.mv (.c (.b 
  false))) .nil)) .ret) .skip)) (.seq (.seq (.reg (.cons (some x190x) none (.mv (.t x17x)) (.cons (some x191x) none (.len (.t x190x)) (.cons (some x192x) none (.mv (.c (.n 0))) 
  .nil)))) (.block 8 (.loop (.seq (.reg (.cons (some x193x) none (.bin .lss (.t x192x) (.t x191x)) .nil)) (.seq (.cond (.t x193x) .skip (.exit 8)) (.seq (.block 9 (.seq (.reg 
  (.cons (some x194x) none (.mv (.t x192x)) (.cons (some x195x) none (.ixs 1 (.t x190x) (.t x192x)) (.cons (some x196x) none (.ld 1 false (.t x195x)) (.cons (some x21x) none (.mv 
  (.t x194x)) (.cons (some x22x) none (.mv (.t x196x)) .nil)))))) (.seq (.reg (.cons (some x197x) none (.mv (.t x22x)) (.cons (some x198x) none (.len (.t x197x)) (.cons (some 
  x199x) none (.mv (.t x8x)) (.cons (some x200x) none (.mv (.t x21x)) (.cons (some x201x) none (.ixs 1 (.t x199x) (.t x200x)) (.cons (some x202x) none (.ld 1 false (.t x201x)) 
  (.cons (some x203x) none (.bin .neq (.t x198x) (.t x202x)) .nil)))))))) (.cond (.t x203x) (.seq (.reg (.cons (some x4x) none (.mv (.c (.b false))) .nil)) .ret) .skip)))) (.reg 
  (.cons (some x204x) none (.bin .add (.t x192x) (.c (.n 1))) (.cons (some x192x) none (.mv (.t x204x)) .nil))))))))) (.seq (.draw [(.mk (some x205x) none true [] false [] [] 
  [x14x] (.fad 1 (.t x14x)) false [] [] []), (.mk (some x206x) none false [] false [true] [] [x205x] (.ld 1 false (.t x205x)) false [] [] []), (.mk (some x207x) none true [] false 
  [true, true] [] [x206x] (.len (.t x206x)) false [] [] []), (.mk (some x208x) none true [] false [false, false, false] [] [x19x] (.mv (.t x19x)) false [] [] []), (.mk (some x209x) 
  none true [] false [true, true, true, true] [] [x207x, x208x] (.bin .leq (.t x207x) (.t x208x)) false [] [] []), (.mk (some x210x) none true [] false [true, true, true, true, 
  true] [] [x209x] (.mv (.t x209x)) false [] [] []), (.mk (some x211x) (some (.mk x210x true)) true [] false [true, true, true, true, true, true] [] [x210x, x14x] (.fad 1 (.t 
  x14x)) false [] [] []), (.mk (some x212x) (some (.mk x210x true)) false [] false [true, true, true, true, true, true, true] [] [x210x, x211x] (.ld 1 false (.t x211x)) false [] [] 
  []), (.mk (some x213x) (some (.mk x210x true)) true [] false [true, true, true, true, true, true, true, true] [] [x210x, x212x] (.len (.t x212x)) false [] [] []), (.mk (some 
  x214x) (some (.mk x210x true)) true [] false [false, false, false, true, true, true, true, true, true] [] [x210x, x19x] (.mv (.t x19x)) false [] [] []), (.mk (some x215x) (some 
  (.mk x210x true)) true [] false [true, true, true, true, true, true, true, true, true, true] [] [x210x, x213x, x214x] (.bin .eql (.t x213x) (.t x214x)) false [] [] []), (.mk 
  (some x216x) (some (.mk x210x true)) true [] false [false, false, false, false, false, true, true, true, true, true, true] [] [x210x, x8x] (.mv (.t x8x)) false [] [] []), (.mk 
  (some x217x) (some (.mk x210x true)) true [] false [true, false, false, false, false, false, true, true, true, true, true, true] [] [x210x, x216x] (.ixs 1 (.t x216x) (.c (.n 0))) 
  false [] [] []), (.mk (some x218x) (some (.mk x210x true)) false [] false [true, true, false, false, false, false, false, true, true, true, true, true, true] [] [x210x, x217x] 
  (.ld 1 false (.t x217x)) false [] [] []), (.mk (some x219x) (some (.mk x210x true)) true [] false [false, false, false, false, false, false, false, false, true, true, true, true, 
  true, true] [] [x210x, x8x] (.mv (.t x8x)) false [] [] []), (.mk (some x220x) (some (.mk x210x true)) true [] false [false, false, false, false, false, false, false, false, 
  false, true, true, true, true, true, true] [] [x210x, x8x] (.mv (.t x8x)) false [] [] []), (.mk (some x221x) (some (.mk x210x true)) true [] false [true, false, false, false, 
  false, false, false, false, false, false, true, true, true, true, true, true] [] [x210x, x220x] (.len (.t x220x)) false [] [] []), (.mk (some x222x) (some (.mk x210x true)) true 
  [] false [true, true, false, false, false, false, false, false, false, false, false, true, true, true, true, true, true] [] [x210x, x221x] (.bin .sub (.t x221x) (.c (.n 1))) 
  false [] [] []), (.mk (some x223x) (some (.mk x210x true)) true [] false [true, true, true, true, false, false, false, false, false, false, false, false, true, true, true, true, 
  true, true] [] [x210x, x219x, x222x] (.ixs 1 (.t x219x) (.t x222x)) false [] [] []), (.mk (some x224x) (some (.mk x210x true)) false [] false [true, true, true, true, true, 
  false, false, false, false, false, false, false, false, true, true, true, true, true, true] [] [x210x, x223x] (.ld 1 false (.t x223x)) false [] [] []), (.mk (some x225x) (some 
  (.mk x210x true)) true [] false [true, true, true, true, true, true, true, true, true, false, false, false, false, false, true, true, true, true, true, true] [] [x210x, x218x, 
  x224x] (.bin .sub (.t x218x) (.t x224x)) false [] [] []), (.mk (some x226x) (some (.mk x210x true)) true [] false [true, true, true, true, true, true, true, true, true, true, 
  false, false, false, false, false, true, true, true, true, true, true] [] [x210x, x225x] (.bin .leq (.t x225x) (.c (.n 1))) false [] [] []), (.mk (some x227x) (some (.mk x210x 
  true)) true [] false [true, true, true, true, true, true, true, true, true, true, true, true, true, true, true, true, true, true, true, true, true, true] [] [x210x, x215x, x226x] 
  (.eqb false (.t x215x) (.t x226x)) false [] [] []), (.mk (some x228x) none true [] false [true, true, true, true, true, true, true, true, true, true, true, true, true, true, 
  true, true, true, true, true, true, true, true, true] [] [x210x, x227x] (.pick (.t x210x) (.t x227x) (.c (.b false))) false [] [] []), (.mk (some x229x) none true [] false [true, 
  true, true, true, true, true, true, true, true, true, true, true, true, true, true, true, true, true, true, true, true, true, true, true] [] [x228x] (.mv (.t x228x)) false [] [] 
  []), (.mk (some x230x) (some (.mk x229x true)) false [] false [true, true, true, true, true, true, true, true, true, true, true, true, true, true, true, true, true, true, true, 
  true, true, true, true, true, true] [] [x229x] (.call 11 .nil) false [] [] []), (.mk (some x231x) none true [] false [true, true, true, true, true, true, true, true, true, true, 
  true, true, true, true, true, true, true, true, true, true, true, true, true, true, true, true] [] [x229x, x230x] (.pick (.t x229x) (.t x230x) (.c (.b false))) false [] [] []), 
  (.mk (some x4x) none true [] false [true, true, true, true, true, true, true, true, true, true, true, true, true, true, true, true, true, true, true, true, true, true, true, 
  true, true, true, true] [] [x231x] (.mv (.t x231x)) false [] [] [])]) .ret)))))))))))))))))) [(.tmp x4x)])
noncomputable def q3 : IC := i3.q
noncomputable def res3 : List RV := i3.r
noncomputable def c3c : Code := match Tryz.f3.body with | some c => c | none => .skip
theorem b3 : Tryz.f3.body = some c3c := by kernel_rfl
theorem k3 : compC Tryz.prog drops Tryz.f3.ntmps c3c = some q3 := by kernel_rfl
theorem r3 : compRVs Tryz.prog Tryz.f3.results.toList = some res3 := by kernel_rfl
theorem n3 : (Tryz.f3.name == "runtime.NumGoroutine") = false := by kernel_rfl
end Go.Proofs.YtblgmohafnpecaaGreatDoor.Ev
/- TopBunched: both numbers cut down. -/
namespace Go.Proofs.YtblgmohafnpecaaGreatDoor.Ev
set_option linter.unusedVariables false
set_option maxRecDepth 100000
open Go Go.Proofs Go.RowKit
noncomputable def tbs (el : Nat) : List (Nat × TypeId × L) := [(1, el, kL .u8 zs64)]
noncomputable def tbB (el : Nat) : List (Nat × Blk) := [(1, ⟨el, 64, 64, kL .u8 zs64, .lf⟩)]
def cT (n : Nat) : Nat := (dvT n).length
noncomputable def m1 (k : Nat) (v : V) : List (Nat × V) := [(1, v), (5, .n k)]
noncomputable def m2 (k : Nat) (v : V) : List (Nat × V) := [(1, v), (5, .n k), (6, .n (cT k))]
noncomputable def m3 (k r : Nat) : List (Nat × V) := [(5, .n k), (6, .n (cT k)), (7, .n 0), (8, .sl (tp 1999) 0 1 (dv k r).length none)]
noncomputable def bb3 (k r : Nat) : List (Nat × TypeId × L) := [(1999, 3, iL (dv k r))]
theorem q3_s : q3 = seqs (q3.pcs 2) (q3.rst 2) := by kernel_rfl
theorem q3_t : q3.rst 2 = seqs ((q3.rst 2).pcs 2) ((q3.rst 2).rst 2) := by kernel_rfl
noncomputable def q3u : IC := (q3.rst 2).rst 2
theorem q3_u : q3u = seqs (q3u.pcs 1) (q3u.rst 1) := by kernel_rfl
noncomputable def s1 (el a : Nat) (v : V) : Rs := runP (EV 60) (gK + 1) 1000 (q3.pcs 2) (.nor (bind (.cons (.i .u8 (.ofNat a)) (.cons v .nil)) 0 .lf) (tbH el) (gK + 1))
theorem hs1 : (fun el v => (List.range 256).map fun a => stg (tbs el) 1000 ((m1 (1 + a % 8) v).map Prod.fst) (s1 el a v)) = fun el v => (List.range 256).map fun a => stgIs (tbs el) (m1 (1 + a % 8) v) := by kernel_rfl
noncomputable def s2 (el k : Nat) (v : V) : Rs := runP (EV 60) (gK + 1) 2000 ((q3.rst 2).pcs 2) (.nor (mkE (m1 k v)) (tabH (tbs el)) 1000)
theorem hs2 : (fun el v => (List.range 8).map fun k => stg (tbs el) 2000 ((m2 (1 + k) v).map Prod.fst) (s2 el (1 + k) v)) = fun el v => (List.range 8).map fun k => stgIs (tbs el) (m2 (1 + k) v) := by kernel_rfl
noncomputable def s3 (el k b : Nat) : Rs := runP (EV 60) (gK + 1) 3000 (q3u.pcs 1) (.nor (mkE (m2 k (.i .u8 (.ofNat b)))) (tabH (tbs el)) 2000)
theorem hs3 : (fun el => (List.range 8).map fun k => (List.range 256).map fun b => obsD 3000 ((m3 (1 + k) (b % cT (1 + k))).map Prod.fst) [1] (bb3 (1 + k) (b % cT (1 + k))) (s3 el (1 + k) b)) = fun el => (List.range 8).map fun k => (List.range 256).map fun b => isD (m3 (1 + k) (b % cT (1 + k))) (tbB el) := by kernel_rfl
noncomputable def te (el k r : Nat) : Bool := finR res3 ((kC (q3u.rst 1) nK).f (EV 60) (gK + 1) (mkE (m3 k r)) (hpX (hpC (bb3 k r)) (tbB el)) 3000)
theorem bun_run (el a b : Nat) (ha : a ≤ 255) (hb : b ≤ 255) (ht : te el (1 + a % 8) (b % cT (1 + a % 8)) = true) : JQ Tryz.prog drops Tryz.f3.ntmps (EV 60) q3 (gK + 1) (Kend res3 fun v _ _ => v = .b true) (bind (.cons (.i .u8 (a : Int)) (.cons (.i .u8 (b : Int)) .nil)) 0 .lf) (tbH el) (gK + 1) := by
  have h8 : a % 8 < 8 := Nat.mod_lt _ (by omega)
  refine JQ.stages follows (EV_ok 60) (EV_mono 60) (m := 1000) (q3.pcs 2) (l := m1 (1 + a % 8) (.i .u8 (b : Int))) (tabs := tbs el) q3_s (List.map_inj_left.1 (congrFun (congrFun hs1 el) (.i .u8 (b : Int))) a (List.mem_range.2 (by omega))) rfl (by unfold big; omega) ?_
  refine JQ.stages follows (EV_ok 60) (EV_mono 60) (m := 2000) ((q3.rst 2).pcs 2) (l := m2 (1 + a % 8) (.i .u8 (b : Int))) (tabs := tbs el) q3_t (List.map_inj_left.1 (congrFun (congrFun hs2 el) (.i .u8 (b : Int))) (a % 8) (List.mem_range.2 h8)) rfl (by unfold big; omega) ?_
  refine JQ.stageD follows (EV_ok 60) (EV_mono 60) (m := 3000) (q3u.pcs 1) (m3 (1 + a % 8) (b % cT (1 + a % 8))) (tbB el) (bb3 (1 + a % 8) (b % cT (1 + a % 8))) q3_u (List.map_inj_left.1 (List.map_inj_left.1 (congrFun hs3 el) (a % 8) (List.mem_range.2 h8)) b (List.mem_range.2 (by omega))) rfl (by unfold big; omega) ?_
  exact JQ.mono (fun r h => by cases r <;> first | exact ⟨h.1, h.2.1⟩ | exact h) (JQ.fin follows (EV_ok 60) (EV_mono 60) ht)
end Go.Proofs.YtblgmohafnpecaaGreatDoor.Ev
/- TopBunched: what is left for each division. -/
namespace Go.Proofs.YtblgmohafnpecaaGreatDoor.Ev
set_option maxRecDepth 100000
open Go Go.Proofs Go.RowKit
theorem h_1_0 : (fun el => (List.range 1).all fun r => te el 1 (r + 0)) = fun _ => true := by kernel_rfl
theorem h_2_0 : (fun el => (List.range 2).all fun r => te el 2 (r + 0)) = fun _ => true := by kernel_rfl
theorem h_3_0 : (fun el => (List.range 3).all fun r => te el 3 (r + 0)) = fun _ => true := by kernel_rfl
theorem h_4_0 : (fun el => (List.range 5).all fun r => te el 4 (r + 0)) = fun _ => true := by kernel_rfl
theorem h_5_0 : (fun el => (List.range 7).all fun r => te el 5 (r + 0)) = fun _ => true := by kernel_rfl
end Go.Proofs.YtblgmohafnpecaaGreatDoor.Ev
/- TopBunched: what is left for each division. -/
namespace Go.Proofs.YtblgmohafnpecaaGreatDoor.Ev
set_option maxRecDepth 100000
open Go Go.Proofs Go.RowKit
theorem h_6_0 : (fun el => (List.range 5).all fun r => te el 6 (r + 0)) = fun _ => true := by kernel_rfl
theorem h_6_5 : (fun el => (List.range 6).all fun r => te el 6 (r + 5)) = fun _ => true := by kernel_rfl
end Go.Proofs.YtblgmohafnpecaaGreatDoor.Ev
/- TopBunched: what is left for each division. -/
namespace Go.Proofs.YtblgmohafnpecaaGreatDoor.Ev
set_option maxRecDepth 100000
open Go Go.Proofs Go.RowKit
theorem h_7_0 : (fun el => (List.range 5).all fun r => te el 7 (r + 0)) = fun _ => true := by kernel_rfl
theorem h_7_5 : (fun el => (List.range 5).all fun r => te el 7 (r + 5)) = fun _ => true := by kernel_rfl
theorem h_7_10 : (fun el => (List.range 5).all fun r => te el 7 (r + 10)) = fun _ => true := by kernel_rfl
end Go.Proofs.YtblgmohafnpecaaGreatDoor.Ev
/- TopBunched: what is left for each division. -/
namespace Go.Proofs.YtblgmohafnpecaaGreatDoor.Ev
set_option maxRecDepth 100000
open Go Go.Proofs Go.RowKit
theorem h_8_0 : (fun el => (List.range 3).all fun r => te el 8 (r + 0)) = fun _ => true := by kernel_rfl
theorem h_8_3 : (fun el => (List.range 4).all fun r => te el 8 (r + 3)) = fun _ => true := by kernel_rfl
theorem h_8_7 : (fun el => (List.range 5).all fun r => te el 8 (r + 7)) = fun _ => true := by kernel_rfl
theorem h_8_12 : (fun el => (List.range 5).all fun r => te el 8 (r + 12)) = fun _ => true := by kernel_rfl
theorem h_8_17 : (fun el => (List.range 5).all fun r => te el 8 (r + 17)) = fun _ => true := by kernel_rfl
end Go.Proofs.YtblgmohafnpecaaGreatDoor.Ev
/- TopBunched: all numbers. -/
namespace Go.Proofs.YtblgmohafnpecaaGreatDoor.Ev
set_option linter.unusedVariables false
set_option maxRecDepth 100000
open Go Go.Proofs Go.RowKit
theorem pick_te {el n a m r : Nat} (h : (fun el => (List.range m).all fun r => te el n (r + a)) = fun _ => true) (h1 : a ≤ r) (h2 : r < a + m) : te el n r = true := by
  have := List.all_eq_true.1 (congrFun h el) (r - a) (List.mem_range.2 (by omega))
  rwa [show r - a + a = r by omega] at this
theorem te_1 (el r : Nat) (h : r < 1) : te el 1 r = true := by
  exact pick_te h_1_0 (by omega) (by omega)
theorem te_2 (el r : Nat) (h : r < 2) : te el 2 r = true := by
  exact pick_te h_2_0 (by omega) (by omega)
theorem te_3 (el r : Nat) (h : r < 3) : te el 3 r = true := by
  exact pick_te h_3_0 (by omega) (by omega)
theorem te_4 (el r : Nat) (h : r < 5) : te el 4 r = true := by
  exact pick_te h_4_0 (by omega) (by omega)
theorem te_5 (el r : Nat) (h : r < 7) : te el 5 r = true := by
  exact pick_te h_5_0 (by omega) (by omega)
theorem te_6 (el r : Nat) (h : r < 11) : te el 6 r = true := by
  rcases (show (0 ≤ r ∧ r < 5) ∨ (5 ≤ r ∧ r < 11) by omega) with h | h
  · exact pick_te h_6_0 (by omega) (by omega)
  · exact pick_te h_6_5 (by omega) (by omega)
theorem te_7 (el r : Nat) (h : r < 15) : te el 7 r = true := by
  rcases (show (0 ≤ r ∧ r < 5) ∨ (5 ≤ r ∧ r < 10) ∨ (10 ≤ r ∧ r < 15) by omega) with h | h | h
  · exact pick_te h_7_0 (by omega) (by omega)
  · exact pick_te h_7_5 (by omega) (by omega)
  · exact pick_te h_7_10 (by omega) (by omega)
theorem te_8 (el r : Nat) (h : r < 22) : te el 8 r = true := by
  rcases (show (0 ≤ r ∧ r < 3) ∨ (3 ≤ r ∧ r < 7) ∨ (7 ≤ r ∧ r < 12) ∨ (12 ≤ r ∧ r < 17) ∨ (17 ≤ r ∧ r < 22) by omega) with h | h | h | h | h
  · exact pick_te h_8_0 (by omega) (by omega)
  · exact pick_te h_8_3 (by omega) (by omega)
  · exact pick_te h_8_7 (by omega) (by omega)
  · exact pick_te h_8_12 (by omega) (by omega)
  · exact pick_te h_8_17 (by omega) (by omega)
theorem bun_te (el k r : Nat) (hk : k < 8) (hr : r < cT (1 + k)) : te el (1 + k) r = true := by
  rcases (show k = 0 ∨ k = 1 ∨ k = 2 ∨ k = 3 ∨ k = 4 ∨ k = 5 ∨ k = 6 ∨ k = 7 by omega) with rfl | rfl | rfl | rfl | rfl | rfl | rfl | rfl
  · exact te_1 el r hr
  · exact te_2 el r hr
  · exact te_3 el r hr
  · exact te_4 el r hr
  · exact te_5 el r hr
  · exact te_6 el r hr
  · exact te_7 el r hr
  · exact te_8 el r hr
theorem cT_pos (k : Nat) (hk : k < 8) : 0 < cT (1 + k) := by
  rcases (show k = 0 ∨ k = 1 ∨ k = 2 ∨ k = 3 ∨ k = 4 ∨ k = 5 ∨ k = 6 ∨ k = 7 by omega) with rfl | rfl | rfl | rfl | rfl | rfl | rfl | rfl <;> decide
theorem bun_walk (a b : Nat) (ha : a ≤ 255) (hb : b ≤ 255) (w : World) (el : TypeId) (hw : Holds w [(1, el, kL .u8 zs64)]) : Calls Tryz.prog 3 #[.int .u8 (a : Int), .int .u8 (b : Int)] w fun e w' => e = .returned (.bool true) ∧ Below w.heap.size w w' :=
  lawT [(1, el, kL .u8 zs64)] Tryz.func3 b3 k3 r3 (args := .cons (.i .u8 (a : Int)) (.cons (.i .u8 (b : Int)) .nil)) (by simp [L.length]) (bun_run el a b ha hb (bun_te el _ _ (Nat.mod_lt _ (by omega)) (Nat.mod_lt _ (cT_pos _ (Nat.mod_lt _ (by omega)))))) (vs := [.int .u8 (a : Int), .int .u8 (b : Int)]) (fun _ => ⟨_, _, rfl, rfl, _, _, rfl, rfl, rfl⟩) w hw
end Go.Proofs.YtblgmohafnpecaaGreatDoor.Ev
