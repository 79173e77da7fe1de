/- A stage of which some slots and the cells of some blocks are kept. -/
import Derived.Test.YtjhgingmbklhaaaEvPe
namespace Go.Proofs.Ytjhgingmbklhaaa.Ev
set_option linter.unusedVariables false
open Go Go.Proofs Go.RowKit
noncomputable def okB (el : TypeId) (l : L) (ob : Option Blk) : Bool := Option.rec false (fun b => and (Nat.beq b.el el) (and (Nat.ble l.length b.size) (eqL (b.getL 0 l.length) l))) ob
theorem okB_le {el : TypeId} {l : L} {ob : Option Blk} (h : okB el l ob = true) : ∃ b, ob = some b ∧ BlkLe (blkL el l) b := by
  cases ob with
  | none => cases h
  | some b =>
    have h : and (Nat.beq b.el el) (and (Nat.ble l.length b.size) (eqL (b.getL 0 l.length) l)) = true := h
    simp only [Bool.and_eq_true, Nat.beq_eq, Nat.ble_eq] at h
    refine ⟨b, rfl, .inl rfl, h.1.symm, h.2.1, fun k hk => .inr ?_⟩
    have hk : k < l.length := hk
    rw [blkL_cell el l k hk, ← eqL_eq _ _ h.2.2, getL_get b _ _ _ hk, Nat.zero_add]
noncomputable def hpC : List (Nat × TypeId × L) → Hp
  | [] => .lf
  | x :: l => (hpC l).put (some (blkL x.2.1 x.2.2)) (tp x.1)
noncomputable def okK (h : Hp) (bl : List (Nat × TypeId × L)) : Bool := List.rec true (fun x _ ih => and (okB x.2.1 x.2.2 (h.get (tp x.1))) ih) bl
theorem okK_le {h : Hp} : ∀ {l : List (Nat × TypeId × L)}, okK h l = true → HpLe (hpC l) h
  | [], _ => HpLe.lf h
  | x :: l, e => by
    have e : and (okB x.2.1 x.2.2 (h.get (tp x.1))) (okK h l) = true := e
    rw [Bool.and_eq_true] at e
    exact HpLe.put (okB_le e.1) (okK_le e.2)
noncomputable def obsC (m : Nat) (ts : List Nat) (bl : List (Nat × TypeId × L)) (r : Rs) : Bool × List V × Bool := (pcN m r, ts.map (fun t => (pcE r).get (tp t)), okK (pcH r) bl)
theorem JQ.stageC {P : Program} (hP : P.follows .mixedOrders = true) {dr : List Nat} {N lim n m : Nat} {F : FF} (hF : FOK P F) (hM : F.mono) {q qb : IC} (ps : List IC) {K : Rs → Prop} {e : Tr} {h : Hp} (l : List (Nat × V)) (bl : List (Nat × TypeId × L)) (hq : q = seqs ps qb)
    (hk : obsC m (l.map Prod.fst) bl (runP F lim m ps (.nor e h n)) = (true, l.map Prod.snd, true)) (hl : (l.all fun x => decide (x.1 < 4294967296)) = true) (hm : m < big)
    (j : JQ P dr N F qb lim K (mkE l) (hpC bl) m) : JQ P dr N F q lim K e h n := by
  subst hq
  unfold obsC at hk
  simp only [Prod.mk.injEq] at hk
  obtain ⟨h1, h2, h3⟩ := hk
  obtain ⟨n1, h4, h5⟩ := pcN_ok h1
  exact JQ.pieces hP hF hM hm h5 (JQ.later h5 (JQ.weak (mkE_le hl h2) (okK_le h3) j)) ps h4
/-! To look at places: numbers only. -/
noncomputable def pnV (v : V) : Nat := onS v (fun p _ _ _ _ => p.num) 0 (onP v (fun p _ => p.num) 0)
noncomputable def cellH (h : Hp) (v : V) (k : Nat) : V := onS v (fun p o _ _ _ => Option.rec .bad (fun b => Blk.cell b (Nat.add o k)) (h.get p)) .bad (onP v (fun p o => Option.rec .bad (fun b => Blk.cell b (Nat.add o k)) (h.get p)) .bad)
noncomputable def encN (l : List Nat) : Nat := List.rec 1 (fun x _ ih => Nat.add (Nat.mul ih 1000000) x) l
end Go.Proofs.Ytjhgingmbklhaaa.Ev
